/-
  Proved: for every totals and every book the exact law of FiguresOf returns true, and both read afterwards as they read before; no condition.
-/
import Derived.Test.YteljmhgpffekgaaRows
import Derived.Test.YteljmhgpffekgaaFj48
import Derived.WalkKit
import Derived.ProofKit
import Derived.OpenShut
import Derived.ShutString
import Derived.ChangeOld
import Derived.Below
namespace Go.Proofs.Yteljmhgpffekgaa.fnExactFiguresOf
open Go.ChangeShapes Go.WideShapes Go.ChangeAt Go.RowKit
open Go.ChangeMaps (open_string shut_string)
set_option linter.unusedVariables false

theorem own : ownKnob Try.prog.godebug = none := by kernel_rfl
theorem laidOut : laidOutB Try.prog = true := by kernel_rfl

theorem walk (t0 : TtF) (n1 : Int) (a1 : Option Addr) (len1 cap1 : Nat) (w : World) (w0 : t0.ok) (w1 : (Lit.int .i64 n1).wf = true ∧ IsOrders w a1 len1 cap1) :
    Calls Try.prog 5 #[.agg #[.int .i64 t0.a, .int .i64 t0.b, .int .i64 t0.c, .int .i64 t0.d, .int .i64 t0.e, .int .i64 t0.f, .int .i64 t0.g, .int .i64 t0.h], .agg #[.int .i64 n1, .slice a1 len1 cap1]] w fun e w' => e = .returned (.bool true) ∧ Below w.heap.size w w' := by
  exact lawFig t0 n1 a1 len1 cap1 w w1

set_option maxRecDepth 100000 in
theorem lifted (os : Os) (started : os.Started) (H : Type) (enc : TypeId × Value → H) :
    ReturnsInHanded {} Try.checked os 5 .any (Rows.fnExactFiguresOfSpec.pre6 enc Try.prog Try.f5 Rows.fnExactFiguresOfRow.domain false) (Rows.fnExactFiguresOfSpec.post enc Try.prog Try.f5 false true false false) := by
  refine returnsInHanded_of_change (C := Try.checked) own started (by kernel_rfl) Try.func5
    (ChangeSpec.witness6 (enc := enc) (C := Try.checked) false ⟨#[], #[.agg #[.int .i64 0, .int .i64 0, .int .i64 0, .int .i64 0, .int .i64 0, .int .i64 0, .int .i64 0, .int .i64 0], .agg #[.int .i64 0, .slice none 0 0]], []⟩ 8 (by kernel_rfl) (by kernel_rfl) (by kernel_rfl) (by kernel_rfl)) ?_
  intro W base args ds gs before hval0 hW hcnd _
  have hval : ∀ (j : Nat) t v, Try.f5.params[j]? = some t → args[j]? = some v → Value.okWide Try.prog W .any base t v := hval0
  have hW' := hW
  obtain ⟨p, q, hA0, hV, rfl, hfz, hnd⟩ := hW
  have hA : DataW.TrodAll enc Try.prog W 0 (fun _ => true) true Try.f5.params.toList args.toList ds p := hA0
  rw [Try.params5] at hA hval
  obtain ⟨v0, vs0, d0, ds0, p0, q0, hargs, rfl, rfl, h0, r0⟩ := trodAll_cons hA
  obtain ⟨v1, vs1, d1, ds1, p1, q1, rfl, rfl, rfl, h1, r1⟩ := trodAll_cons r0
  obtain ⟨rfl, rfl, rfl⟩ := trodAll_nil r1
  obtain rfl : args = #[v0, v1] := by cases args; simp_all
  obtain ⟨rfl, rfl⟩ := trodVars_none hV
  obtain ⟨cs0, rfl, hsz0⟩ := okWide_struct Try.underlying53 (hval 0 53 v0 rfl rfl)
  have k0 := h0
  have lt0 : ∀ x ∈ p0, x.block < W.heap.size := by obtain ⟨m, hm⟩ := k0; exact DataW.trod_lt m _ _ _ hm
  obtain ⟨t0, rfl, w0⟩ : ∃ c : TtF, cs0 = #[.int .i64 c.a, .int .i64 c.b, .int .i64 c.c, .int .i64 c.d, .int .i64 c.e, .int .i64 c.f, .int .i64 c.g, .int .i64 c.h] ∧ c.ok := by
    obtain ⟨fuel, hf⟩ := h0
    obtain ⟨c, e, hw⟩ := ttF_opened hf
    have e' : cs0.toList = c.vs := e
    exact ⟨c, by cases cs0; simpa [TtF.vs] using e', hw⟩
  obtain ⟨cs1, rfl, hsz1⟩ := okWide_struct Try.underlying56 (hval 1 56 v1 rfl rfl)
  have k1 := h1
  have lt1 : ∀ x ∈ p1, x.block < W.heap.size := by obtain ⟨m, hm⟩ := k1; exact DataW.trod_lt m _ _ _ hm
  obtain ⟨n1, a1, len1, cap1, rfl, w1⟩ : ∃ n a len cap, cs1 = #[.int .i64 n, .slice a len cap] ∧ (Lit.int .i64 n).wf = true ∧ IsOrders W a len cap := by
    obtain ⟨fuel, hf⟩ := h1
    obtain ⟨n, a, len, cap, e, hw, ho⟩ := book_opened hf
    have e' : cs1.toList = [.int .i64 n, .slice a len cap] := e
    exact ⟨n, a, len, cap, by cases cs1; simpa using e', hw, ho⟩
  clear hA0 hval0
  refine (walk t0 n1 a1 len1 cap1 W w0 w1).mono fun e W' ⟨he, bel⟩ => ?_
  subst he
  exact ⟨_, rfl, _, _, _, [], _, [], hW', trodAll_mk1 (shut_bool Try.underlying4 _), (trodAll_cons_mk (Below.trod laidOut (by kernel_rfl) (of_decide_eq_true (by kernel_rfl)) k0 bel lt0) (trodAll_cons_mk (Below.trod laidOut (by kernel_rfl) (of_decide_eq_true (by kernel_rfl)) k1 bel lt1) trodAll_mk0)), rfl, bel.frame _, fun h => by cases h⟩

theorem over : Rows.fnExactFiguresOfRow.holds Try.pinned (OpenSpec.ofChange Rows.fnExactFiguresOfSpec) :=
  OpenClaim.holds_of_wide 5 Try.f5 rfl rfl rfl rfl rfl rfl rfl ⟨rfl, rfl, rfl, rfl, rfl⟩ rfl rfl rfl rfl rfl (by kernel_rfl) Try.func5 (by kernel_rfl)
    (of_decide_eq_true (by kernel_rfl)) (by unfold Func.isWrapper; first | (rw [if_pos (by decide +kernel)]; kernel_rfl) | (rw [if_neg (by decide +kernel)]; exact ⟨rfl, rfl⟩))
    (fun os started H enc _ => lifted os started H enc)

theorem proved : Rows.FnExactFiguresOfSaid := over
#print axioms proved
end Go.Proofs.Yteljmhgpffekgaa.fnExactFiguresOf
