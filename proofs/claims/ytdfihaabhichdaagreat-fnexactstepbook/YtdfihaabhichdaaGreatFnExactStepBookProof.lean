/-
  Proved: for every book and every command the exact law of StepBook returns true, and both read afterwards as they read before; no condition.
-/
import Derived.Test.YtdfihaabhichdaaGreatRows
import Derived.Test.YtdfihaabhichdaaGreatSj49
import Derived.WalkKit
import Derived.ProofKit
import Derived.OpenShut
import Derived.ShutString
import Derived.ChangeOld
import Derived.Below
namespace Go.Proofs.YtdfihaabhichdaaGreat.fnExactStepBook
open Go.ChangeShapes Go.WideShapes Go.ChangeAt Go.RowKit
open Go.ChangeMaps (open_string shut_string)
set_option linter.unusedVariables false

theorem own : ownKnob Tryz.prog.godebug = none := by kernel_rfl
theorem laidOut : laidOutB Tryz.prog = true := by kernel_rfl

theorem walk (n0 : Int) (a0 : Option Addr) (len0 cap0 : Nat) (c1 : Cm) (w : World) (w0 : (Lit.int .i64 n0).wf = true ∧ IsOrders w a0 len0 cap0) (w1 : c1.ok) :
    Calls Tryz.prog 3 #[.agg #[.int .i64 n0, .slice a0 len0 cap0], .agg #[.int .i64 c1.k, .int .i64 c1.s, .int .i64 c1.t, .int .i64 c1.l, .int .i64 c1.q, .int .i64 c1.i, .float .f64 c1.p, .string c1.g]] w fun e w' => e = .returned (.bool true) ∧ Below w.heap.size w w' := by
  exact lawStep n0 a0 len0 cap0 c1 w w0 w1

set_option maxRecDepth 100000 in
theorem lifted (os : Os) (started : os.Started) (H : Type) (enc : TypeId × Value → H) :
    ReturnsInHanded {} Tryz.checked os 3 .any (Rows.fnExactStepBookSpec.pre6 enc Tryz.prog Tryz.f3 Rows.fnExactStepBookRow.domain false) (Rows.fnExactStepBookSpec.post enc Tryz.prog Tryz.f3 false true false false) := by
  refine returnsInHanded_of_change (C := Tryz.checked) own started (by kernel_rfl) Tryz.func3
    (ChangeSpec.witness6 (enc := enc) (C := Tryz.checked) false ⟨#[], #[.agg #[.int .i64 0, .slice none 0 0], .agg #[.int .i64 0, .int .i64 0, .int .i64 0, .int .i64 0, .int .i64 0, .int .i64 0, .float .f64 0, .string ⟨#[]⟩]], []⟩ 8 (by kernel_rfl) (by kernel_rfl) (by kernel_rfl) (by kernel_rfl)) ?_
  intro W base args ds gs before hval0 hW hcnd _
  have hval : ∀ (j : Nat) t v, Tryz.f3.params[j]? = some t → args[j]? = some v → Value.okWide Tryz.prog W .any base t v := hval0
  have hW' := hW
  obtain ⟨p, q, hA0, hV, rfl, hfz, hnd⟩ := hW
  have hA : DataW.TrodAll enc Tryz.prog W 0 (fun _ => true) true Tryz.f3.params.toList args.toList ds p := hA0
  rw [Tryz.params3] at hA hval
  obtain ⟨v0, vs0, d0, ds0, p0, q0, hargs, rfl, rfl, h0, r0⟩ := trodAll_cons hA
  obtain ⟨v1, vs1, d1, ds1, p1, q1, rfl, rfl, rfl, h1, r1⟩ := trodAll_cons r0
  obtain ⟨rfl, rfl, rfl⟩ := trodAll_nil r1
  obtain rfl : args = #[v0, v1] := by cases args; simp_all
  obtain ⟨rfl, rfl⟩ := trodVars_none hV
  obtain ⟨cs0, rfl, hsz0⟩ := okWide_struct Tryz.underlying24 (hval 0 24 v0 rfl rfl)
  have k0 := h0
  have lt0 : ∀ x ∈ p0, x.block < W.heap.size := by obtain ⟨m, hm⟩ := k0; exact DataW.trod_lt m _ _ _ hm
  obtain ⟨n0, a0, len0, cap0, rfl, w0⟩ : ∃ n a len cap, cs0 = #[.int .i64 n, .slice a len cap] ∧ (Lit.int .i64 n).wf = true ∧ IsOrders W a len cap := by
    obtain ⟨fuel, hf⟩ := h0
    obtain ⟨n, a, len, cap, e, hw, ho⟩ := book_opened hf
    have e' : cs0.toList = [.int .i64 n, .slice a len cap] := e
    exact ⟨n, a, len, cap, by cases cs0; simpa using e', hw, ho⟩
  obtain ⟨cs1, rfl, hsz1⟩ := okWide_struct Tryz.underlying27 (hval 1 27 v1 rfl rfl)
  have k1 := h1
  have lt1 : ∀ x ∈ p1, x.block < W.heap.size := by obtain ⟨m, hm⟩ := k1; exact DataW.trod_lt m _ _ _ hm
  obtain ⟨c1, rfl, w1⟩ : ∃ c : Cm, cs1 = #[.int .i64 c.k, .int .i64 c.s, .int .i64 c.t, .int .i64 c.l, .int .i64 c.q, .int .i64 c.i, .float .f64 c.p, .string c.g] ∧ c.ok := by
    obtain ⟨fuel, hf⟩ := h1
    obtain ⟨c, e, hw⟩ := cm_opened hf
    have e' : cs1.toList = c.vs := e
    exact ⟨c, by cases cs1; simpa [Cm.vs] using e', hw⟩
  clear hA0 hval0
  refine (walk n0 a0 len0 cap0 c1 W w0 w1).mono fun e W' ⟨he, bel⟩ => ?_
  subst he
  exact ⟨_, rfl, _, _, _, [], _, [], hW', trodAll_mk1 (shut_bool Tryz.underlying4 _), (trodAll_cons_mk (Below.trod laidOut (by kernel_rfl) (of_decide_eq_true (by kernel_rfl)) k0 bel lt0) (trodAll_cons_mk (Below.trod laidOut (by kernel_rfl) (of_decide_eq_true (by kernel_rfl)) k1 bel lt1) trodAll_mk0)), rfl, bel.frame _, fun h => by cases h⟩

theorem over : Rows.fnExactStepBookRow.holds Tryz.pinned (OpenSpec.ofChange Rows.fnExactStepBookSpec) :=
  OpenClaim.holds_of_wide 3 Tryz.f3 rfl rfl rfl rfl rfl rfl rfl ⟨rfl, rfl, rfl, rfl, rfl⟩ rfl rfl rfl rfl rfl (by kernel_rfl) Tryz.func3 (by kernel_rfl)
    (of_decide_eq_true (by kernel_rfl)) (by unfold Func.isWrapper; first | (rw [if_pos (by decide +kernel)]; kernel_rfl) | (rw [if_neg (by decide +kernel)]; exact ⟨rfl, rfl⟩))
    (fun os started H enc _ => lifted os started H enc)

theorem proved : Rows.FnExactStepBookSaid := over
#print axioms proved
end Go.Proofs.YtdfihaabhichdaaGreat.fnExactStepBook
