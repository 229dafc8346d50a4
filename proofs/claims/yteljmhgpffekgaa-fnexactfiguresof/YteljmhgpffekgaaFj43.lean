/-
  The source of drawn things: a chance, proved by walking its method.
-/
import Derived.Test.YteljmhgpffekgaaFj12
import Derived.Test.YteljmhgpffekgaaFj42
import Derived.Deep.RegionWith
namespace Go.Proofs.Yteljmhgpffekgaa
open Go.RowKit
set_option linter.unusedVariables false

set_option maxRecDepth 100000 in
set_option maxHeartbeats 400000 in
theorem chance_any (B : Nat) (v : Value) (l : List Int) (m n : Int) (w : World) (h : Src B w v l m) (hm : m ≤ 1000000000) (h1 : 1 ≤ n) (h2 : n ≤ 1073741824) :
    Calls Try.prog 57 #[.pointer (some ⟨B, 0, none⟩), .int .i64 n] w fun e w' => ∃ b : Bool, e = .returned (.bool b) ∧ SrcEnd B w v l (m + 3) w' := by
  have HS := hide h
  clear h
  go_enter Try.func57, Try.ntmps57
  go_wp2_with fail
  refine (next_any B v l m n _ (unhide HS) hm h1 h2).mono ?_
  rintro e w1 ⟨y, rfl, hy0, hy1, hE⟩
  have HE := hide hE
  clear hE
  go_wp2_with fail
  go_ret
  exact ⟨_, rfl, unhide HE⟩
end Go.Proofs.Yteljmhgpffekgaa
namespace Go.Proofs.Yteljmhgpffekgaa
open Go.RowKit
set_option linter.unusedVariables false

theorem gr_alloc (w : World) (o : Obj) (row : Option Nat) : w.grownBy (w.alloc o) row :=
  ⟨rfl, rfl, rfl, by simp, fun k hk _ => ((Below.refl _ w).alloc (Nat.le_refl _) o).block k hk⟩
theorem src_lt {B : Nat} {w : World} {v : Value} {l : List Int} {m : Int} (h : Src B w v l m) : B < w.heap.size := World.block_lt_of_cell? w _ h.code
theorem src_alloc {B : Nat} {w0 w : World} {v : Value} {l : List Int} {m : Int} (h : SrcEnd B w0 v l m w) (o : Obj) : SrcEnd B w0 v l m (w.alloc o) := by
  have hB := src_lt h.1
  obtain ⟨a, s, k1, k2, k3, k4, k5, k6⟩ := h.1.cells
  have e : ∀ i, (w.alloc o).cell? ⟨B, i, none⟩ = w.cell? ⟨B, i, none⟩ := fun i => World.cell?_alloc_lt _ _ ⟨B, i, none⟩ hB
  have f : ∀ i, (w.alloc o).frozen? ⟨B, i, none⟩ = w.frozen? ⟨B, i, none⟩ := fun i => World.frozen?_of_block (a := ⟨B, i, none⟩) ((gr_alloc w o none).block B hB (by simp))
  exact ⟨⟨rd_grown h.1.rd (gr_alloc w o _) h.1.ne, h.1.ne, h.1.bts, (e 0).trans h.1.code, ⟨a, s, k1, k2, k3, k4, (e 1).trans k5, (e 2).trans k6⟩, (f 1).trans h.1.free1, (f 2).trans h.1.free2⟩, gr_trans h.2 (gr_alloc w o _)⟩

theorem rd_new {w : World} {v : Value} {l : List Int} (h : Rd w v l) (hne : l ≠ []) : v.ownBlock ≠ some w.heap.size := by
  obtain ⟨a, cap, rfl, _, hc⟩ := h
  obtain ⟨b, off, rfl, hcell⟩ := hc hne
  have := World.block_lt_of_cell? w _ (hcell 0 (List.length_pos_iff.2 hne))
  simp only [Value.ownBlock, ne_eq, Option.some.injEq]
  intro e
  simp only at this
  omega
theorem source_any (v : Value) (l : List Int) (w : World) (h : Rd w v l) (hb : Bts l) :
    Calls Try.prog 30 #[v] w fun e w' => e = .returned (.pointer (some ⟨w.heap.size, 0, none⟩)) ∧ Src w.heap.size w' v l 0 ∧ Below w.heap.size w w' := by
  have HR := hide h
  have HB := hide hb
  have HV := hide (fun hne => rd_new h hne)
  obtain ⟨a, cap, rfl, hl, _⟩ := h
  clear hb
  go_enter Try.func30, Try.ntmps30
  go_wp2_with fail
  go_ret
  refine ⟨rfl, ⟨rd_grown (unhide HR) (gr_alloc w _ _) (unhide HV), unhide HV, unhide HB, cell_of_row _ _ _ _ _ (0, 0) (heap_alloc_new w _), ⟨0, (l.length : Int) % 1000, by omega, by omega, by omega, by omega, cell_of_row _ _ _ _ _ (0, 0) (heap_alloc_new w _), cell_of_row _ _ _ _ _ (0, 0) (heap_alloc_new w _)⟩, ?_, ?_⟩, (Below.refl _ w).alloc (Nat.le_refl _) _⟩
  all_goals
    unfold World.frozen?
    rw [heap_alloc_new]
    simp

theorem own_below_grown {w w1 w' : World} {B : Nat} (h1 : Below w.heap.size w w1) (hB : w.heap.size ≤ B) (h2 : w1.grownBy w' (some B)) : Below w.heap.size w w' :=
  h1.trans (gr_below h2 hB h1.size)
end Go.Proofs.Yteljmhgpffekgaa
namespace Go.Proofs.Yteljmhgpffekgaa
open Go.RowKit
set_option linter.unusedVariables false

theorem sub_one (W : World) : (binOp .sub 29 (.float .f64 4607182418800017408) (.float .f64 4607182418800017408)).run Try.prog W = .ok (.float .f64 0) W := by
  have h : FloatKind.f64.format.sub 4607182418800017408 4607182418800017408 = some 0 := by kernel_rfl
  simp [binOp, Op.floatArith, h]
theorem neg_zero (W : World) : (Op.unary .neg (.float .f64 0)).run Try.prog W = .ok (.float .f64 9223372036854775808) W := by
  kernel_rfl
theorem one_zero (W : World) : (binOp .quo 29 (.float .f64 4607182418800017408) (.float .f64 0)).run Try.prog W = .ok (.float .f64 9218868437227405312) W := by
  have h : FloatKind.f64.format.div 4607182418800017408 0 = some 9218868437227405312 := by kernel_rfl
  simp [binOp, Op.floatArith, h]
theorem less_zero (W : World) : (binOp .quo 29 (.float .f64 13830554455654793216) (.float .f64 0)).run Try.prog W = .ok (.float .f64 18442240474082181120) W := by
  have h : FloatKind.f64.format.div 13830554455654793216 0 = some 18442240474082181120 := by kernel_rfl
  simp [binOp, Op.floatArith, h]
/-- The bits that are drawn for a number that is none. -/
def nanOf (W : World) : Nat := (Question.nanBits .f64 0 0).cut (W.tape W.drawn (.nanBits .f64 0 0))
theorem nanOf_lt (W : World) : nanOf W < 18446744073709551616 := by
  have h : nanOf W = (W.tape W.drawn (.nanBits .f64 0 0) % 2) * 2 ^ 63 + 0x7ff0000000000000 + 1 + (W.tape W.drawn (.nanBits .f64 0 0) / 2) % (2 ^ 52 - 1) := rfl
  rw [h]
  omega
theorem zero_zero (W : World) : (binOp .quo 29 (.float .f64 0) (.float .f64 0)).run Try.prog W = .ok (.float .f64 (nanOf W)) W.drew := by
  have h : FloatKind.f64.format.div 0 0 = none := by kernel_rfl
  simp [binOp, Op.floatArith, h, nanOf, choose]
  rfl

theorem zero_any (w : World) : Calls Try.prog 49 #[] w fun e w' => e = .returned (.float .f64 0) ∧ w' = w := by
  have h := sub_one
  go_enter Try.func49, Try.ntmps49
  go_wp2_with fail
  go_ret
  exact ⟨rfl, rfl⟩

theorem size_any (B : Nat) (v : Value) (l : List Int) (m most : Int) (w : World) (h : Src B w v l m) (h0 : 1 ≤ most) (h1 : most ≤ 1000000) :
    Calls Try.prog 56 #[.pointer (some ⟨B, 0, none⟩), .int .i64 most] w fun e w' => ∃ y : Int, e = .returned (.int .i64 y) ∧ 1 ≤ y ∧ y ≤ most ∧ w' = w := by
  have c := h.code
  obtain ⟨a, cap, rfl, hl, _⟩ := h.rd
  clear h
  go_enter Try.func56, Try.ntmps56
  go_wp2_with fail
  all_goals go_ret
  all_goals exact ⟨_, rfl, by omega, by omega, rfl⟩

theorem frombitsS (n : Int) (w : World) : (callFunc 62 #[.int .u64 n]).run Try.prog w = .ok (.value (.float .f64 n.toNat)) w := by
  rw [run_callFunc_extern (e := Extern.MathFloatBits.float64frombits) Try.func62 (by kernel_rfl) (by kernel_rfl) (by kernel_rfl) (by kernel_rfl)]
  rfl

theorem copysign_any (w : World) : Calls Try.prog 84 #[.float .f64 0, .float .f64 13830554455654793216] w fun e w' => ∃ y : Nat, e = .returned (.float .f64 y) ∧ y < 18446744073709551616 ∧ w' = w := by
  have h1 := fbits
  have h2 := frombitsS
  go_enter Try.func84, Try.ntmps84
  go_wp2_with fail
  go_ret
  exact ⟨_, rfl, by decide +kernel, rfl⟩

theorem float_row (k n y : Nat) (w : World) (t : TypeId) (h : k < 15) (hn : n < 18446744073709551616) (hy : y < 18446744073709551616) :
    ∃ z : Nat, z < 18446744073709551616 ∧ (w.alloc (.cells #[.float .f64 0, .float .f64 9223372036854775808, .float .f64 n, .float .f64 9218868437227405312, .float .f64 18442240474082181120, .float .f64 4598175219545276416, .float .f64 4636737291354636288, .float .f64 4636719699168591872,
      .float .f64 4687829947429945344, .float .f64 4687829956019879936, .float .f64 4591870180066957722, .float .f64 13830554455654793216, .float .f64 y, .float .f64 9094988921128908188, .float .f64 1] t)).cell? ⟨w.heap.size, k, none⟩ = some (.float .f64 z) := by
  rcases (show k = 0 ∨ k = 1 ∨ k = 2 ∨ k = 3 ∨ k = 4 ∨ k = 5 ∨ k = 6 ∨ k = 7 ∨ k = 8 ∨ k = 9 ∨ k = 10 ∨ k = 11 ∨ k = 12 ∨ k = 13 ∨ k = 14 by omega) with rfl | rfl | rfl | rfl | rfl | rfl | rfl | rfl | rfl | rfl | rfl | rfl | rfl | rfl | rfl
  all_goals first | exact ⟨_, by decide, cell_of_row _ _ _ _ _ (0, 0) (heap_alloc_new w _)⟩ | exact ⟨_, hn, cell_of_row _ _ _ _ _ (0, 0) (heap_alloc_new w _)⟩ | exact ⟨_, hy, cell_of_row _ _ _ _ _ (0, 0) (heap_alloc_new w _)⟩

set_option maxRecDepth 100000 in
set_option maxHeartbeats 800000 in
theorem float_drawn (B : Nat) (v : Value) (l : List Int) (m : Int) (w : World) (h : Src B w v l m) (hm : m ≤ 900000000) :
    Calls Try.prog 58 #[.pointer (some ⟨B, 0, none⟩)] w fun e w' => ∃ y : Nat, e = .returned (.float .f64 y) ∧ y < 18446744073709551616 ∧ SrcEnd B w v l (m + 3) w' := by
  have HS := hide h
  have hB := src_lt h
  clear h
  have e1 := neg_zero
  have e2 := one_zero
  have e3 := less_zero
  have e4 := zero_zero
  go_enter Try.func58, Try.ntmps58
  go_wp2_with (first | (go_at_call 49; refine (zero_any _).mono ?_; rintro e w' ⟨rfl, rfl⟩) | (go_at_call 84; refine (copysign_any _).mono ?_; rintro e w' ⟨y0, rfl, hy0, rfl⟩))
  have hn := nanOf_lt w'
  generalize nanOf w' = n0 at *
  refine (next_any B v l m 15 _ (src_drew (src_alloc (src_refl (unhide HS)) _) 1).1 (by omega) (by omega) (by omega)).mono ?_
  rintro e w1 ⟨y, rfl, hy0', hy1, hE⟩
  obtain ⟨k, rfl⟩ := Int.eq_ofNat_of_zero_le hy0'
  obtain ⟨z, hz1, hz⟩ := float_row k n0 y0 w' 29 (by omega) hn hy0
  have HE := hide (show SrcEnd B w' v l (m + 3) w1 from ⟨hE.1, gr_trans (gr_trans (gr_alloc w' _ _) (gr_drewN _ 1 _)) hE.2⟩)
  have hc := hE.2.cell (show (World.drewN _ 1).cell? _ = _ from hz) (by simp; omega)
  clear hE hz e1 e2 e3 e4
  go_wp2_with fail
  go_ret
  exact ⟨_, rfl, hz1, unhide HE⟩
end Go.Proofs.Yteljmhgpffekgaa
