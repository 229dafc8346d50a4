/-
  Commands held against each other, by the program: proved by walking the function.
-/
import Derived.Test.YtdfihaabhichdaaRj22
namespace Go.Proofs.Ytdfihaabhichdaa
open Go.RowKit
set_option linter.unusedVariables false

def ofC (c : Cm) : Ev := ⟨0, c, 0, 0, 0, 0, 0⟩
/-- Two commands are one: every NaN counts as one, and the noughts are two. -/
def sameC (c d : Cm) : Bool := (c.k == d.k) && ((c.s == d.s) && ((c.t == d.t) && ((c.l == d.l) && ((c.q == d.q) && ((c.i == d.i) && ((fbit c.p == fbit d.p) && decide (c.g.toList = d.g.toList)))))))
theorem eqVl (c d : Cm) (W : World) : (binOp .eql 102 (vlV (ofC c)) (vlV (ofC d))).run Try.prog W = .ok (.bool (sameC c d)) W := by
  unfold vlV ofC
  simp only
  go_simp
  unfold sameC
  by_cases h1 : c.k = d.k
  · by_cases h2 : c.s = d.s
    · by_cases h3 : c.t = d.t
      · by_cases h4 : c.l = d.l
        · by_cases h5 : c.q = d.q
          · by_cases h6 : c.i = d.i
            · by_cases h7 : fbit c.p = fbit d.p
              · by_cases h8 : c.g.toList = d.g.toList
                · simp [h1, h2, h3, h4, h5, h6, h7, h8]
                · simp [h1, h2, h3, h4, h5, h6, h7, h8]
              · have h7' : ¬ ((fbit c.p : Int) = fbit d.p) := by omega
                have h7b : (fbit c.p == fbit d.p) = false := by simpa using h7
                rw [if_neg h7', h7b]
                simp [h1, h2, h3, h4, h5, h6]
            · simp [h1, h2, h3, h4, h5, h6]
          · simp [h1, h2, h3, h4, h5]
        · simp [h1, h2, h3, h4]
      · simp [h1, h2, h3]
    · simp [h1, h2]
  · simp [h1]
theorem eqGd (c d : Cm) (W : World) : (eqGuard .eql 102 (.tmp 7) (.tmp 10) (vlV (ofC c)) (vlV (ofC d))).run Try.prog W = .ok () W := by
  unfold vlV ofC
  simp only
  go_simp
/-- What each operation has. -/
def CS (c d : Cm) : Nat → Value → Prop
  | 0, v => v = cmV c
  | 1, v => v = evV (ofC c)
  | 2, v => v = vlV (ofC c)
  | 3, v => v = cmV d
  | 4, v => v = evV (ofC d)
  | 5, v => v = vlV (ofC d)
  | 6, v => v = .bool (sameC c d)
  | 7, v => v = .bool (sameC c d)
  | _, _ => True
set_option maxRecDepth 100000 in
set_option maxHeartbeats 1600000 in
theorem sameCmd_any (c d : Cm) (w : World) :
    Calls Try.prog 34 #[cmV c, cmV d] w fun e w' => e = .returned (.bool (sameC c d)) ∧ Below w.heap.size w w' := by
  have hs1 : (w.alloc (Obj.cells c.vs.toArray 36)).heap.size = w.heap.size + 1 := size_made _ _
  have hs2 : ((w.alloc (Obj.cells c.vs.toArray 36)).alloc (Obj.cells d.vs.toArray 36)).heap.size = w.heap.size + 1 + 1 := by rw [size_made, hs1]
  have r0 := range_below (cells_made w c.vs 36) (C := w.heap.size + 1) ((Below.refl _ _).alloc (by rw [hs1]; omega) (Obj.cells d.vs.toArray 36)) (by omega)
  have r1 := cells_made (w.alloc (Obj.cells c.vs.toArray 36)) d.vs 36
  rw [hs1] at r1
  have HB0 : Hid (Below w.heap.size w ((w.alloc (Obj.cells c.vs.toArray 36)).alloc (Obj.cells d.vs.toArray 36))) := ((Below.refl _ _).alloc (Nat.le_refl _) _).alloc (by rw [hs1]; omega) _
  have HX : Hid (_ ∧ _) := ⟨r0, r1⟩
  have HS2 := hide hs2
  clear r0 r1 hs1 hs2
  unfold cmV
  go_enter Try.func34, Try.ntmps34
  go_wp2_with fail
  unfold Cm.vs at HB0 HX HS2
  generalize hW : ((w.alloc (Obj.cells (List.toArray [.int .i64 c.k, .int .i64 c.s, .int .i64 c.t, .int .i64 c.l, .int .i64 c.q, .int .i64 c.i, .float .f64 c.p, .string c.g]) 36)).alloc (Obj.cells (List.toArray [.int .i64 d.k, .int .i64 d.s, .int .i64 d.t, .int .i64 d.l, .int .i64 d.q, .int .i64 d.i, .float .f64 d.p, .string d.g]) 36)) = W at HB0 HX HS2
  refine wp_region_inv (RGrow W (fun f => { tmps := #[cmV c, cmV d, .pointer (some ⟨w.heap.size, 0, none⟩), .pointer (some ⟨w.heap.size + 1, 0, none⟩), f 7, f 0, f 1, f 2, f 3, f 4, f 5, f 6], defers := [] }) (CS c d)) (by kernel_rfl) ?_ ?_ ?_
  · refine ⟨upd (fun _ => undef) 7 (.bool false), rfl, ?_, fun j hj => by rw [List.getElem?_replicate] at hj; split at hj <;> simp at hj⟩
    rw [← hW]
    exact ⟨rfl, rfl, rfl, Nat.le_refl _, fun _ _ => rfl⟩
  · rintro x A V ⟨f, rfl, hbel, hC⟩ hx hrd
    have hall7 := ready_all hrd hx (acyc _ (by kernel_rfl)) 7 (by simp)
    have e7 : f 7 = .bool (sameC c d) := hC 7 hall7
    simp only [e7]
    have HBV := hide hbel
    clear hC hx hrd hall7 e7 hbel
    go_wp2_with fail
    go_ret
    exact ⟨rfl, (unhide HB0).trans ((unhide HBV).mono (unhide HB0).size)⟩
  · rintro x A V i o ⟨f, rfl, hbel, hC⟩ hx ho hxi hall
    have HBV := hide hbel
    have HC := hide hC
    have hw0 : w.heap.size < W.heap.size := by rw [unhide HS2]; omega
    have hw1 : w.heap.size + 1 < W.heap.size := by rw [unhide HS2]; omega
    match i, ho with
    | 0, ho =>
      simp only [List.getElem?_cons_zero, Option.some.injEq] at ho
      subst ho
      obtain ⟨x0, x1, x2, x3, x4, x5, x6, x7⟩ := cm_cells (c := c) (range_below (unhide HX).1 hbel hw0)
      simp only [Nat.zero_add] at x0 x1 x2 x3 x4 x5 x6 x7
      clear hall hC hbel
      rw [if_pos (by rfl)]
      unfold Oper.wp
      go_simp
      exact ⟨upd f 0 (cmV c), by simp [upd, cmV], unhide HBV, step_upd (unhide HC) rfl⟩
    | 1, ho =>
      simp only [List.getElem?_cons_succ, List.getElem?_cons_zero, Option.some.injEq] at ho
      subst ho
      have g0 : f 0 = cmV c := hC 0 (hall ⟨0, .data⟩ (by simp) rfl)
      clear hall hC hbel
      rw [if_pos (by rfl)]
      unfold Oper.wp
      unfold cmV at g0
      go_simp
      exact ⟨upd f 1 (evV (ofC c)), by simp [upd, evV, ofC, cmV, g0], unhide HBV, step_upd (unhide HC) rfl⟩
    | 2, ho =>
      simp only [List.getElem?_cons_succ, List.getElem?_cons_zero, Option.some.injEq] at ho
      subst ho
      have g1 : f 1 = evV (ofC c) := hC 1 (hall ⟨1, .data⟩ (by simp) rfl)
      clear hall hC hbel
      rw [if_pos (by rfl)]
      unfold Oper.wp
      go_simp
      refine (valueOf_any (ofC c) V).mono ?_
      rintro e w4 ⟨rfl, hb4⟩
      exact ⟨upd f 2 (vlV (ofC c)), by simp [upd, g1], (unhide HBV).trans (hb4.mono (unhide HBV).size), step_upd (unhide HC) rfl⟩
    | 3, ho =>
      simp only [List.getElem?_cons_succ, List.getElem?_cons_zero, Option.some.injEq] at ho
      subst ho
      obtain ⟨x0, x1, x2, x3, x4, x5, x6, x7⟩ := cm_cells (c := d) (range_below (unhide HX).2 hbel hw1)
      simp only [Nat.zero_add] at x0 x1 x2 x3 x4 x5 x6 x7
      clear hall hC hbel
      rw [if_pos (by rfl)]
      unfold Oper.wp
      go_simp
      exact ⟨upd f 3 (cmV d), by simp [upd, cmV], unhide HBV, step_upd (unhide HC) rfl⟩
    | 4, ho =>
      simp only [List.getElem?_cons_succ, List.getElem?_cons_zero, Option.some.injEq] at ho
      subst ho
      have g0 : f 3 = cmV d := hC 3 (hall ⟨3, .data⟩ (by simp) rfl)
      clear hall hC hbel
      rw [if_pos (by rfl)]
      unfold Oper.wp
      unfold cmV at g0
      go_simp
      exact ⟨upd f 4 (evV (ofC d)), by simp [upd, evV, ofC, cmV, g0], unhide HBV, step_upd (unhide HC) rfl⟩
    | 5, ho =>
      simp only [List.getElem?_cons_succ, List.getElem?_cons_zero, Option.some.injEq] at ho
      subst ho
      have g1 : f 4 = evV (ofC d) := hC 4 (hall ⟨4, .data⟩ (by simp) rfl)
      clear hall hC hbel
      rw [if_pos (by rfl)]
      unfold Oper.wp
      go_simp
      refine (valueOf_any (ofC d) V).mono ?_
      rintro e w4 ⟨rfl, hb4⟩
      exact ⟨upd f 5 (vlV (ofC d)), by simp [upd, g1], (unhide HBV).trans (hb4.mono (unhide HBV).size), step_upd (unhide HC) rfl⟩
    | 6, ho =>
      simp only [List.getElem?_cons_succ, List.getElem?_cons_zero, Option.some.injEq] at ho
      subst ho
      have g2 : f 2 = vlV (ofC c) := hC 2 (hall ⟨2, .data⟩ (by simp) rfl)
      have g5 : f 5 = vlV (ofC d) := hC 5 (hall ⟨5, .data⟩ (by simp) rfl)
      have he := eqVl c d V
      have hg := eqGd c d V
      clear hall hC hbel
      rw [if_pos (by rfl)]
      unfold Oper.wp
      go_simp
      exact ⟨upd f 6 (.bool (sameC c d)), by simp [upd, g2, g5], unhide HBV, step_upd (unhide HC) rfl⟩
    | 7, ho =>
      simp only [List.getElem?_cons_succ, List.getElem?_cons_zero, Option.some.injEq] at ho
      subst ho
      have g6 : f 6 = .bool (sameC c d) := hC 6 (hall ⟨6, .data⟩ (by simp) rfl)
      clear hall hC hbel
      rw [if_pos (by rfl)]
      unfold Oper.wp
      go_simp
      exact ⟨upd f 7 (.bool (sameC c d)), by simp [upd, g6], unhide HBV, step_upd (unhide HC) rfl⟩
    | n + 8, ho => simp at ho
end Go.Proofs.Ytdfihaabhichdaa
