/-
  What the laws' own comparison of floats answers, proved by walking it.
-/
import Derived.Test.YtmeekcdoajbjdaaGreatDoorGj09
import Derived.Test.YtmeekcdoajbjdaaGreatDoorGj11
import Derived.Test.YtmeekcdoajbjdaaGreatDoorGj24
import Derived.Deep.RegionWith
import Derived.WalkLawsBesides
namespace Go.Proofs.YtmeekcdoajbjdaaGreatDoor
open Go.RowKit
set_option linter.unusedVariables false

theorem zero_read : FloatKind.f64.format.read 0 = .number false 0 FloatKind.f64.format.leastPlace := by decide
theorem one_read : ∃ m j, FloatKind.f64.format.read 4607182418800017408 = .number false m j ∧ m ≠ 0 := ⟨_, _, rfl, by decide⟩
theorem zero_mag (s : Bool) (m a b : Nat) (h : Ieee.signed s m a = Ieee.signed false 0 b) : m = 0 := by
  have h0 : Ieee.signed false 0 b = 0 := by simp [Ieee.signed]
  rw [h0] at h
  have h2 : m <<< a = 0 := by
    cases s
    · have h' : ((m <<< a : Nat) : Int) = 0 := h
      omega
    · have h' : -((m <<< a : Nat) : Int) = 0 := h
      omega
  rw [Nat.shiftLeft_eq] at h2
  have := Nat.two_pow_pos a
  rcases Nat.mul_eq_zero.1 h2 with h | h
  · exact h
  · omega
theorem div_zero (x : Nat) (h : FloatKind.f64.format.order x 0 = some Ordering.eq) : ∃ r, FloatKind.f64.format.div 4607182418800017408 x = some r := by
  obtain ⟨m1, j1, h1, hm1⟩ := one_read
  unfold Ieee.Format.order at h
  rw [zero_read] at h
  unfold Ieee.Format.div
  rw [h1]
  cases hx : FloatKind.f64.format.read x with
  | nan s f => rw [hx] at h; simp [Ieee.Datum.order] at h
  | infinity s => rw [hx] at h; cases s <;> simp [Ieee.Datum.order] at h
  | number s m i =>
    rw [hx] at h
    simp only [Ieee.Datum.order, Option.some.injEq] at h
    have hm := zero_mag s m _ _ (Std.LawfulEqCmp.eq_of_compare h)
    subst hm
    exact ⟨FloatKind.f64.format.write (.infinity s), by simp [Ieee.Datum.quotient, hm1]⟩

set_option maxRecDepth 100000 in
set_option maxHeartbeats 400000 in
theorem sameFloat_any (x : Nat) (w : World) :
    Calls Tryz.prog 46 #[.float .f64 x, .float .f64 x] w fun e w' => e = .returned (.bool true) ∧ w' = w := by
  cases hn : nanB x with
  | true =>
    have h' : (FloatKind.f64.format.order x x != some Ordering.eq) = true := hn
    clear hn
    go_enter Tryz.func46, Tryz.ntmps46
    go_wp2
    go_ret
    exact ⟨rfl, rfl⟩
  | false =>
    have h' : (FloatKind.f64.format.order x x != some Ordering.eq) = false := hn
    have h2 : FloatKind.f64.format.order x x = some Ordering.eq := by simpa using h'
    clear hn
    by_cases hz : FloatKind.f64.format.order x 0 = some Ordering.eq
    · obtain ⟨r, hr⟩ := div_zero x hz
      have hq : ∀ W, (binOp .quo 35 (.float .f64 4607182418800017408) (.float .f64 x)).run Tryz.prog W = .ok (.float .f64 r) W := fun W => by simp [binOp, Op.floatArith, hr]
      have hz' : (FloatKind.f64.format.order x 0 == some Ordering.eq) = true := by rw [hz]; rfl
      clear hz hr
      go_enter Tryz.func46, Tryz.ntmps46
      go_wp2
      all_goals go_ret
      all_goals exact ⟨ret_bool (by simp), rfl⟩
    · have hz' : (FloatKind.f64.format.order x 0 == some Ordering.eq) = false := by simpa using hz
      clear hz
      go_enter Tryz.func46, Tryz.ntmps46
      go_wp2
      go_ret
      exact ⟨ret_bool (by simp), rfl⟩
theorem sameFloat_nan (x y : Nat) (w : World) (hx : nanB x = true) (hy : nanB y = true) :
    Calls Tryz.prog 46 #[.float .f64 x, .float .f64 y] w fun e w' => e = .returned (.bool true) ∧ w' = w := by
  have h1 : (FloatKind.f64.format.order x x != some Ordering.eq) = true := hx
  have h2 : (FloatKind.f64.format.order y y != some Ordering.eq) = true := hy
  clear hx hy
  go_enter Tryz.func46, Tryz.ntmps46
  go_wp2
  go_ret
  exact ⟨rfl, rfl⟩
end Go.Proofs.YtmeekcdoajbjdaaGreatDoor
namespace Go.Proofs.YtmeekcdoajbjdaaGreatDoor
open Go.RowKit
set_option linter.unusedVariables false

set_option maxHeartbeats 400000 in
theorem eqCmd_same (c : Cm) (w : World) :
    Calls Tryz.prog 35 #[.agg #[.int .i64 c.k, .int .i64 c.s, .int .i64 c.t, .int .i64 c.l, .int .i64 c.q, .int .i64 c.i, .float .f64 c.p, .string c.g], .agg #[.int .i64 c.k, .int .i64 c.s, .int .i64 c.t, .int .i64 c.l, .int .i64 c.q, .int .i64 c.i, .float .f64 c.p, .string c.g]] w fun e w' =>
      e = .returned (.bool true) ∧ Below w.heap.size w w' := by
  obtain ⟨k, s, t, l, q, i, p, g⟩ := c
  simp only
  go_enter Tryz.func35, Tryz.ntmps35
  go_wp2_with (go_at_call 46; refine (sameFloat_any _ _).mono ?_; rintro e w' ⟨rfl, rfl⟩)
  go_returns
  refine ⟨rfl, ?_⟩
  go_grown
end Go.Proofs.YtmeekcdoajbjdaaGreatDoor
namespace Go.Proofs.YtmeekcdoajbjdaaGreatDoor
open Go.RowKit
set_option linter.unusedVariables false

set_option maxRecDepth 100000 in
set_option maxHeartbeats 1600000 in
theorem eqEvent_same (e : Ev) (w : World) :
    Calls Tryz.prog 22 #[evV e, evV e] w fun x w' => x = .returned (.bool true) ∧ Below w.heap.size w w' := by
  obtain ⟨kind, ⟨k, s, t, l, q, i, p, g⟩, id, other, qty, price, reason⟩ := e
  unfold evV
  have HE := hide (fun W => eqCmd_same ⟨k, s, t, l, q, i, p, g⟩ W)
  simp only at *
  have hs1 : (w.alloc (Obj.cells #[.int .i64 kind, .int .i64 k, .int .i64 s, .int .i64 t, .int .i64 l, .int .i64 q, .int .i64 i, .float .f64 p, .string g, .int .i64 id, .int .i64 other, .int .i64 qty, .int .i64 price, .int .i64 reason] 46)).heap.size = w.heap.size + 1 := size_madeV _ _
  have hs2 : ((w.alloc (Obj.cells #[.int .i64 kind, .int .i64 k, .int .i64 s, .int .i64 t, .int .i64 l, .int .i64 q, .int .i64 i, .float .f64 p, .string g, .int .i64 id, .int .i64 other, .int .i64 qty, .int .i64 price, .int .i64 reason] 46)).alloc (Obj.cells #[.int .i64 kind, .int .i64 k, .int .i64 s, .int .i64 t, .int .i64 l, .int .i64 q, .int .i64 i, .float .f64 p, .string g, .int .i64 id, .int .i64 other, .int .i64 qty, .int .i64 price, .int .i64 reason] 46)).heap.size = w.heap.size + 1 + 1 := by rw [size_madeV, hs1]
  have b1 : Below (w.heap.size + 1) (w.alloc (Obj.cells #[.int .i64 kind, .int .i64 k, .int .i64 s, .int .i64 t, .int .i64 l, .int .i64 q, .int .i64 i, .float .f64 p, .string g, .int .i64 id, .int .i64 other, .int .i64 qty, .int .i64 price, .int .i64 reason] 46)) ((w.alloc (Obj.cells #[.int .i64 kind, .int .i64 k, .int .i64 s, .int .i64 t, .int .i64 l, .int .i64 q, .int .i64 i, .float .f64 p, .string g, .int .i64 id, .int .i64 other, .int .i64 qty, .int .i64 price, .int .i64 reason] 46)).alloc (Obj.cells #[.int .i64 kind, .int .i64 k, .int .i64 s, .int .i64 t, .int .i64 l, .int .i64 q, .int .i64 i, .float .f64 p, .string g, .int .i64 id, .int .i64 other, .int .i64 qty, .int .i64 price, .int .i64 reason] 46)) := (Below.refl _ _).alloc (by rw [hs1]; omega) _
  have r1 := range_below (cells_madeV w [.int .i64 kind, .int .i64 k, .int .i64 s, .int .i64 t, .int .i64 l, .int .i64 q, .int .i64 i, .float .f64 p, .string g, .int .i64 id, .int .i64 other, .int .i64 qty, .int .i64 price, .int .i64 reason] 46) b1 (by omega)
  have r2 := cells_madeV (w.alloc (Obj.cells #[.int .i64 kind, .int .i64 k, .int .i64 s, .int .i64 t, .int .i64 l, .int .i64 q, .int .i64 i, .float .f64 p, .string g, .int .i64 id, .int .i64 other, .int .i64 qty, .int .i64 price, .int .i64 reason] 46)) [.int .i64 kind, .int .i64 k, .int .i64 s, .int .i64 t, .int .i64 l, .int .i64 q, .int .i64 i, .float .f64 p, .string g, .int .i64 id, .int .i64 other, .int .i64 qty, .int .i64 price, .int .i64 reason] 46
  rw [hs1] at r2
  have HB : Hid (Below w.heap.size w ((w.alloc (Obj.cells #[.int .i64 kind, .int .i64 k, .int .i64 s, .int .i64 t, .int .i64 l, .int .i64 q, .int .i64 i, .float .f64 p, .string g, .int .i64 id, .int .i64 other, .int .i64 qty, .int .i64 price, .int .i64 reason] 46)).alloc (Obj.cells #[.int .i64 kind, .int .i64 k, .int .i64 s, .int .i64 t, .int .i64 l, .int .i64 q, .int .i64 i, .float .f64 p, .string g, .int .i64 id, .int .i64 other, .int .i64 qty, .int .i64 price, .int .i64 reason] 46))) := ((Below.refl _ _).alloc (Nat.le_refl _) _).alloc (by rw [hs1]; omega) _
  have HX : Hid (_ ∧ _ ∧ _) := ⟨r1, r2, hs2⟩
  clear r1 r2 b1 hs1 hs2
  go_enter Tryz.func22, Tryz.ntmps22
  go_wp2_with fail
  generalize ((w.alloc (Obj.cells #[.int .i64 kind, .int .i64 k, .int .i64 s, .int .i64 t, .int .i64 l, .int .i64 q, .int .i64 i, .float .f64 p, .string g, .int .i64 id, .int .i64 other, .int .i64 qty, .int .i64 price, .int .i64 reason] 46)).alloc (Obj.cells #[.int .i64 kind, .int .i64 k, .int .i64 s, .int .i64 t, .int .i64 l, .int .i64 q, .int .i64 i, .float .f64 p, .string g, .int .i64 id, .int .i64 other, .int .i64 qty, .int .i64 price, .int .i64 reason] 46)) = W at HX HB ⊢
  obtain ⟨hr1, hr2, hsW⟩ := unhide HX
  refine (unhide HE _).mono ?_
  rintro e w2 ⟨rfl, hb2⟩
  have HB2 := hide ((unhide HB).trans (hb2.mono (unhide HB).size))
  have q1 := range_below hr1 hb2 (by omega)
  have q2 := range_below hr2 hb2 (by omega)
  have x9 := q1 9 _ rfl
  have x10 := q1 10 _ rfl
  have x11 := q1 11 _ rfl
  have x12 := q1 12 _ rfl
  have x13 := q1 13 _ rfl
  have y9 := q2 9 _ rfl
  have y10 := q2 10 _ rfl
  have y11 := q2 11 _ rfl
  have y12 := q2 12 _ rfl
  have y13 := q2 13 _ rfl
  clear hr1 hr2 q1 q2 hb2 HX HB hsW
  go_wp2_with fail
  go_returns
  exact ⟨rfl, unhide HB2⟩
end Go.Proofs.YtmeekcdoajbjdaaGreatDoor
namespace Go.Proofs.YtmeekcdoajbjdaaGreatDoor
open Go.RowKit
set_option linter.unusedVariables false

theorem toCmd_any (c : Cm) (w : World) :
    Calls Tryz.prog 29 #[.agg #[.int .i64 c.k, .int .i64 c.s, .int .i64 c.t, .int .i64 c.l, .int .i64 c.q, .int .i64 c.i, .float .f64 c.p, .string c.g]] w fun e w' =>
      e = .returned (.agg #[.int .i64 c.k, .int .i64 c.s, .int .i64 c.t, .int .i64 c.l, .int .i64 c.q, .int .i64 c.i, .float .f64 c.p, .string c.g]) ∧ Below w.heap.size w w' := by
  obtain ⟨k, s, t, l, q, i, p, g⟩ := c
  have hsf := sfl
  simp only
  go_enter Tryz.func29, Tryz.ntmps29
  go_wp2_with fail
  go_returns
  refine ⟨rfl, ?_⟩
  go_grown
end Go.Proofs.YtmeekcdoajbjdaaGreatDoor
