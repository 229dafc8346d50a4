/-
  A struct in a block of its own: what it holds, and what stays of it; no function walked.
-/
import Derived.Test.YthkdbjldlfahdaaGreatDoorTj01
import Derived.Test.YthkdbjldlfahdaaGreatDoorTj03
import Derived.Test.YthkdbjldlfahdaaGreatDoorTj04
import Derived.Deep.RegionWith
namespace Go.Proofs.YthkdbjldlfahdaaGreatDoor
open Go.RowKit

/-- The block b holds the values vs, and may be written. -/
structure Bx (W : World) (b : Nat) (vs : List Value) : Prop where
  r : W.rangeAt b 0 vs
  t : W.there b 0 vs.length
theorem bx_made (w : World) (vs : List Value) (t : TypeId) : Bx (w.alloc (Obj.cells vs.toArray t)) w.heap.size vs :=
  ⟨fun j u h => by
    rw [cell_of_row _ w.heap.size (0 + j) vs.toArray t (0, 0) (heap_alloc_new w _)]
    simpa using h, there_block (heap_alloc_new w _) (by simp)⟩
theorem bx_below {C b : Nat} {W V : World} {vs : List Value} (h : Bx W b vs) (hb : Below C W V) (hC : b < C) : Bx V b vs := ⟨range_below h.r hb hC, there_below h.t hb hC⟩
theorem bx_cell {W : World} {b : Nat} {vs : List Value} (h : Bx W b vs) (j : Nat) {u : Value} (hj : vs[j]? = some u) : W.cell? ⟨b, j, none⟩ = some u := by
  have := h.r j u hj; rwa [Nat.zero_add] at this
theorem bx_free {W : World} {b : Nat} {vs : List Value} (h : Bx W b vs) (j : Nat) (hj : j < vs.length) : W.frozen? ⟨b, j, none⟩ = false := by
  have := (h.t j hj).2; rwa [Nat.zero_add] at this
theorem bx_set {W : World} {b j : Nat} {vs : List Value} {u : Value} (h : Bx W b vs) (hj : j < vs.length) : Bx (W.setCell ⟨b, j, none⟩ u) b (vs.set j u) := by
  refine ⟨fun i v hi => ?_, by rw [List.length_set]; exact World.there_setCells (vs := [u]) h.t b j⟩
  rw [Nat.zero_add]
  by_cases hij : j = i
  · subst hij
    rw [List.getElem?_set_self hj] at hi
    cases hi
    have := h.r j _ (List.getElem?_eq_getElem hj)
    rw [Nat.zero_add] at this
    exact World.cell?_setCell_same _ _ _ this
  · rw [List.getElem?_set_ne hij] at hi
    have := h.r i v hi
    rw [Nat.zero_add] at this
    rw [World.cell?_setCell_other _ _ _ _ (addr_ne hij)]
    exact this
theorem bx_setCells {W : World} {b : Nat} {vs us : List Value} (h : Bx W b vs) (hl : us.length = vs.length) : Bx (W.setCells b 0 us) b us :=
  ⟨World.rangeAt_setCells_same W b 0 us (fun j hj => h.t j (by omega)), by rw [hl]; exact World.there_setCells h.t b 0 us⟩
theorem bx_heap (b k : Nat) (hk : k ≠ b) : ∀ (vs : List Value) (o : Nat) (W : World), (W.setCells b o vs).heap[k]? = W.heap[k]?
  | [], _, _ => rfl
  | u :: us, o, W => by rw [World.setCells, bx_heap b k hk us (o + 1)]; exact Below.heap_setCell _ _ _ _ hk
theorem bx_blk {W V : World} {b : Nat} {vs : List Value} (h : Bx W b vs) (hb : V.heap[b]? = W.heap[b]?) : Bx V b vs :=
  ⟨fun j u hj => by rw [World.cell?_of_block (a := ⟨b, 0 + j, none⟩) hb]; exact h.r j u hj,
   fun j hj => by rw [World.cell?_of_block (a := ⟨b, 0 + j, none⟩) hb, World.frozen?_of_block (a := ⟨b, 0 + j, none⟩) hb]; exact h.t j hj⟩
theorem bx_other {W : World} {b c j : Nat} {vs : List Value} {u : Value} (h : Bx W b vs) (hc : b ≠ c) : Bx (W.setCell ⟨c, j, none⟩ u) b vs := bx_blk h (Below.heap_setCell _ _ _ _ hc)
theorem bx_others {W : World} {b c : Nat} {vs us : List Value} (h : Bx W b vs) (hc : b ≠ c) : Bx (W.setCells c 0 us) b vs := bx_blk h (bx_heap c b hc us 0 W)
theorem bx_drewN {W : World} {b : Nat} {vs : List Value} (h : Bx W b vs) (n : Nat) : Bx (W.drewN n) b vs := ⟨h.r, h.t⟩
theorem bx_drew {W : World} {b : Nat} {vs : List Value} (h : Bx W b vs) : Bx W.drew b vs := ⟨h.r, h.t⟩
/-- Two blocks from the size of w on, the first to be answered, the second being written. -/
structure Bx2 (w W : World) (r vs : List Value) : Prop where
  o : Bx W w.heap.size r
  k : Bx W (w.heap.size + 1) vs
  b : Below w.heap.size w W
  z : w.heap.size + 1 + 1 ≤ W.heap.size
theorem bx2_made (w : World) (r vs : List Value) (t u : TypeId) : Bx2 w ((w.alloc (Obj.cells r.toArray t)).alloc (Obj.cells vs.toArray u)) r vs := by
  have hs : (w.alloc (Obj.cells r.toArray t)).heap.size = w.heap.size + 1 := by simp
  have h1 := bx_made w r t
  have h2 := bx_made (w.alloc (Obj.cells r.toArray t)) vs u
  rw [hs] at h2
  have b1 : Below w.heap.size w (w.alloc (Obj.cells r.toArray t)) := (Below.refl _ _).alloc (Nat.le_refl _) _
  have b2 : Below (w.heap.size + 1) (w.alloc (Obj.cells r.toArray t)) ((w.alloc (Obj.cells r.toArray t)).alloc (Obj.cells vs.toArray u)) := (Below.refl _ _).alloc (by omega) _
  exact ⟨bx_below h1 b2 (by omega), h2, b1.trans (b2.mono (by omega)), by simp⟩
theorem bx2_set {w W : World} {r vs : List Value} {j : Nat} {u : Value} (h : Bx2 w W r vs) (hj : j < vs.length) : Bx2 w (W.setCell ⟨w.heap.size + 1, j, none⟩ u) r (vs.set j u) :=
  ⟨bx_other h.o (by omega), bx_set h.k hj, h.b.setCell (p := ⟨w.heap.size + 1, j, none⟩) (show w.heap.size ≤ w.heap.size + 1 by omega) _, by simp only [World.setCell, Array.size_modify]; exact h.z⟩
theorem bx2_drew {w W : World} {r vs : List Value} (h : Bx2 w W r vs) : Bx2 w W.drew r vs := ⟨bx_drew h.o, bx_drew h.k, h.b.drew, h.z⟩
theorem bx2_step {w W V : World} {r vs us : List Value} (h : Bx2 w W r vs) (hb : Below W.heap.size W V) (hl : us.length = vs.length) : Bx2 w (V.setCells (w.heap.size + 1) 0 us) r us := by
  have hz := h.z
  exact ⟨bx_others (bx_below h.o hb (by omega)) (by omega), bx_setCells (bx_below h.k hb (by omega)) hl, below_setCells (w.heap.size + 1) (by omega) _ 0 V (h.b.trans (hb.mono h.b.size)), by rw [size_setCells]; exact Nat.le_trans hz hb.size⟩
end Go.Proofs.YthkdbjldlfahdaaGreatDoor
namespace Go.Proofs.YthkdbjldlfahdaaGreatDoor
open Go.RowKit
set_option linter.unusedVariables false

theorem itB_small (u : Nat) (h : u < 10) : itB (u : Int) = ⟨#[UInt8.ofNat (48 + u)]⟩ := by
  unfold itB Lib.itoa
  rw [if_neg (by omega), Int.toNat_natCast, Lib.decDigits, dif_pos h]
theorem itB_great (u : Nat) (h : ¬ u < 10) : itB (u : Int) = itB ((u / 10 : Nat) : Int) ++ ⟨#[UInt8.ofNat (48 + u % 10)]⟩ := by
  unfold itB Lib.itoa
  rw [if_neg (by omega), if_neg (by omega), Int.toNat_natCast, Int.toNat_natCast]
  conv => lhs; rw [Lib.decDigits, dif_neg h]
  refine WideShapes.bytes_inj ?_
  simp [ByteArray.data_append]
theorem itB_neg (n : Int) (h : n < 0) : itB n = ⟨#[45]⟩ ++ itB (-n) := by
  unfold itB Lib.itoa
  rw [if_pos h, if_neg (by omega), show (-n).toNat = n.natAbs by omega]
  refine WideShapes.bytes_inj ?_
  simp [ByteArray.data_append]
theorem itB_min : itB (-9223372036854775808) = ⟨#[45, 57, 50, 50, 51, 51, 55, 50, 48, 51, 54, 56, 53, 52, 55, 55, 53, 56, 48, 56]⟩ := by
  unfold itB Lib.itoa
  rw [if_pos (by omega)]
  rw [show (-9223372036854775808 : Int).natAbs = 9223372036854775808 from rfl]
  simp [Lib.decDigits]
theorem str_one (c : Int) (h0 : 0 ≤ c) (h1 : c ≤ 255) : strB [c] = ⟨#[UInt8.ofNat c.toNat]⟩ := rfl
theorem conv_one (c : Int) (h0 : 0 ≤ c) (h1 : c ≤ 255) (W : World) (b : Nat) (h : W.cell? ⟨b, 0, none⟩ = some (.int .u8 c)) :
    (convert 53 9 (.slice (some ⟨b, 0, none⟩) 1 1)).run Tryz.prog W = .ok (.string ⟨#[UInt8.ofNat c.toNat]⟩) W := by
  have := conv_text (.slice (some ⟨b, 0, none⟩) 1 1) [c] W ⟨_, _, rfl, by simp, fun _ => ⟨b, 0, rfl, fun i hi => by
    obtain rfl : i = 0 := by simpa using hi
    exact h⟩⟩
  rw [this, str_one c h0 h1]
set_option maxRecDepth 100000 in
set_option maxHeartbeats 1600000 in
theorem digP_any : ∀ (u : Nat) (w : World), u ≤ 9223372036854775807 → Calls Tryz.prog 17 #[.int .i64 u] w fun e w' => e = .returned (.string (itB u)) ∧ Below w.heap.size w w' := by
  intro u
  induction u using Nat.strongRecOn with
  | ind u ih =>
    intro w hu
    have hm : ((u : Int) == -9223372036854775808) = false := by rw [beq_eq_false_iff_ne]; omega
    have hu' : (u : Int) ≤ 9223372036854775807 := by omega
    by_cases h : u < 10
    · have HF := hide (itB_small u h)
      have h' : (u : Int) < 10 := by omega
      have hc := conv_one (48 + u) (by omega) (by omega)
      have hct := hc (w.alloc (Obj.cells #[.int .u8 (48 + u)] 5)) w.heap.size (by simp)
      have e1 : ((48 : Int) + u).toNat = 48 + u := by omega
      rw [e1] at hct
      generalize (⟨#[UInt8.ofNat (48 + u)]⟩ : ByteArray) = D at *
      clear ih hc h e1
      go_enter Tryz.func17, Tryz.ntmps17
      go_wp2_with fail
      go_ret
      exact ⟨by rw [unhide HF]; rfl, (Below.refl _ _).alloc (Nat.le_refl _) _⟩
    · have HF := hide (itB_great u h)
      have HI := hide (fun W => ih (u / 10) (by omega) W (by omega))
      have h' : (10 : Int) ≤ u := by omega
      have hs1 := itB_size ((u / 10 : Nat) : Int) (by omega) (by omega)
      have hr0 : (0 : Int) ≤ (u : Int) % 10 := by omega
      have hr1 : (u : Int) % 10 ≤ 9 := by omega
      have hc := conv_one (48 + (u : Int) % 10) (by omega) (by omega)
      have e1 : ((48 : Int) + (u : Int) % 10).toNat = 48 + u % 10 := by omega
      rw [e1] at hc
      generalize hD : (⟨#[UInt8.ofNat (48 + u % 10)]⟩ : ByteArray) = D at *
      have hs2 : D.size = 1 := by rw [← hD]; rfl
      clear hD
      generalize itB ((u / 10 : Nat) : Int) = I at *
      have hq : (u : Int) / 10 = ((u / 10 : Nat) : Int) := by omega
      have hq1 : ((u / 10 : Nat) : Int) ≤ 9223372036854775807 := by omega
      have hq0 : -9223372036854775808 ≤ ((u / 10 : Nat) : Int) := by omega
      generalize u / 10 = q at *
      have hwq : IntKind.i64.wrap (q : Int) = q := by
        simp [IntKind.wrap, IntKind.bits, IntKind.signed]
        omega
      have htm : Int.tmod (u : Int) 10 = (u : Int) % 10 := Int.tmod_eq_emod_of_nonneg (by omega)
      generalize (u : Int) % 10 = r at *
      have hw1 : IntKind.i64.wrap (48 + r) = 48 + r := by
        simp [IntKind.wrap, IntKind.bits, IntKind.signed]
        omega
      have hw2 : IntKind.u8.wrap (48 + r) = 48 + r := by
        simp [IntKind.wrap, IntKind.bits, IntKind.signed]
        omega
      obtain ⟨c, hcc⟩ : ∃ c, c = 48 + r := ⟨_, rfl⟩
      rw [← hcc] at hc hw2
      rw [show IntKind.i64.wrap (48 + r) = IntKind.i64.wrap (48 + r) from rfl] at hw1
      have hw3 : IntKind.i64.wrap (48 + r) = c := hw1.trans hcc.symm
      clear hw1 hcc
      clear ih h e1
      go_enter Tryz.func17, Tryz.ntmps17
      go_wp2_with fail
      go_region_with (go_at_call 17; refine (unhide HI _).mono ?_; rintro e w2 ⟨rfl, hb2⟩; have HB2 : Hid (Below w.heap.size w w2) := (by first | exact ((Below.refl _ w).drew).trans (hb2.mono (Nat.le_refl _)) | exact (((Below.refl _ w).drew).alloc (Nat.le_refl _) _).trans (hb2.mono (by simp))); have hq9 := fun h => hb2.cell (p := ⟨w.heap.size, 0, none⟩) h; clear hb2)
      all_goals try go_wp2_with fail
      all_goals
        go_ret
        exact ⟨by rw [unhide HF]; rfl, by first | exact unhide HB2 | exact (unhide HB2).alloc (unhide HB2).size _⟩
end Go.Proofs.YthkdbjldlfahdaaGreatDoor
