/-
  What the helper that holds two rows of bytes against each other answers, proved by walking it: two rows of the same bytes are found alike.
-/
import Derived.Test.YtmeekcdoajbjdaaGreatDoorGj01
import Derived.Test.YtmeekcdoajbjdaaGreatDoorGj38
namespace Go.Proofs.YtmeekcdoajbjdaaGreatDoor
open Go.RowKit

set_option maxHeartbeats 400000 in
theorem eqBytes_same (va vb : Value) (l : List Int) (w : World) (ha : Rd w va l) (hb : Rd w vb l) :
    Calls Tryz.prog 8 #[va, vb] w fun e w' => e = .returned (.bool true) ∧ ∃ n, w' = w.drewN n := by
  obtain ⟨aa, ca, rfl, hl, hca⟩ := ha
  obtain ⟨ab, cb, rfl, _, hcb⟩ := hb
  by_cases hne : l = []
  · subst hne
    clear hca hcb
    go_enter Tryz.func8, Tryz.ntmps8
    go_wp2
    refine wp_loop_rounds 1 ?_
    rw [rounds_succ]
    go_wp2
    go_ret
    exact ⟨rfl, 0, rfl⟩
  obtain ⟨b1, o1, rfl, hc1⟩ := hca hne
  obtain ⟨b2, o2, rfl, hc2⟩ := hcb hne
  have H1 := hide hc1
  have H2 := hide hc2
  clear hca hcb hc1 hc2
  go_enter Tryz.func8, Tryz.ntmps8
  go_wp2_with fail
  go_loopw [5] (fun i wr => ∃ k n : Nat, k ≤ l.length ∧ i = .int .i64 k ∧ wr = w.drewN n) (fun i _ => l.length - (intOf i).toNat)
  case atStart => exact ⟨0, 0, Nat.zero_le _, rfl, rfl⟩
  case round =>
    obtain ⟨k, n, hk, rfl, rfl⟩ := hrel
    by_cases hlt : k < l.length
    · have h1 := unhide H1 k hlt
      have h2 := unhide H2 k hlt
      generalize l.getD k 0 = x at h1 h2
      have hlt' : (k : Int) < l.length := by omega
      go_wp2_with fail
      go_quiet (fail)
      go_wp2_with fail
      go_roundw
      case rel => exact ⟨k + 1, _, by omega, by go_num, rfl⟩
      case measure => simp [intOf]; omega
    · go_wp2_with fail
      go_ret
      exact ⟨rfl, _, rfl⟩
end Go.Proofs.YtmeekcdoajbjdaaGreatDoor
namespace Go.Proofs.YtmeekcdoajbjdaaGreatDoor
open Go.RowKit

/-- The byte that a number is cut to. -/
def bt (x : Int) : Int := x % 256
theorem mark_step {w wr : World} {g o i len : Nat} {k : Int} (hi : i < len)
    (hd : ∀ j, j < i → wr.cell? ⟨g, o + j, none⟩ = some (.int .u8 (bt (k + j)))) (hc : ∀ j, j < len → ∃ v, wr.cell? ⟨g, o + j, none⟩ = some v)
    (hf : ∀ j, j < len → wr.frozen? ⟨g, o + j, none⟩ = false) (hg : w.grownBy wr (some g)) {x : Int} (hx : x = bt (k + i)) :
    (∀ j, j < i + 1 → (wr.setCell ⟨g, o + i, none⟩ (.int .u8 x)).cell? ⟨g, o + j, none⟩ = some (.int .u8 (bt (k + j)))) ∧
    (∀ j, j < len → ∃ v, (wr.setCell ⟨g, o + i, none⟩ (.int .u8 x)).cell? ⟨g, o + j, none⟩ = some v) ∧
    (∀ j, j < len → (wr.setCell ⟨g, o + i, none⟩ (.int .u8 x)).frozen? ⟨g, o + j, none⟩ = false) ∧ w.grownBy (wr.setCell ⟨g, o + i, none⟩ (.int .u8 x)) (some g) := by
  obtain ⟨v0, h0⟩ := hc i hi
  refine ⟨fun j hj => ?_, fun j hj => ?_, fun j hj => ?_, gr_trans hg (gr_set wr ⟨g, o + i, none⟩ _)⟩
  · by_cases e : j = i
    · subst e; rw [World.cell?_setCell_same _ _ _ h0, hx]
    · rw [World.cell?_setCell_other _ _ _ _ (addr_ne (by omega))]; exact hd j (by omega)
  · by_cases e : j = i
    · subst e; exact ⟨_, World.cell?_setCell_same _ _ _ h0⟩
    · rw [World.cell?_setCell_other _ _ _ _ (addr_ne (by omega))]; exact hc j hj
  · rw [World.frozen?_setCell]; exact hf j hj

set_option maxHeartbeats 400000 in
theorem markBytes_any (g o len cap : Nat) (k : Int) (w : World) (hl : len ≤ 1073741824) (hk0 : 0 ≤ k) (hk1 : k ≤ 1073741824)
    (hc : ∀ j, j < len → ∃ v, w.cell? ⟨g, o + j, none⟩ = some v) (hf : ∀ j, j < len → w.frozen? ⟨g, o + j, none⟩ = false) :
    Calls Tryz.prog 11 #[.slice (some ⟨g, o, none⟩) len cap, .int .i64 k] w fun e w' => e = .returned (.int .i64 (k + len)) ∧
      (∀ j, j < len → w'.cell? ⟨g, o + j, none⟩ = some (.int .u8 (bt (k + j)))) ∧ (∀ j, j < len → w'.frozen? ⟨g, o + j, none⟩ = false) ∧ w.grownBy w' (some g) := by
  have HC := hide hc
  have HF := hide hf
  clear hc hf
  go_enter Tryz.func11, Tryz.ntmps11
  go_wp2_with fail
  go_loopw [1, 5] (fun kv i wr => ∃ n : Nat, n ≤ len ∧ i = .int .i64 n ∧ kv = .int .i64 (k + n) ∧ (∀ j, j < n → wr.cell? ⟨g, o + j, none⟩ = some (.int .u8 (bt (k + j)))) ∧
      (∀ j, j < len → ∃ v, wr.cell? ⟨g, o + j, none⟩ = some v) ∧ (∀ j, j < len → wr.frozen? ⟨g, o + j, none⟩ = false) ∧ w.grownBy wr (some g)) (fun _ i _ => len - (intOf i).toNat)
  case atStart => exact ⟨0, Nat.zero_le _, rfl, by go_num, by intro j hj; omega, unhide HC, unhide HF, World.grownBy.refl _ _⟩
  case round =>
    obtain ⟨n, hn, rfl, rfl, hd, hc, hf, hg⟩ := hrel
    by_cases hlt : n < len
    · obtain ⟨v0, h0⟩ := hc n hlt
      have h1 := hf n hlt
      have R := hide (fun x => @mark_step w wr g o n len k hlt hd hc hf hg x)
      have hlt' : (n : Int) < len := by omega
      clear hd hc hf hg
      go_wp2_with fail
      go_roundw
      case rel => exact ⟨n + 1, by omega, by go_num, by go_num, (unhide R) _ (by rfl)⟩
      case measure => simp [intOf]; omega
    · go_wp2_with fail
      go_ret
      obtain rfl : n = len := by omega
      exact ⟨rfl, hd, hf, hg⟩

set_option maxHeartbeats 400000 in
theorem heldBytes_any (g o len cap : Nat) (k : Int) (w : World) (hl : len ≤ 1073741824) (hk0 : 0 ≤ k) (hk1 : k ≤ 1073741824)
    (hc : ∀ j, j < len → w.cell? ⟨g, o + j, none⟩ = some (.int .u8 (bt (k + j)))) :
    Calls Tryz.prog 12 #[.slice (some ⟨g, o, none⟩) len cap, .int .i64 k] w fun e w' => e = .returned (.int .i64 (k + len)) ∧ ∃ n, w' = w.drewN n := by
  have HC := hide hc
  clear hc
  go_enter Tryz.func12, Tryz.ntmps12
  go_wp2_with fail
  go_loopw [1, 5] (fun kv i wr => ∃ n q : Nat, n ≤ len ∧ i = .int .i64 n ∧ kv = .int .i64 (k + n) ∧ wr = w.drewN q) (fun _ i _ => len - (intOf i).toNat)
  case atStart => exact ⟨0, 0, Nat.zero_le _, rfl, by go_num, rfl⟩
  case round =>
    obtain ⟨n, q, hn, rfl, rfl, rfl⟩ := hrel
    by_cases hlt : n < len
    · have h0 := unhide HC n hlt
      have hlt' : (n : Int) < len := by omega
      have hbt : (bt (k + n) != (k + n) % 256) = false := by simp [bt]
      go_wp2_with fail
      go_roundw
      case rel => exact ⟨n + 1, q, by omega, by go_num, by go_num, rfl⟩
      case measure => simp [intOf]; omega
    · go_wp2_with fail
      go_ret
      obtain rfl : n = len := by omega
      exact ⟨rfl, _, rfl⟩

/-- The marks of a row of n bytes, from 1 on. -/
def marks (n : Nat) : List Int := (List.range n).map fun (i : Nat) => bt (1 + i)
theorem marks_len (n : Nat) : (marks n).length = n := by simp [marks]
theorem marks_get {n j : Nat} (h : j < n) : (marks n).getD j 0 = bt (1 + j) := by simp [marks, h]

/-- A row that the call made is marked: it is then a row of marks; other rows stay. -/
theorem mark_own {B : Nat} (v : Value) (l : List Int) (w : World) (h : Own B w v l) :
    Calls Tryz.prog 11 #[v, .int .i64 1] w fun e w' => e = .returned (.int .i64 (1 + l.length)) ∧ Own B w' v (marks l.length) ∧ ∃ g, v.ownBlock = some g ∧ B ≤ g ∧ w.grownBy w' (some g) := by
  obtain ⟨g, cap, rfl, h1, h2, hl, hc, hf⟩ := h
  refine (markBytes_any g 0 l.length cap 1 w hl (by omega) (by omega) (fun j hj => ⟨_, hc j hj⟩) hf).mono ?_
  rintro e w' ⟨rfl, hm, hf', hg⟩
  refine ⟨rfl, ⟨g, cap, by rw [marks_len], h1, Nat.lt_of_lt_of_le h2 hg.size, by rw [marks_len]; exact hl, fun i hi => ?_, fun i hi => ?_⟩, g, rfl, h1, hg⟩
  · rw [marks_len] at hi; rw [marks_get hi]; exact hm i hi
  · rw [marks_len] at hi; exact hf' i hi
theorem held_own {B : Nat} (v : Value) (n : Nat) (w : World) (h : Own B w v (marks n)) :
    Calls Tryz.prog 12 #[v, .int .i64 1] w fun e w' => e = .returned (.int .i64 (1 + n)) ∧ ∃ q, w' = w.drewN q := by
  obtain ⟨g, cap, rfl, h1, h2, hl, hc, hf⟩ := h
  rw [marks_len] at *
  exact heldBytes_any g 0 n cap 1 w hl (by omega) (by omega) (fun j hj => by rw [hc j hj, marks_get hj])
end Go.Proofs.YtmeekcdoajbjdaaGreatDoor
namespace Go.Proofs.YtmeekcdoajbjdaaGreatDoor
open Go.RowKit
set_option linter.unusedVariables false

/-- A row of marks, or nothing at all. -/
def MK (B : Nat) (W : World) (v : Value) (n : Nat) : Prop := (n = 0 ∧ ∃ a c, v = .slice a 0 c) ∨ Own B W v (marks n)
theorem mk_below {B C n : Nat} {W W' : World} {v : Value} (h : MK B W v n) (hb : Below C W W') (hC : W.heap.size ≤ C) : MK B W' v n := h.imp id fun h => own_below h hb hC
theorem mk_drew {B n : Nat} {W : World} {v : Value} (h : MK B W v n) (q : Nat) : MK B (W.drewN q) v n := h.imp id fun h => own_drewN h q
theorem markB {B : Nat} (v : Value) (l : List Int) (w : World) (h : BRow w B v l) (hl : l.length ≤ 1073741824) :
    Calls Tryz.prog 11 #[v, .int .i64 1] w fun e w' => e = .returned (.int .i64 (1 + l.length)) ∧ MK B w' v l.length ∧ ∃ G, w.grownBy w' G ∧ ∀ g, G = some g → v.ownBlock = some g := by
  by_cases hne : l = []
  · subst hne
    obtain ⟨a, c, rfl⟩ := bRow_form h
    clear h
    show Calls _ _ #[.slice a 0 c, _] _ _
    go_enter Tryz.func11, Tryz.ntmps11
    go_wp2
    refine wp_loop_rounds 1 ?_
    rw [rounds_succ]
    go_wp2
    go_ret
    exact ⟨rfl, .inl ⟨rfl, a, c, rfl⟩, none, World.grownBy.refl _ _, fun g hg => by cases hg⟩
  · have hp : 0 < l.length := List.length_pos_iff.2 hne
    refine (mark_own v l w (own_row hp hl h)).mono ?_
    rintro e w' ⟨rfl, ho, g, hg, _, hgr⟩
    exact ⟨rfl, .inr ho, some g, hgr, fun g' h' => by cases h'; exact hg⟩
theorem heldB {B : Nat} (v : Value) (n : Nat) (w : World) (h : MK B w v n) :
    Calls Tryz.prog 12 #[v, .int .i64 1] w fun e w' => e = .returned (.int .i64 (1 + n)) ∧ ∃ q, w' = w.drewN q := by
  rcases h with ⟨rfl, a, c, rfl⟩ | h
  · go_enter Tryz.func12, Tryz.ntmps12
    go_wp2
    refine wp_loop_rounds 1 ?_
    rw [rounds_succ]
    go_wp2
    go_ret
    exact ⟨rfl, 0, rfl⟩
  · exact held_own v n w h
end Go.Proofs.YtmeekcdoajbjdaaGreatDoor
