/-
  A book drawn out of the source: proved by walking the methods.
-/
import Derived.Test.YtadnjcgfoofjiaaLj14
import Derived.Test.YtadnjcgfoofjiaaLj35
import Derived.Test.YtadnjcgfoofjiaaLj36
import Derived.Test.YtadnjcgfoofjiaaLj37
import Derived.BigRegion
namespace Go.Proofs.Ytadnjcgfoofjiaa
open Go.RowKit
set_option linter.unusedVariables false

theorem gr_allocD (w : World) (o : Obj) (row : Option Nat) : w.grownBy (w.alloc o) row :=
  ⟨rfl, rfl, rfl, by simp, fun k hk _ => ((Below.refl _ w).alloc (Nat.le_refl _) o).block k hk⟩
theorem srcD_lt {B : Nat} {w : World} {v : Value} {l : List Int} {m : Int} (h : Src B w v l m) : B < w.heap.size := World.block_lt_of_cell? w _ h.code
theorem srcD_grown {B : Nat} {w w' : World} {v : Value} {l : List Int} {m : Int} {G : Option Nat} (h : Src B w v l m) (hg : w.grownBy w' G) (hB : some B ≠ G) (hv : l ≠ [] → v.ownBlock ≠ G) : Src B w' v l m := by
  have hb := hg.block B (srcD_lt h) hB
  obtain ⟨a, s, k1, k2, k3, k4, k5, k6⟩ := h.cells
  have e : ∀ i, w'.cell? ⟨B, i, none⟩ = w.cell? ⟨B, i, none⟩ := fun i => World.cell?_of_block (a := ⟨B, i, none⟩) hb
  have f : ∀ i, w'.frozen? ⟨B, i, none⟩ = w.frozen? ⟨B, i, none⟩ := fun i => World.frozen?_of_block (a := ⟨B, i, none⟩) hb
  refine ⟨?_, h.ne, h.bts, (e 0).trans h.code, ⟨a, s, k1, k2, k3, k4, (e 1).trans k5, (e 2).trans k6⟩, (f 1).trans h.free1, (f 2).trans h.free2⟩
  obtain ⟨a, cap, rfl, hl, hc⟩ := h.rd
  refine ⟨a, cap, rfl, hl, fun hne => ?_⟩
  obtain ⟨b, off, rfl, hcell⟩ := hc hne
  exact ⟨b, off, rfl, fun i hi => (World.cell?_of_block (a := ⟨b, off + i, none⟩) (hg.block b (World.block_lt_of_cell? w _ (hcell i hi)) (hv hne))).trans (hcell i hi)⟩
theorem srcE_alloc {B : Nat} {w0 w : World} {v : Value} {l : List Int} {m : Int} (h : SrcEnd B w0 v l m w) (o : Obj) : SrcEnd B w0 v l m (w.alloc o) :=
  ⟨srcD_grown h.1 (gr_allocD w o none) (by simp) (fun hne e => by
    obtain ⟨a, cap, rfl, hl, hc⟩ := h.1.rd
    obtain ⟨b, off, rfl, _⟩ := hc hne
    simp [Value.ownBlock] at e), gr_trans h.2 (gr_allocD w o _)⟩

set_option maxHeartbeats 400000 in
theorem size_any (B : Nat) (v : Value) (l : List Int) (m n : Int) (w : World) (h : Src B w v l m) (h1 : 1 ≤ n) :
    Calls Try.prog 46 #[.pointer (some ⟨B, 0, none⟩), .int .i64 n] w fun e w' => ∃ y : Int, e = .returned (.int .i64 y) ∧ 1 ≤ y ∧ y ≤ n ∧ w' = w := by
  have c0 := h.code
  obtain ⟨a, cap, rfl, hl, -⟩ := h.rd
  clear h
  go_enter Try.func46, Try.ntmps46
  go_wp2_with fail
  all_goals go_ret
  all_goals exact ⟨_, rfl, by omega, by omega, rfl⟩

set_option maxHeartbeats 400000 in
theorem pick3_any (B g : Nat) (v : Value) (l : List Int) (m : Int) (t0 t1 t2 : ByteArray) (w : World) (h : Src B w v l m) (hm : m ≤ 1000000000) (hg : g ≠ B) (k0 : w.cell? ⟨g, 0, none⟩ = some (.string t0)) (k1 : w.cell? ⟨g, 1, none⟩ = some (.string t1)) (k2 : w.cell? ⟨g, 2, none⟩ = some (.string t2)) :
    Calls Try.prog 47 #[.pointer (some ⟨B, 0, none⟩), .slice (some ⟨g, 0, none⟩) 3 3] w fun e w' => ∃ s, e = .returned (.string s) ∧ (s = t0 ∨ s = t1 ∨ s = t2) ∧ SrcEnd B w v l (m + 3) w' := by
  have HS := hide h
  have HK : Hid (_ ∧ _ ∧ _) := ⟨k0, k1, k2⟩
  clear h k0 k1 k2
  go_enter Try.func47, Try.ntmps47
  go_wp2_with fail
  refine (next_any B v l m 3 _ (unhide HS) hm (by omega) (by omega)).mono ?_
  rintro e w1 ⟨y, rfl, hy0, hy1, hE⟩
  obtain ⟨k, rfl⟩ := Int.eq_ofNat_of_zero_le hy0
  have HE := hide hE
  have hk : ∃ s, w1.cell? ⟨g, k, none⟩ = some (.string s) ∧ (s = t0 ∨ s = t1 ∨ s = t2) := by
    obtain ⟨k0, k1, k2⟩ := unhide HK
    have hne : some g ≠ some B := fun e => hg (Option.some.inj e)
    rcases (by omega : k = 0 ∨ k = 1 ∨ k = 2) with rfl | rfl | rfl
    · exact ⟨t0, hE.2.cell k0 hne, .inl rfl⟩
    · exact ⟨t1, hE.2.cell k1 hne, .inr (.inl rfl)⟩
    · exact ⟨t2, hE.2.cell k2 hne, .inr (.inr rfl)⟩
  obtain ⟨s, hc, hs⟩ := hk
  have HSS := hide hs
  clear hE hs
  go_wp2_with fail
  go_ret
  exact ⟨s, rfl, unhide HSS, unhide HE⟩

/-- The world of a region in which the source is asked: by how many operations have come up. -/
def BS (B : Nat) (W0 : World) (v : Value) (l : List Int) (m0 : Int) (n : Nat) (W : World) : Prop := ∃ m', m' ≤ m0 + 3 * (n : Int) ∧ SrcEnd B W0 v l m' W
theorem bs_more {B : Nat} {W0 W : World} {v : Value} {l : List Int} {m0 : Int} {n : Nat} (h : BS B W0 v l m0 n W) : BS B W0 v l m0 (n + 1) W := by
  obtain ⟨m', h1, h2⟩ := h
  exact ⟨m', by omega, h2⟩
theorem bs_call {B : Nat} {W0 W W' : World} {v : Value} {l : List Int} {m0 m' : Int} {n : Nat} (h1 : m' ≤ m0 + 3 * (n : Int)) (h2 : SrcEnd B W0 v l m' W) (h : SrcEnd B W v l (m' + 3) W') : BS B W0 v l m0 (n + 1) W' :=
  ⟨m' + 3, by omega, h.1, gr_trans h2.2 h.2⟩
theorem bs_alloc {B : Nat} {W0 W : World} {v : Value} {l : List Int} {m0 : Int} {n : Nat} (h : BS B W0 v l m0 n W) (o : Obj) : BS B W0 v l m0 (n + 1) (W.alloc o) := by
  obtain ⟨m', h1, h2⟩ := h
  exact ⟨m', by omega, srcE_alloc h2 o⟩
/-- What each operation of the step of Next has. -/
def D5 (B bb : Nat) (n : Int) (Fin : World → Prop) (p : Prop) (W : World) : Nat → Value → Prop
  | 0, v => v = .pointer (some ⟨bb, 0, none⟩)
  | 1, v => ¬ p → v = .int .i64 n
  | 2, v => v = .pointer (some ⟨B, 0, none⟩)
  | 3, v => ∃ y : Int, v = .int .i64 y ∧ 0 ≤ y ∧ y ≤ 2
  | 4, v => ∃ y : Int, v = .int .i64 (n + y) ∧ 0 ≤ y ∧ y ≤ 2
  | 5, v => v = .pointer (some ⟨bb, 0, none⟩)
  | 6, v => p → Fin W
  | _, _ => True
/-- An order as it is drawn but for its ticks. -/
def DrA (n : Int) (o : Od) : Prop := o.id = n ∧ (o.side = 1 ∨ o.side = 2) ∧ 1 ≤ o.left ∧ o.left ≤ 9 ∧ 0 ≤ o.life ∧ o.life ≤ 1 ∧ tagB o.tag = true
/-- What each operation of a drawn order has. -/
def D6 (B bb S0 : Nat) (n : Int) (t0 t1 t2 : ByteArray) (Fin : Nat → World → Prop) (p : Prop) (W : World) : Nat → Value → Prop
  | 0, v => v = .pointer (some ⟨bb, 0, none⟩)
  | 1, v => v = .int .i64 n
  | 2, v => v = .pointer (some ⟨B, 0, none⟩)
  | 3, v => ∃ y : Int, v = .int .i64 y ∧ 0 ≤ y ∧ y ≤ 1
  | 4, v => ∃ y : Int, v = .int .i64 y ∧ 1 ≤ y ∧ y ≤ 2
  | 5, v => v = .pointer (some ⟨B, 0, none⟩)
  | 6, v => ∃ y : Int, v = .int .i64 y ∧ 0 ≤ y ∧ y ≤ 8
  | 7, v => ∃ y : Int, v = .int .i64 y ∧ 1 ≤ y ∧ y ≤ 9
  | 8, v => v = .pointer (some ⟨B, 0, none⟩)
  | 9, v => ∃ y : Int, v = .int .i64 y ∧ 0 ≤ y ∧ y ≤ 2
  | 10, v => ∃ y : Int, v = .int .i64 y ∧ 0 ≤ y ∧ y ≤ 1
  | 11, v => v = .pointer (some ⟨B, 0, none⟩)
  | 12, v => ∃ g, v = .slice (some ⟨g, 0, none⟩) 3 3 ∧ S0 ≤ g ∧ g ≠ B ∧ (¬ p → W.rangeAt g 0 [.string t0, .string t1, .string t2])
  | 13, v => ∃ s, v = .string s ∧ (s = t0 ∨ s = t1 ∨ s = t2)
  | 14, v => ∃ id side left life tag, v = .agg #[.int .i64 id, .int .i64 side, .int .i64 0, .int .i64 left, .int .i64 life, .string tag] ∧ DrA n ⟨id, side, 0, left, life, tag⟩
  | 15, v => ∃ pt, v = .pointer (some ⟨pt, 0, none⟩) ∧ S0 ≤ pt ∧ (¬ p → pt < W.heap.size) ∧ pt ≠ B ∧ (¬ p → W.there pt 0 6) ∧ (p → Fin pt W)
  | _, _ => True
theorem d5_mono {B bb : Nat} {n : Int} {Fin : World → Prop} {p : Prop} {W W' : World} (hp : ¬ p) : ∀ j v, D5 B bb n Fin p W j v → D5 B bb n Fin p W' j v := by
  intro j v h
  match j with
  | 0 => exact h
  | 1 => exact h
  | 2 => exact h
  | 3 => exact h
  | 4 => exact h
  | 5 => exact h
  | 6 => exact fun h' => absurd h' hp
  | j + 7 => trivial
theorem d6_mono {B bb S0 : Nat} {n : Int} {t0 t1 t2 : ByteArray} {Fin : Nat → World → Prop} {p : Prop} {W W' : World} (hp : ¬ p) (hg : W.grownBy W' (some B)) : ∀ j v, D6 B bb S0 n t0 t1 t2 Fin p W j v → D6 B bb S0 n t0 t1 t2 Fin p W' j v := by
  intro j v h
  match j with
  | 0 => exact h
  | 1 => exact h
  | 2 => exact h
  | 3 => exact h
  | 4 => exact h
  | 5 => exact h
  | 6 => exact h
  | 7 => exact h
  | 8 => exact h
  | 9 => exact h
  | 10 => exact h
  | 11 => exact h
  | 12 =>
    obtain ⟨g, h1, h2, h3, h4⟩ := h
    exact ⟨g, h1, h2, h3, fun hp => range_grown (h4 hp) hg (World.block_lt_of_cell? W _ (h4 hp 0 _ rfl)) (fun e => h3 (Option.some.inj e))⟩
  | 13 => exact h
  | 14 => exact h
  | 15 =>
    obtain ⟨pt, h1, h2, h3, h4, h5, h6⟩ := h
    have hne : some pt ≠ some B := fun e => h4 (Option.some.inj e)
    exact ⟨pt, h1, h2, fun _ => Nat.lt_of_lt_of_le (h3 hp) hg.size, h4, fun _ => there_grown (h5 hp) hg (h3 hp) hne, fun h' => absurd h' hp⟩
  | j + 16 => trivial
end Go.Proofs.Ytadnjcgfoofjiaa
