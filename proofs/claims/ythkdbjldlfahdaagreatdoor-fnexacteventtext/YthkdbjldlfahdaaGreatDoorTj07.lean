/-
  What the functions of the names of reasons return, proved by walking them: the name of a reason, off the same names; nothing that was there is turned.
-/
import Derived.Test.YthkdbjldlfahdaaGreatDoorTj01
import Derived.WalkLawsBesides
import Derived.WalkSpells
namespace Go.Proofs.YthkdbjldlfahdaaGreatDoor
open Go.RowKit

/-- The names of the reasons. -/
def fnames : List ByteArray := [⟨#[]⟩, ⟨#[107, 105, 110, 100]⟩, ⟨#[102, 111, 114, 109]⟩, ⟨#[115, 105, 100, 101]⟩, ⟨#[116, 121, 112, 101]⟩, ⟨#[108, 105, 102, 101]⟩, ⟨#[112, 114, 105, 99, 101]⟩, ⟨#[113, 116, 121]⟩, ⟨#[116, 97, 103]⟩, ⟨#[105, 100]⟩, ⟨#[109, 111, 114, 101]⟩, ⟨#[112, 111, 115, 116]⟩, ⟨#[102, 105, 108, 108]⟩, ⟨#[102, 117, 108, 108]⟩]
def fnameAt (k : Nat) : ByteArray := fnames.getD k ⟨#[]⟩
def fnameB (c : Int) : ByteArray := if 0 ≤ c ∧ c < 14 then fnameAt c.toNat else ⟨#[]⟩
/-- The table of names, in the program's own variable. -/
def TabF (w : World) : Prop := ∀ i, i < 14 → w.cell? ⟨0, i, none⟩ = some (.string (fnameAt i))

theorem ftab_below {B : Nat} {w w' : World} (h : TabF w) (hb : Below B w w') (hB : w.heap.size ≤ B) : TabF w' :=
  fun i hi => (hb.cell (p := ⟨_, i, none⟩) (Nat.lt_of_lt_of_le (World.block_lt_of_cell? w _ (h i hi)) hB)).trans (h i hi)

set_option maxRecDepth 100000 in
set_option maxHeartbeats 8000000 in
theorem specReaN_any (c : Int) (w : World) (h0 : -9223372036854775808 ≤ c) (h1 : c ≤ 9223372036854775807) :
    Calls Tryz.prog 18 #[.int .i64 c] w fun e w' => e = .returned (.string (fnameB c)) ∧ Below w.heap.size w w' := by
  rcases (show c < 0 ∨ 14 ≤ c ∨ c = 0 ∨ c = 1 ∨ c = 2 ∨ c = 3 ∨ c = 4 ∨ c = 5 ∨ c = 6 ∨ c = 7 ∨ c = 8 ∨ c = 9 ∨ c = 10 ∨ c = 11 ∨ c = 12 ∨ c = 13 by omega) with h | h | rfl | rfl | rfl | rfl | rfl | rfl | rfl | rfl | rfl | rfl | rfl | rfl | rfl | rfl
  · have HF := hide (show fnameB c = ⟨#[]⟩ from if_neg (by omega))
    go_enter Tryz.func18, Tryz.ntmps18
    go_wp2
    go_ret
    exact ⟨by rw [unhide HF]; rfl, (Below.refl _ _).alloc (Nat.le_refl _) _⟩
  · have HF := hide (show fnameB c = ⟨#[]⟩ from if_neg (by omega))
    go_enter Tryz.func18, Tryz.ntmps18
    go_wp2
    go_ret
    exact ⟨by rw [unhide HF]; rfl, (Below.refl _ _).alloc (Nat.le_refl _) _⟩
  all_goals clear h0 h1
  · have HF := hide (show fnameB 0 = ⟨#[]⟩ from rfl)
    go_enter Tryz.func18, Tryz.ntmps18
    go_wp2
    go_ret
    exact ⟨by rw [unhide HF]; rfl, (Below.refl _ _).alloc (Nat.le_refl _) _⟩
  · have HF := hide (show fnameB 1 = ⟨#[107, 105, 110, 100]⟩ from rfl)
    go_enter Tryz.func18, Tryz.ntmps18
    go_wp2
    go_ret
    exact ⟨by rw [unhide HF]; rfl, (Below.refl _ _).alloc (Nat.le_refl _) _⟩
  · have HF := hide (show fnameB 2 = ⟨#[102, 111, 114, 109]⟩ from rfl)
    go_enter Tryz.func18, Tryz.ntmps18
    go_wp2
    go_ret
    exact ⟨by rw [unhide HF]; rfl, (Below.refl _ _).alloc (Nat.le_refl _) _⟩
  · have HF := hide (show fnameB 3 = ⟨#[115, 105, 100, 101]⟩ from rfl)
    go_enter Tryz.func18, Tryz.ntmps18
    go_wp2
    go_ret
    exact ⟨by rw [unhide HF]; rfl, (Below.refl _ _).alloc (Nat.le_refl _) _⟩
  · have HF := hide (show fnameB 4 = ⟨#[116, 121, 112, 101]⟩ from rfl)
    go_enter Tryz.func18, Tryz.ntmps18
    go_wp2
    go_ret
    exact ⟨by rw [unhide HF]; rfl, (Below.refl _ _).alloc (Nat.le_refl _) _⟩
  · have HF := hide (show fnameB 5 = ⟨#[108, 105, 102, 101]⟩ from rfl)
    go_enter Tryz.func18, Tryz.ntmps18
    go_wp2
    go_ret
    exact ⟨by rw [unhide HF]; rfl, (Below.refl _ _).alloc (Nat.le_refl _) _⟩
  · have HF := hide (show fnameB 6 = ⟨#[112, 114, 105, 99, 101]⟩ from rfl)
    go_enter Tryz.func18, Tryz.ntmps18
    go_wp2
    go_ret
    exact ⟨by rw [unhide HF]; rfl, (Below.refl _ _).alloc (Nat.le_refl _) _⟩
  · have HF := hide (show fnameB 7 = ⟨#[113, 116, 121]⟩ from rfl)
    go_enter Tryz.func18, Tryz.ntmps18
    go_wp2
    go_ret
    exact ⟨by rw [unhide HF]; rfl, (Below.refl _ _).alloc (Nat.le_refl _) _⟩
  · have HF := hide (show fnameB 8 = ⟨#[116, 97, 103]⟩ from rfl)
    go_enter Tryz.func18, Tryz.ntmps18
    go_wp2
    go_ret
    exact ⟨by rw [unhide HF]; rfl, (Below.refl _ _).alloc (Nat.le_refl _) _⟩
  · have HF := hide (show fnameB 9 = ⟨#[105, 100]⟩ from rfl)
    go_enter Tryz.func18, Tryz.ntmps18
    go_wp2
    go_ret
    exact ⟨by rw [unhide HF]; rfl, (Below.refl _ _).alloc (Nat.le_refl _) _⟩
  · have HF := hide (show fnameB 10 = ⟨#[109, 111, 114, 101]⟩ from rfl)
    go_enter Tryz.func18, Tryz.ntmps18
    go_wp2
    go_ret
    exact ⟨by rw [unhide HF]; rfl, (Below.refl _ _).alloc (Nat.le_refl _) _⟩
  · have HF := hide (show fnameB 11 = ⟨#[112, 111, 115, 116]⟩ from rfl)
    go_enter Tryz.func18, Tryz.ntmps18
    go_wp2
    go_ret
    exact ⟨by rw [unhide HF]; rfl, (Below.refl _ _).alloc (Nat.le_refl _) _⟩
  · have HF := hide (show fnameB 12 = ⟨#[102, 105, 108, 108]⟩ from rfl)
    go_enter Tryz.func18, Tryz.ntmps18
    go_wp2
    go_ret
    exact ⟨by rw [unhide HF]; rfl, (Below.refl _ _).alloc (Nat.le_refl _) _⟩
  · have HF := hide (show fnameB 13 = ⟨#[102, 117, 108, 108]⟩ from rfl)
    go_enter Tryz.func18, Tryz.ntmps18
    go_wp2
    go_ret
    exact ⟨by rw [unhide HF]; rfl, (Below.refl _ _).alloc (Nat.le_refl _) _⟩

set_option maxRecDepth 100000 in
theorem implReaN_any (c : Int) (w : World) (ht : TabF w) :
    Calls Tryz.prog 25 #[.int .i64 c] w fun e w' => e = .returned (.string (fnameB c)) ∧ w' = w := by
  rcases (show c < 0 ∨ 14 ≤ c ∨ (0 ≤ c ∧ c < 14) by omega) with h | h | ⟨h, h'⟩
  · have HF := hide (show fnameB c = ⟨#[]⟩ from if_neg (by omega))
    go_enter Tryz.func25, Tryz.ntmps25
    go_wp2
    go_ret
    exact ⟨by rw [unhide HF]; rfl, rfl⟩
  · have HF := hide (show fnameB c = ⟨#[]⟩ from if_neg (by omega))
    go_enter Tryz.func25, Tryz.ntmps25
    go_wp2
    go_ret
    exact ⟨by rw [unhide HF]; rfl, rfl⟩
  · obtain ⟨k, rfl⟩ := Int.eq_ofNat_of_zero_le h
    have HF := hide (show fnameB (k : Int) = fnameAt k from if_pos ⟨h, h'⟩)
    have hc := ht k (by omega)
    have HT := hide ht
    clear ht
    generalize fnameAt k = s at *
    go_enter Tryz.func25, Tryz.ntmps25
    go_wp2
    go_ret
    exact ⟨by rw [unhide HF]; rfl, rfl⟩
end Go.Proofs.YthkdbjldlfahdaaGreatDoor
