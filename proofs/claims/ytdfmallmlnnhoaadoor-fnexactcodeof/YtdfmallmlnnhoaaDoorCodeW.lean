/-
  What the functions of codes and words return, proved by walking them: the word of a code, the code of a word, off the same nine words; nothing that was there is turned.
-/
import Derived.Test.YtdfmallmlnnhoaaDoorBase
import Derived.WalkLawsBesides
import Derived.WalkSpells
namespace Go.Proofs.YtdfmallmlnnhoaaDoor
open Go.RowKit

/-- The words of the codes. -/
def words : List ByteArray := [⟨#[111, 107]⟩, ⟨#[98, 97, 100]⟩, ⟨#[108, 111, 110, 103]⟩, ⟨#[102, 111, 114, 109]⟩, ⟨#[115, 121, 110, 116, 97, 120]⟩, ⟨#[114, 97, 110, 103, 101]⟩, ⟨#[110, 111, 110, 101]⟩, ⟨#[109, 97, 110, 121]⟩, ⟨#[108, 97, 119, 108, 101, 115, 115]⟩]
def wordAt (k : Nat) : ByteArray := words.getD k ⟨#[]⟩
def wordB (c : Int) : ByteArray := if 0 ≤ c ∧ c < 9 then wordAt c.toNat else ⟨#[]⟩
/-- The table of words, in the program's own variable. -/
def TabW (w : World) : Prop := ∀ i, i < 9 → w.cell? ⟨0, i, none⟩ = some (.string (wordAt i))

theorem tab_below {B : Nat} {w w' : World} (h : TabW w) (hb : Below B w w') (hB : w.heap.size ≤ B) : TabW w' :=
  fun i hi => (hb.cell (p := ⟨_, i, none⟩) (Nat.lt_of_lt_of_le (World.block_lt_of_cell? w _ (h i hi)) hB)).trans (h i hi)

set_option maxRecDepth 100000 in
set_option maxHeartbeats 4000000 in
theorem specWord_any (c : Int) (w : World) (h0 : -9223372036854775808 ≤ c) (h1 : c ≤ 9223372036854775807) :
    Calls Tryd.prog 5 #[.int .i64 c] w fun e w' => e = .returned (.string (wordB c)) ∧ Below w.heap.size w w' := by
  rcases (show c < 0 ∨ 9 ≤ c ∨ c = 0 ∨ c = 1 ∨ c = 2 ∨ c = 3 ∨ c = 4 ∨ c = 5 ∨ c = 6 ∨ c = 7 ∨ c = 8 by omega) with h | h | rfl | rfl | rfl | rfl | rfl | rfl | rfl | rfl | rfl
  · have HF := hide (show wordB c = ⟨#[]⟩ from if_neg (by omega))
    go_enter Tryd.func5, Tryd.ntmps5
    go_wp2
    go_ret
    exact ⟨by rw [unhide HF]; rfl, (Below.refl _ _).alloc (Nat.le_refl _) _⟩
  · have HF := hide (show wordB c = ⟨#[]⟩ from if_neg (by omega))
    go_enter Tryd.func5, Tryd.ntmps5
    go_wp2
    go_ret
    exact ⟨by rw [unhide HF]; rfl, (Below.refl _ _).alloc (Nat.le_refl _) _⟩
  all_goals clear h0 h1
  · have HF := hide (show wordB 0 = ⟨#[111, 107]⟩ from rfl)
    go_enter Tryd.func5, Tryd.ntmps5
    go_wp2
    go_ret
    exact ⟨by rw [unhide HF]; rfl, (Below.refl _ _).alloc (Nat.le_refl _) _⟩
  · have HF := hide (show wordB 1 = ⟨#[98, 97, 100]⟩ from rfl)
    go_enter Tryd.func5, Tryd.ntmps5
    go_wp2
    go_ret
    exact ⟨by rw [unhide HF]; rfl, (Below.refl _ _).alloc (Nat.le_refl _) _⟩
  · have HF := hide (show wordB 2 = ⟨#[108, 111, 110, 103]⟩ from rfl)
    go_enter Tryd.func5, Tryd.ntmps5
    go_wp2
    go_ret
    exact ⟨by rw [unhide HF]; rfl, (Below.refl _ _).alloc (Nat.le_refl _) _⟩
  · have HF := hide (show wordB 3 = ⟨#[102, 111, 114, 109]⟩ from rfl)
    go_enter Tryd.func5, Tryd.ntmps5
    go_wp2
    go_ret
    exact ⟨by rw [unhide HF]; rfl, (Below.refl _ _).alloc (Nat.le_refl _) _⟩
  · have HF := hide (show wordB 4 = ⟨#[115, 121, 110, 116, 97, 120]⟩ from rfl)
    go_enter Tryd.func5, Tryd.ntmps5
    go_wp2
    go_ret
    exact ⟨by rw [unhide HF]; rfl, (Below.refl _ _).alloc (Nat.le_refl _) _⟩
  · have HF := hide (show wordB 5 = ⟨#[114, 97, 110, 103, 101]⟩ from rfl)
    go_enter Tryd.func5, Tryd.ntmps5
    go_wp2
    go_ret
    exact ⟨by rw [unhide HF]; rfl, (Below.refl _ _).alloc (Nat.le_refl _) _⟩
  · have HF := hide (show wordB 6 = ⟨#[110, 111, 110, 101]⟩ from rfl)
    go_enter Tryd.func5, Tryd.ntmps5
    go_wp2
    go_ret
    exact ⟨by rw [unhide HF]; rfl, (Below.refl _ _).alloc (Nat.le_refl _) _⟩
  · have HF := hide (show wordB 7 = ⟨#[109, 97, 110, 121]⟩ from rfl)
    go_enter Tryd.func5, Tryd.ntmps5
    go_wp2
    go_ret
    exact ⟨by rw [unhide HF]; rfl, (Below.refl _ _).alloc (Nat.le_refl _) _⟩
  · have HF := hide (show wordB 8 = ⟨#[108, 97, 119, 108, 101, 115, 115]⟩ from rfl)
    go_enter Tryd.func5, Tryd.ntmps5
    go_wp2
    go_ret
    exact ⟨by rw [unhide HF]; rfl, (Below.refl _ _).alloc (Nat.le_refl _) _⟩

set_option maxRecDepth 100000 in
theorem implWord_any (c : Int) (w : World) (ht : TabW w) :
    Calls Tryd.prog 6 #[.int .i64 c] w fun e w' => e = .returned (.string (wordB c)) ∧ w' = w := by
  rcases (show c < 0 ∨ 9 ≤ c ∨ (0 ≤ c ∧ c < 9) by omega) with h | h | ⟨h, h'⟩
  · have HF := hide (show wordB c = ⟨#[]⟩ from if_neg (by omega))
    go_enter Tryd.func6, Tryd.ntmps6
    go_wp2
    go_ret
    exact ⟨by rw [unhide HF]; rfl, rfl⟩
  · have HF := hide (show wordB c = ⟨#[]⟩ from if_neg (by omega))
    go_enter Tryd.func6, Tryd.ntmps6
    go_wp2
    go_ret
    exact ⟨by rw [unhide HF]; rfl, rfl⟩
  · obtain ⟨k, rfl⟩ := Int.eq_ofNat_of_zero_le h
    have HF := hide (show wordB (k : Int) = wordAt k from if_pos ⟨h, h'⟩)
    have hc := ht k (by omega)
    have HT := hide ht
    clear ht
    generalize wordAt k = s at *
    go_enter Tryd.func6, Tryd.ntmps6
    go_wp2
    go_ret
    exact ⟨by rw [unhide HF]; rfl, rfl⟩

set_option maxRecDepth 100000 in
theorem lawWord (c : Int) (w : World) (h0 : -9223372036854775808 ≤ c) (h1 : c ≤ 9223372036854775807) (ht : TabW w) :
    Calls Tryd.prog 3 #[.int .i64 c] w fun e w' => e = .returned (.bool true) ∧ Below w.heap.size w w' := by
  have HS := hide (fun w => specWord_any c w h0 h1)
  have HI := hide (fun w ht => implWord_any c w ht)
  have HT := hide ht
  clear ht
  generalize wordB c = s at *
  go_enter Tryd.func3, Tryd.ntmps3
  go_wp2_with fail
  refine (unhide HS _).mono ?_
  rintro e w1 ⟨rfl, hb⟩
  have HB := hide hb
  clear hb
  go_wp2_with fail
  refine (unhide HI _ (tab_below (unhide HT) (unhide HB) (Nat.le_refl _))).mono ?_
  rintro e w2 ⟨rfl, rfl⟩
  go_wp2_with fail
  go_ret
  exact ⟨rfl, unhide HB⟩
end Go.Proofs.YtdfmallmlnnhoaaDoor
