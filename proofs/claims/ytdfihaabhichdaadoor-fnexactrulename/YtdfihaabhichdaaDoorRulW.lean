/-
  What the functions of the names of rules return, proved by walking them: the name of a rule, off the same names; nothing that was there is turned.
-/
import Derived.Test.YtdfihaabhichdaaDoorBase
import Derived.WalkLawsBesides
import Derived.WalkSpells
namespace Go.Proofs.YtdfihaabhichdaaDoor
open Go.RowKit

/-- The names of the rules. -/
def rnames : List ByteArray := [⟨#[]⟩, ⟨#[102, 114, 97, 109, 101]⟩, ⟨#[101, 118, 101, 110, 116]⟩, ⟨#[115, 116, 97, 114, 116]⟩, ⟨#[114, 101, 97, 115, 111, 110]⟩, ⟨#[97, 99, 99, 101, 112, 116]⟩, ⟨#[105, 100]⟩, ⟨#[99, 111, 117, 110, 116]⟩, ⟨#[111, 118, 101, 114]⟩, ⟨#[116, 114, 97, 100, 101]⟩, ⟨#[109, 97, 107, 101, 114]⟩, ⟨#[112, 114, 105, 99, 101]⟩, ⟨#[113, 116, 121]⟩, ⟨#[114, 101, 115, 116]⟩, ⟨#[101, 120, 112, 105, 114, 101]⟩, ⟨#[115, 104, 111, 114, 116]⟩, ⟨#[116, 111, 116, 97, 108, 115]⟩, ⟨#[98, 101, 104, 105, 110, 100]⟩, ⟨#[109, 97, 110, 121]⟩]
def rnameAt (k : Nat) : ByteArray := rnames.getD k ⟨#[]⟩
def rnameB (c : Int) : ByteArray := if 0 ≤ c ∧ c < 19 then rnameAt c.toNat else ⟨#[]⟩
/-- The table of names, in the program's own variable. -/
def TabR (w : World) : Prop := ∀ i, i < 19 → w.cell? ⟨0, i, none⟩ = some (.string (rnameAt i))

theorem rtab_below {B : Nat} {w w' : World} (h : TabR w) (hb : Below B w w') (hB : w.heap.size ≤ B) : TabR w' :=
  fun i hi => (hb.cell (p := ⟨_, i, none⟩) (Nat.lt_of_lt_of_le (World.block_lt_of_cell? w _ (h i hi)) hB)).trans (h i hi)

set_option maxRecDepth 100000 in
set_option maxHeartbeats 8000000 in
theorem specRule_any (c : Int) (w : World) (h0 : -9223372036854775808 ≤ c) (h1 : c ≤ 9223372036854775807) :
    Calls Tryd.prog 4 #[.int .i64 c] w fun e w' => e = .returned (.string (rnameB c)) ∧ Below w.heap.size w w' := by
  rcases (show c < 0 ∨ 19 ≤ c ∨ c = 0 ∨ c = 1 ∨ c = 2 ∨ c = 3 ∨ c = 4 ∨ c = 5 ∨ c = 6 ∨ c = 7 ∨ c = 8 ∨ c = 9 ∨ c = 10 ∨ c = 11 ∨ c = 12 ∨ c = 13 ∨ c = 14 ∨ c = 15 ∨ c = 16 ∨ c = 17 ∨ c = 18 by omega) with h | h | rfl | rfl | rfl | rfl | rfl | rfl | rfl | rfl | rfl | rfl | rfl | rfl | rfl | rfl | rfl | rfl | rfl | rfl | rfl
  · have HF := hide (show rnameB c = ⟨#[]⟩ from if_neg (by omega))
    go_enter Tryd.func4, Tryd.ntmps4
    go_wp2
    go_ret
    exact ⟨by rw [unhide HF]; rfl, (Below.refl _ _).alloc (Nat.le_refl _) _⟩
  · have HF := hide (show rnameB c = ⟨#[]⟩ from if_neg (by omega))
    go_enter Tryd.func4, Tryd.ntmps4
    go_wp2
    go_ret
    exact ⟨by rw [unhide HF]; rfl, (Below.refl _ _).alloc (Nat.le_refl _) _⟩
  all_goals clear h0 h1
  · have HF := hide (show rnameB 0 = ⟨#[]⟩ from rfl)
    go_enter Tryd.func4, Tryd.ntmps4
    go_wp2
    go_ret
    exact ⟨by rw [unhide HF]; rfl, (Below.refl _ _).alloc (Nat.le_refl _) _⟩
  · have HF := hide (show rnameB 1 = ⟨#[102, 114, 97, 109, 101]⟩ from rfl)
    go_enter Tryd.func4, Tryd.ntmps4
    go_wp2
    go_ret
    exact ⟨by rw [unhide HF]; rfl, (Below.refl _ _).alloc (Nat.le_refl _) _⟩
  · have HF := hide (show rnameB 2 = ⟨#[101, 118, 101, 110, 116]⟩ from rfl)
    go_enter Tryd.func4, Tryd.ntmps4
    go_wp2
    go_ret
    exact ⟨by rw [unhide HF]; rfl, (Below.refl _ _).alloc (Nat.le_refl _) _⟩
  · have HF := hide (show rnameB 3 = ⟨#[115, 116, 97, 114, 116]⟩ from rfl)
    go_enter Tryd.func4, Tryd.ntmps4
    go_wp2
    go_ret
    exact ⟨by rw [unhide HF]; rfl, (Below.refl _ _).alloc (Nat.le_refl _) _⟩
  · have HF := hide (show rnameB 4 = ⟨#[114, 101, 97, 115, 111, 110]⟩ from rfl)
    go_enter Tryd.func4, Tryd.ntmps4
    go_wp2
    go_ret
    exact ⟨by rw [unhide HF]; rfl, (Below.refl _ _).alloc (Nat.le_refl _) _⟩
  · have HF := hide (show rnameB 5 = ⟨#[97, 99, 99, 101, 112, 116]⟩ from rfl)
    go_enter Tryd.func4, Tryd.ntmps4
    go_wp2
    go_ret
    exact ⟨by rw [unhide HF]; rfl, (Below.refl _ _).alloc (Nat.le_refl _) _⟩
  · have HF := hide (show rnameB 6 = ⟨#[105, 100]⟩ from rfl)
    go_enter Tryd.func4, Tryd.ntmps4
    go_wp2
    go_ret
    exact ⟨by rw [unhide HF]; rfl, (Below.refl _ _).alloc (Nat.le_refl _) _⟩
  · have HF := hide (show rnameB 7 = ⟨#[99, 111, 117, 110, 116]⟩ from rfl)
    go_enter Tryd.func4, Tryd.ntmps4
    go_wp2
    go_ret
    exact ⟨by rw [unhide HF]; rfl, (Below.refl _ _).alloc (Nat.le_refl _) _⟩
  · have HF := hide (show rnameB 8 = ⟨#[111, 118, 101, 114]⟩ from rfl)
    go_enter Tryd.func4, Tryd.ntmps4
    go_wp2
    go_ret
    exact ⟨by rw [unhide HF]; rfl, (Below.refl _ _).alloc (Nat.le_refl _) _⟩
  · have HF := hide (show rnameB 9 = ⟨#[116, 114, 97, 100, 101]⟩ from rfl)
    go_enter Tryd.func4, Tryd.ntmps4
    go_wp2
    go_ret
    exact ⟨by rw [unhide HF]; rfl, (Below.refl _ _).alloc (Nat.le_refl _) _⟩
  · have HF := hide (show rnameB 10 = ⟨#[109, 97, 107, 101, 114]⟩ from rfl)
    go_enter Tryd.func4, Tryd.ntmps4
    go_wp2
    go_ret
    exact ⟨by rw [unhide HF]; rfl, (Below.refl _ _).alloc (Nat.le_refl _) _⟩
  · have HF := hide (show rnameB 11 = ⟨#[112, 114, 105, 99, 101]⟩ from rfl)
    go_enter Tryd.func4, Tryd.ntmps4
    go_wp2
    go_ret
    exact ⟨by rw [unhide HF]; rfl, (Below.refl _ _).alloc (Nat.le_refl _) _⟩
  · have HF := hide (show rnameB 12 = ⟨#[113, 116, 121]⟩ from rfl)
    go_enter Tryd.func4, Tryd.ntmps4
    go_wp2
    go_ret
    exact ⟨by rw [unhide HF]; rfl, (Below.refl _ _).alloc (Nat.le_refl _) _⟩
  · have HF := hide (show rnameB 13 = ⟨#[114, 101, 115, 116]⟩ from rfl)
    go_enter Tryd.func4, Tryd.ntmps4
    go_wp2
    go_ret
    exact ⟨by rw [unhide HF]; rfl, (Below.refl _ _).alloc (Nat.le_refl _) _⟩
  · have HF := hide (show rnameB 14 = ⟨#[101, 120, 112, 105, 114, 101]⟩ from rfl)
    go_enter Tryd.func4, Tryd.ntmps4
    go_wp2
    go_ret
    exact ⟨by rw [unhide HF]; rfl, (Below.refl _ _).alloc (Nat.le_refl _) _⟩
  · have HF := hide (show rnameB 15 = ⟨#[115, 104, 111, 114, 116]⟩ from rfl)
    go_enter Tryd.func4, Tryd.ntmps4
    go_wp2
    go_ret
    exact ⟨by rw [unhide HF]; rfl, (Below.refl _ _).alloc (Nat.le_refl _) _⟩
  · have HF := hide (show rnameB 16 = ⟨#[116, 111, 116, 97, 108, 115]⟩ from rfl)
    go_enter Tryd.func4, Tryd.ntmps4
    go_wp2
    go_ret
    exact ⟨by rw [unhide HF]; rfl, (Below.refl _ _).alloc (Nat.le_refl _) _⟩
  · have HF := hide (show rnameB 17 = ⟨#[98, 101, 104, 105, 110, 100]⟩ from rfl)
    go_enter Tryd.func4, Tryd.ntmps4
    go_wp2
    go_ret
    exact ⟨by rw [unhide HF]; rfl, (Below.refl _ _).alloc (Nat.le_refl _) _⟩
  · have HF := hide (show rnameB 18 = ⟨#[109, 97, 110, 121]⟩ from rfl)
    go_enter Tryd.func4, Tryd.ntmps4
    go_wp2
    go_ret
    exact ⟨by rw [unhide HF]; rfl, (Below.refl _ _).alloc (Nat.le_refl _) _⟩

set_option maxRecDepth 100000 in
theorem implRule_any (c : Int) (w : World) (ht : TabR w) :
    Calls Tryd.prog 5 #[.int .i64 c] w fun e w' => e = .returned (.string (rnameB c)) ∧ w' = w := by
  rcases (show c < 0 ∨ 19 ≤ c ∨ (0 ≤ c ∧ c < 19) by omega) with h | h | ⟨h, h'⟩
  · have HF := hide (show rnameB c = ⟨#[]⟩ from if_neg (by omega))
    go_enter Tryd.func5, Tryd.ntmps5
    go_wp2
    go_ret
    exact ⟨by rw [unhide HF]; rfl, rfl⟩
  · have HF := hide (show rnameB c = ⟨#[]⟩ from if_neg (by omega))
    go_enter Tryd.func5, Tryd.ntmps5
    go_wp2
    go_ret
    exact ⟨by rw [unhide HF]; rfl, rfl⟩
  · obtain ⟨k, rfl⟩ := Int.eq_ofNat_of_zero_le h
    have HF := hide (show rnameB (k : Int) = rnameAt k from if_pos ⟨h, h'⟩)
    have hc := ht k (by omega)
    have HT := hide ht
    clear ht
    generalize rnameAt k = s at *
    go_enter Tryd.func5, Tryd.ntmps5
    go_wp2
    go_ret
    exact ⟨by rw [unhide HF]; rfl, rfl⟩

set_option maxRecDepth 100000 in
theorem lawRule (c : Int) (w : World) (h0 : -9223372036854775808 ≤ c) (h1 : c ≤ 9223372036854775807) (ht : TabR w) :
    Calls Tryd.prog 3 #[.int .i64 c] w fun e w' => e = .returned (.bool true) ∧ Below w.heap.size w w' := by
  have HS := hide (fun w => specRule_any c w h0 h1)
  have HI := hide (fun w ht => implRule_any c w ht)
  have HT := hide ht
  clear ht
  generalize rnameB c = s at *
  go_enter Tryd.func3, Tryd.ntmps3
  go_wp2_with fail
  refine (unhide HS _).mono ?_
  rintro e w1 ⟨rfl, hb⟩
  have HB := hide hb
  clear hb
  go_wp2_with fail
  refine (unhide HI _ (rtab_below (unhide HT) (unhide HB) (Nat.le_refl _))).mono ?_
  rintro e w2 ⟨rfl, rfl⟩
  go_wp2_with fail
  go_ret
  exact ⟨rfl, unhide HB⟩
end Go.Proofs.YtdfihaabhichdaaDoor
