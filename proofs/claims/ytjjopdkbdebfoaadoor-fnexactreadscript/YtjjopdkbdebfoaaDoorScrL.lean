/-
  The law of ReadScript, walked: it returns true, and nothing that was there is turned.
-/
import Derived.Test.YtjjopdkbdebfoaaDoorScrZ
import Derived.Test.YtjjopdkbdebfoaaDoorCmdQ
import Derived.Test.YtjjopdkbdebfoaaDoorCmdN
import Derived.Test.YtjjopdkbdebfoaaDoorCmdH
namespace Go.Proofs.YtjjopdkbdebfoaaDoor
open Go.RowKit
set_option linter.unusedVariables false

theorem scn_len : ∀ (r : List (List UInt8)) (n : Nat) (out : List Cm), out.length ≤ 200 → (scn r n out).1.length ≤ 200
  | [], _, out, h => h
  | l :: r, n, out, h => by
    rw [scn_step]
    split
    · exact scn_len r _ _ h
    · split
      · simp
      · split
        · simp
        · exact scn_len r _ _ (by simp; omega)
theorem rsT_len (l : List UInt8) : (rsT l).1.length ≤ 200 := by
  unfold rsT
  split
  · simp
  · exact scn_len _ _ _ (by simp)
set_option maxRecDepth 100000 in
set_option maxHeartbeats 4000000 in
theorem lawScript (s : ByteArray) (w : World) (hm : s.size ≤ maxLen) (ht : TabT w) :
    Calls Tryd.prog 4 #[.string s] w fun e w' => e = .returned (.bool true) ∧ Below w.heap.size w w' := by
  by_cases hl : 1048576 < s.size
  · have hl' : (1048576 : Int) < s.size := by omega
    clear ht
    go_enter Tryd.func4, Tryd.ntmps4
    go_wp2_with fail
    go_ret
    exact ⟨rfl, Below.refl _ _⟩
  have hl' : ¬ ((1048576 : Int) < s.size) := by omega
  have HS := hide (specScript_any s w (by omega))
  have HI := hide (fun W h => implScript_any s W (by omega) h)
  have HT := hide ht
  have hle := rsT_len s.data.toList
  clear ht
  generalize rsT s.data.toList = R at *
  obtain ⟨L, co, nu⟩ := R
  simp only at hle
  unfold RsEnd at HS HI
  simp only at HS HI
  go_enter Tryd.func4, Tryd.ntmps4
  go_wp2_with fail
  refine (unhide HS).mono ?_
  rintro e W1 ⟨v1, rfl, ho1, hb1⟩
  have HB1 := hide hb1
  have HR1 := hide (ownR_rd ho1)
  clear ho1 hb1
  go_wp2_with fail
  refine (unhide HI W1 (ttab_below (unhide HT) (unhide HB1) (Nat.le_refl _))).mono ?_
  rintro e W2 ⟨v2, rfl, ho2, hb2⟩
  have HC2 : Hid (Below W1.heap.size W1 W2) := hb2
  have HO2 := hide ho2
  have HQ2 := hide (eqCmdS_same v2 v1 L W2 (ownR_rd ho2) (rdR_below (unhide HR1) hb2 (Nat.le_refl _)))
  clear ho2 hb2
  go_wp2_with fail
  refine (unhide HQ2).mono ?_
  rintro e W3 ⟨rfl, hb3⟩
  have HC3 : Hid (Below W1.heap.size W1 W3) := (unhide HC2).trans (hb3.mono (unhide HC2).size)
  have HO3 := ownR_below (unhide HO2) hb3 (Nat.le_refl _)
  have HM := hide (markC_own v2 L W3 HO3 (by omega))
  obtain ⟨mk, hmk⟩ : ∃ mk : Nat, mk = 1 + 8 * L.length := ⟨_, rfl⟩
  rw [← hmk] at HM
  have HMK := hide hmk
  have hn0 : ¬ ((mk : Int) < 0) := by omega
  clear hmk
  clear hb3 HO3 HQ2 HO2 HC2
  go_wp2_with fail
  refine (unhide HM).mono ?_
  rintro e W4 ⟨rfl, ho4, G, hg4, hG⟩
  have HC4 : Hid (Below W1.heap.size W1 W4) := (unhide HC3).grown hg4 (unhide HC3).size (fun k hk => (hG k hk).2.1)
  have HO4 := hide ho4
  have HH4 := hide (heldCmdS_any v2 L.length 1 W4 (by omega) (by omega) (by omega) (ownR_rd ho4))
  rw [← unhide HMK] at HH4
  clear ho4 hg4 hG HM HC3
  go_wp2_with fail
  refine (unhide HH4).mono ?_
  rintro e W5 ⟨rfl, hb5⟩
  have HC5 : Hid (Below W1.heap.size W1 W5) := (unhide HC4).trans (hb5.mono (unhide HC4).size)
  have HO5 := hide (ownR_below (unhide HO4) hb5 (Nat.le_refl _))
  have HBW5 : Hid (Below w.heap.size w W5) := (unhide HB1).trans ((unhide HC5).mono (unhide HB1).size)
  clear hb5 HO4 HH4 HC4
  go_wp2_with fail
  refine (unhide HI W5 (ttab_below (unhide HT) (unhide HBW5) (Nat.le_refl _))).mono ?_
  rintro e W6 ⟨v3, rfl, ho6, hb6⟩
  have HC6 : Hid (Below W1.heap.size W1 W6) := (unhide HC5).trans (hb6.mono (unhide HC5).size)
  have HO6 := hide (ownR_below (unhide HO5) hb6 (Nat.le_refl _))
  have HQ6 := hide (eqCmdS_same v3 v1 L W6 (ownR_rd ho6) (rdR_below (unhide HR1) (unhide HC6) (Nat.le_refl _)))
  clear ho6 hb6 HO5 HC5 HBW5
  go_wp2_with fail
  refine (unhide HQ6).mono ?_
  rintro e W7 ⟨rfl, hb7⟩
  have HC7 : Hid (Below W1.heap.size W1 W7) := (unhide HC6).trans (hb7.mono (unhide HC6).size)
  have HO7 := ownR_below (unhide HO6) hb7 (Nat.le_refl _)
  have HH7 := hide (heldCmdS_any v2 L.length 1 W7 (by omega) (by omega) (by omega) (ownR_rd HO7))
  rw [← unhide HMK] at HH7
  clear hb7 HO7 HO6 HQ6 HC6
  go_wp2_with fail
  refine (unhide HH7).mono ?_
  rintro e W8 ⟨rfl, hb8⟩
  have HC8 : Hid (Below W1.heap.size W1 W8) := (unhide HC7).trans (hb8.mono (unhide HC7).size)
  have HB8 : Hid (Below w.heap.size w W8) := (unhide HB1).trans ((unhide HC8).mono (unhide HB1).size)
  clear hb8
  go_wp2_with fail
  go_ret
  exact ⟨rfl, unhide HB8⟩
end Go.Proofs.YtjjopdkbdebfoaaDoor
