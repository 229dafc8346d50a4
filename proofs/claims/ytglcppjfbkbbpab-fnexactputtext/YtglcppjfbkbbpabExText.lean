/-
  The exact law of PutText, walked: it returns true, and nothing that was there is turned.
-/
import Derived.Test.YtglcppjfbkbbpabTextW
import Derived.Test.YtglcppjfbkbbpabMem
namespace Go.Proofs.Ytglcppjfbkbbpab
open Go.RowKit

set_option maxRecDepth 100000 in
set_option maxHeartbeats 800000 in
/-- The exact law of a function that writes bytes, out of what the two functions return. -/
theorem exactPutText (s : ByteArray) (l : List Int) (w : World) (hsz : (s.size : Int) ≤ 1048576) (hl0 : 0 < l.length) (hl : l.length ≤ 1073741824)
    (hs : ∀ w, Calls Try.prog 4 #[.string s] w fun e w' => ∃ v, e = .returned v ∧ Own w.heap.size w' v l ∧ Below w.heap.size w w')
    (hi : ∀ w, Calls Try.prog 5 #[.string s] w fun e w' => ∃ v, e = .returned v ∧ Own w.heap.size w' v l ∧ Below w.heap.size w w') :
    Calls Try.prog 3 #[.string s] w fun e w' => e = .returned (.bool true) ∧ Below w.heap.size w w' := by
  have HS := hide hs
  have HI := hide hi
  clear hs hi
  have hneg : ¬ (1 + (l.length : Int) < 0) := by omega
  go_enter Try.func3, Try.ntmps3
  go_wp2_with fail
  refine (unhide HS _).mono ?_
  rintro e w1 ⟨v0, rfl, ho0, hb1⟩
  have O0 := hide ho0
  have B1 := hide hb1
  clear ho0 hb1
  go_wp2_with fail
  refine (unhide HI _).mono ?_
  rintro e w2 ⟨v1, rfl, ho1, hb2⟩
  have O1 := hide ho1
  have B2 := hide hb2
  clear ho1 hb2
  go_wp2_with fail
  refine (eqBytes_same v1 v0 l w2 (own_rd (unhide O1)) (own_rd (own_below (unhide O0) (unhide B2) (Nat.le_refl _)))).mono ?_
  rintro e w3 ⟨rfl, n3, rfl⟩
  go_wp2_with fail
  refine (mark_own v1 l _ (own_drewN (unhide O1) n3)).mono ?_
  rintro e w4 ⟨rfl, ho4, g, hg, hBg, hgr⟩
  have O4 := hide ho4
  have G4 := hide (And.intro hg (And.intro hBg hgr))
  clear ho4 hg hBg hgr
  go_wp2_with fail
  refine (held_own v1 l.length _ (unhide O4)).mono ?_
  rintro e w5 ⟨rfl, n5, rfl⟩
  go_wp2_with fail
  refine (unhide HI _).mono ?_
  rintro e w6 ⟨v2, rfl, ho2, hb6⟩
  have O2 := hide ho2
  have B6 := hide hb6
  clear ho2 hb6
  have O06 := hide (own_below (own_drewN (own_grown (own_drewN (own_below (unhide O0) (unhide B2) (Nat.le_refl _)) n3) (unhide G4).2.2 (fun k hk e => by
    have h1 := (unhide G4).2.1
    obtain ⟨g', cap, rfl, _, h2, _⟩ := unhide O0
    simp [Value.ownBlock] at hk
    omega)) n5) (unhide B6) (Nat.le_refl _))
  have O46 := hide (own_below (own_drewN (unhide O4) n5) (unhide B6) (Nat.le_refl _))
  go_wp2_with fail
  refine (eqBytes_same v2 v0 l w6 (own_rd (unhide O2)) (own_rd (unhide O06))).mono ?_
  rintro e w7 ⟨rfl, n7, rfl⟩
  go_wp2_with fail
  refine (held_own v1 l.length _ (own_drewN (unhide O46) n7)).mono ?_
  rintro e w8 ⟨rfl, n8, rfl⟩
  go_wp2_with fail
  go_ret
  refine ⟨rfl, ?_⟩
  have s1 := (unhide B1).size
  have s2 := (unhide B2).size
  have s4 := (unhide G4).2.2.size
  have b4 : Below w.heap.size w w4 := ((unhide B1).trans ((unhide B2).mono s1)).trans ((below_drewN' (Below.refl _ w2) n3).trans (gr_below (unhide G4).2.2 (by have := (unhide G4).2.1; omega) (by simp; omega)))
  have b6 : Below w.heap.size w w6 := (below_drewN' b4 n5).trans ((unhide B6).mono (by simp at s4 ⊢; omega))
  exact below_drewN' b6 (n7 + n8)

theorem specText_any (s : ByteArray) (w : World) (hs : s.size ≤ maxLen) :
    Calls Try.prog 4 #[.string s] w fun e w' => ∃ v, e = .returned v ∧ OwnT w.heap.size w' v (textL s) ∧ Below w.heap.size w w' := by
  go_enter Try.func4, Try.ntmps4
  go_wp2_with (go_at_call 9; refine (l01Text_any _ _ hs).mono ?_; rintro e w' ⟨v, rfl, ho, hb⟩)
  go_ret
  exact ⟨_, rfl, ho, hb⟩

theorem lawPutText (s : ByteArray) (w : World) (hs : s.size ≤ maxLen) :
    Calls Try.prog 3 #[.string s] w fun e w' => e = .returned (.bool true) ∧ Below w.heap.size w w' := by
  by_cases h : (s.size : Int) ≤ 1048576
  · exact exactPutText s (textL s) w h (textL_len s).1 (textL_len s).2 (fun w => (specText_any s w hs).mono fun _ _ ⟨v, h1, h2, h3⟩ => ⟨v, h1, h2.own, h3⟩) (fun w => (implText_any s w hs).mono fun _ _ ⟨v, h1, h2, h3⟩ => ⟨v, h1, h2.own, h3⟩)
  · have hs' := hs
    unfold maxLen at hs'
    have h' : (1048576 : Int) < s.size := by omega
    go_enter Try.func3, Try.ntmps3
    go_wp2_with fail
    go_ret
    exact ⟨rfl, Below.refl _ _⟩
end Go.Proofs.Ytglcppjfbkbbpab
