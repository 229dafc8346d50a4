/-
  A line that says nothing, as the program tells it: proved by walking the function.
-/
import Derived.Test.YtjjopdkbdebfoaaDoorScrV
import Derived.Test.YtjjopdkbdebfoaaDoorScrT
namespace Go.Proofs.YtjjopdkbdebfoaaDoor
open Go.RowKit
set_option linter.unusedVariables false
set_option maxRecDepth 100000 in
set_option maxHeartbeats 1000000 in
theorem sayNo_any (v : Value) (ws : List ByteArray) (B : Nat) (w : World) (hr : TRow w B v ws) :
    Calls Tryd.prog 20 #[v] w fun e w' => e = .returned (.bool (decide (ws.length = 0) || ((wL ws 0).head? == some 35))) ∧ w' = w := by
  by_cases hne : ws = []
  · subst hne
    obtain ⟨a, cap, rfl⟩ : ∃ a cap, v = .slice a 0 cap := by
      rcases hr.2 with ⟨h, _⟩ | ⟨g, cap, cur, h, _⟩
      · exact ⟨_, _, h⟩
      · exact ⟨_, _, h⟩
    go_enter Tryd.func20, Tryd.ntmps20
    go_wp2
    go_ret
    exact ⟨rfl, rfl⟩
  · obtain ⟨g, cap, rfl, hcap, hg, hcell⟩ := trow_cells hr hne
    have hc0 : w.cell? ⟨g, 0, none⟩ = some (.string (wB ws 0)) := hcell 0 _ (wB_get (List.length_pos_iff.2 hne))
    have HP := hide (fun W => hasPre_any (wB ws 0) W)
    have HE : Hid ((decide (ws.length = 0) || ((wL ws 0).head? == some 35)) = ((wB ws 0).data.toList.head? == some 35)) := by
      show _ = _
      rw [decide_eq_false (fun h => hne (List.eq_nil_of_length_eq_zero h))]; rfl
    have h1 : (0 : Int) < ws.length := by have := List.length_pos_iff.2 hne; omega
    have h2 : ¬ ((ws.length : Int) = 0) := by omega
    have h3 : ¬ (ws.length = 0) := by omega
    generalize wB ws 0 = w0 at *
    clear hcell hr
    go_enter Tryd.func20, Tryd.ntmps20
    go_wp2_with (go_at_call 30; refine (unhide HP _).mono ?_; rintro e w' ⟨rfl, rfl⟩)
    go_ret
    have h4 : ((ws.length : Int) == 0) = false := beq_eq_false_iff_ne.2 h2
    exact ⟨by rw [unhide HE]; show Ending.returned (.bool (((ws.length : Int) == 0) || _)) = _; rw [h4]; rfl, rfl⟩
end Go.Proofs.YtjjopdkbdebfoaaDoor
