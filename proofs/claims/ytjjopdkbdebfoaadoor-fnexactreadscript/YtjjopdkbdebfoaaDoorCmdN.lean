/-
  A row of commands that the call made is marked: the laws' own helper, walked.
-/
import Derived.Test.YtjjopdkbdebfoaaDoorCmdM
namespace Go.Proofs.YtjjopdkbdebfoaaDoor
open Go.RowKit
set_option linter.unusedVariables false

theorem markCmdS_nil (a : Option Addr) (cap k : Nat) (w : World) :
    Calls Tryd.prog 11 #[.slice a 0 cap, .int .i64 k] w fun e w' => e = .returned (.int .i64 k) ∧ w' = w := by
  go_enter Tryd.func11, Tryd.ntmps11
  go_wp2
  refine wp_loop_rounds 1 ?_
  rw [rounds_succ]
  go_wp2
  go_ret
  exact ⟨rfl, rfl⟩

/-- A row of commands that the call made is marked: it is then a row of marks; other rows stay. -/
theorem markC_own {B : Nat} (v : Value) (l : List Cm) (w : World) (h : OwnR Cm.vs 8 B w v l) (hl : l.length ≤ 2097152) :
    Calls Tryd.prog 11 #[v, .int .i64 1] w fun e w' => e = .returned (.int .i64 ((1 + 8 * l.length : Nat) : Int)) ∧ OwnR Cm.vs 8 B w' v (marksC 1 l.length) ∧
      ∃ G, w.grownBy w' G ∧ ∀ g, G = some g → v.ownBlock = some g ∧ B ≤ g ∧ l ≠ [] := by
  obtain ⟨a, cap, rfl, hlen, h⟩ := h
  by_cases hne : l = []
  · subst hne
    refine (markCmdS_nil a cap 1 w).mono ?_
    rintro e w' ⟨rfl, rfl⟩
    exact ⟨rfl, ⟨a, cap, rfl, by simp [marksC], fun h => absurd rfl h⟩, none, World.grownBy.refl _ _, fun g hg => by cases hg⟩
  · obtain ⟨g, rfl, h0, h1, h2, h3⟩ := h hne
    refine (markCmdS_any g l.length cap 1 w hl (by omega) (by omega) h1 h3).mono ?_
    rintro e w' ⟨rfl, m1, m2, m3, m4, m5⟩
    refine ⟨rfl, ⟨_, cap, by rw [marksC_len], by rw [marksC_len]; exact hlen, fun _ => ⟨g, rfl, h0, m5, m1, by rw [marksC_len]; exact m2⟩⟩, some g, m3, fun g' hg => ?_⟩
    obtain rfl := Option.some.inj hg
    exact ⟨rfl, h0, hne⟩
end Go.Proofs.YtjjopdkbdebfoaaDoor
