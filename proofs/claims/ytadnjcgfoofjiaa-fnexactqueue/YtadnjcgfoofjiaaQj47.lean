/-
  The queue of a side by the model, and a book marked: proved by walking the functions.
-/
import Derived.Test.YtadnjcgfoofjiaaQj18
import Derived.Test.YtadnjcgfoofjiaaQj38
import Derived.Test.YtadnjcgfoofjiaaQj42
import Derived.Test.YtadnjcgfoofjiaaQj45
import Derived.Test.YtadnjcgfoofjiaaQj46
namespace Go.Proofs.Ytadnjcgfoofjiaa
open Go.RowKit
set_option linter.unusedVariables false

set_option maxRecDepth 100000 in
set_option maxHeartbeats 800000 in
theorem specQueue_any (next : Int) (ad : Addr) (cap : Nat) (l : List Od) (sd : Int) (w : World) (hr : RdR Od.vs 6 w (.slice (some ad) l.length cap) l) (hg : ∀ c ∈ l, c.tag.size ≤ maxLen) :
    Calls Try.prog 24 #[.agg #[.int .i64 next, .slice (some ad) l.length cap], .int .i64 sd] w fun e w' => ∃ v', e = .returned (.tuple #[v', .int .i64 (quC next l)]) ∧ OwnR Od.vs 6 w.heap.size w' v' (quR next l sd) ∧ Below w.heap.size w w' := by
  have HR := hide hr
  have HG := hide hg
  have HB0 : Hid (Below w.heap.size w (w.alloc (Obj.cells #[.int .i64 next, .slice (some ad) l.length cap] 25))) := (Below.refl _ _).alloc (Nat.le_refl _) _
  have HX : Hid (World.rangeAt (w.alloc (Obj.cells #[.int .i64 next, .slice (some ad) l.length cap] 25)) w.heap.size 0 [.int .i64 next, .slice (some ad) l.length cap] ∧ w.heap.size < (w.alloc (Obj.cells #[.int .i64 next, .slice (some ad) l.length cap] 25)).heap.size) := ⟨cells_made w [.int .i64 next, .slice (some ad) l.length cap] _, by rw [size_made]; omega⟩
  clear hr hg
  go_enter Try.func24, Try.ntmps24
  go_wp2_with fail
  generalize (w.alloc (Obj.cells #[.int .i64 next, .slice (some ad) l.length cap] 25)) = W2 at HB0 HX ⊢
  refine (specBookOK_any next _ l W2 (rdR_below (unhide HR) (unhide HB0) (Nat.le_refl _)) (unhide HG)).mono ?_
  rintro e w3 ⟨rfl, hb3⟩
  have HB3 := hide ((unhide HB0).trans (hb3.mono (unhide HB0).size))
  have c1 : w3.cell? ⟨w.heap.size, 1, none⟩ = some (.slice (some ad) l.length cap) := range_below (unhide HX).1 hb3 (unhide HX).2 1 _ rfl
  clear hb3
  cases hok : okS next l
  · have HF : Hid (quR next l sd = [] ∧ quC next l = 1) := ⟨by rw [quR, hok]; rfl, by rw [quC, hok]; rfl⟩
    have HB4 : Hid (Below w.heap.size w (w3.alloc (Obj.cells #[] 33))) := (unhide HB3).alloc (unhide HB3).size _
    clear hok
    go_wp2_with fail
    go_ret2
    exact ⟨_, by rw [(unhide HF).2]; rfl, by rw [(unhide HF).1]; exact ⟨_, 0, rfl, by simp, fun h => absurd rfl h⟩, unhide HB4⟩
  obtain ⟨hn, hri, -⟩ := okS_left hok
  have HF : Hid (quR next l sd = quOf (decide (sd = 1)) (ofSide l sd) ∧ quC next l = 0) := ⟨by rw [quR, if_pos hok], by rw [quC, if_pos hok]⟩
  have HRI := hide hri
  have HR3 := hide (rdR_below (unhide HR) (unhide HB3) (Nat.le_refl _))
  clear hok hri
  go_wp2_with fail
  refine (l03Queue_any ad cap l sd w3 (unhide HR3) (unhide HRI) (by omega)).mono ?_
  rintro e w4 ⟨v4, rfl, ho4, hb4⟩
  have HO4 := hide (ownR_base ho4 (unhide HB3).size)
  have HB4 := hide ((unhide HB3).trans (hb4.mono (unhide HB3).size))
  clear ho4 hb4
  go_wp2_with fail
  go_ret2
  exact ⟨v4, by rw [(unhide HF).2]; rfl, by rw [(unhide HF).1]; exact unhide HO4, unhide HB4⟩

/-- A book that the call made is marked. -/
theorem markBook_own {B : Nat} (n : Int) (v : Value) (l : List Od) (w : World) (h : OwnR Od.vs 6 B w v l) (hl : l.length ≤ 2097152) :
    Calls Try.prog 21 #[.agg #[.int .i64 n, v], .int .i64 1] w fun e w' => e = .returned (.int .i64 ((1 + 6 * l.length : Nat) : Int)) ∧
      ∃ G, w.grownBy w' G ∧ ∀ g, G = some g → v.ownBlock = some g ∧ B ≤ g ∧ l ≠ [] := by
  have H := hide h
  obtain ⟨a, cap, rfl, _, _⟩ := h
  have HO : Hid (OwnR Od.vs 6 B (w.alloc (Obj.cells #[.int .i64 n, .slice a l.length cap] 25)) (.slice a l.length cap) l) := ownR_below (unhide H) ((Below.refl _ _).alloc (Nat.le_refl _) _) (Nat.le_refl _)
  go_enter Try.func21, Try.ntmps21
  go_wp2_with fail
  refine (markO_own _ l _ (unhide HO) hl).mono ?_
  rintro e w1 ⟨rfl, -, G, hgr, hG⟩
  have HG : Hid (w.grownBy w1 G ∧ ∀ g, G = some g → (Value.slice a l.length cap).ownBlock = some g ∧ B ≤ g ∧ l ≠ []) := ⟨(World.grownBy_alloc w _ G).trans hgr, hG⟩
  clear hgr hG
  go_wp2_with fail
  go_ret
  exact ⟨rfl, G, (unhide HG).1, (unhide HG).2⟩
end Go.Proofs.Ytadnjcgfoofjiaa
