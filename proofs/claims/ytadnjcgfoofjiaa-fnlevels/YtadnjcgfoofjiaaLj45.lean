/-
  The queue of a side, by the program: proved by walking the function.
-/
import Derived.Test.YtadnjcgfoofjiaaLj30
import Derived.Test.YtadnjcgfoofjiaaLj43
import Derived.Test.YtadnjcgfoofjiaaLj44
namespace Go.Proofs.Ytadnjcgfoofjiaa
open Go.RowKit
set_option linter.unusedVariables false

/-- The queue of a side, and the code. -/
def quR (next : Int) (l : List Od) (sd : Int) : List Od := if okS next l = true then quOf (decide (sd = 1)) (ofSide l sd) else []
def quC (next : Int) (l : List Od) : Int := if okS next l = true then 0 else 1
theorem field1_b (b : Nat) (W : World) : Sem.run Try.prog (Instr.field 61 (.agg #[.func (.func 60) #[.pointer (some ⟨b, 0, none⟩)] #[], .func (.func 61) #[.pointer (some ⟨b, 0, none⟩)] #[], .func (.func 62) #[.pointer (some ⟨b, 0, none⟩)] #[]]) 1) W = .ok (.func (.func 61) #[.pointer (some ⟨b, 0, none⟩)] #[]) W := by kernel_rfl
theorem field1_s (b : Nat) (W : World) : Sem.run Try.prog (Instr.field 61 (.agg #[.func (.func 64) #[.pointer (some ⟨b, 0, none⟩)] #[], .func (.func 65) #[.pointer (some ⟨b, 0, none⟩)] #[], .func (.func 66) #[.pointer (some ⟨b, 0, none⟩)] #[]]) 1) W = .ok (.func (.func 65) #[.pointer (some ⟨b, 0, none⟩)] #[]) W := by kernel_rfl

set_option maxRecDepth 100000 in
set_option maxHeartbeats 800000 in
theorem implQueue_any (next : Int) (v : Value) (l : List Od) (sd : Int) (w : World) (hr : RdR Od.vs 6 w v l) (hg : ∀ c ∈ l, c.tag.size ≤ maxLen) :
    Calls Try.prog 10 #[.agg #[.int .i64 next, v], .int .i64 sd] w fun e w' => ∃ v', e = .returned (.tuple #[v', .int .i64 (quC next l)]) ∧ OwnR Od.vs 6 w.heap.size w' v' (quR next l sd) ∧ Below w.heap.size w w' := by
  have HR := hide hr
  have HG := hide hg
  obtain ⟨a, cap, rfl, hlen, hc⟩ := hr
  clear hc hg
  have HB0 : Hid (Below w.heap.size w (w.alloc (Obj.cells #[.int .i64 next, .slice a l.length cap] 25))) := (Below.refl _ _).alloc (Nat.le_refl _) _
  have HX : Hid (World.rangeAt (w.alloc (Obj.cells #[.int .i64 next, .slice a l.length cap] 25)) w.heap.size 0 [.int .i64 next, .slice a l.length cap] ∧ w.heap.size < (w.alloc (Obj.cells #[.int .i64 next, .slice a l.length cap] 25)).heap.size) := ⟨cells_made w [.int .i64 next, .slice a l.length cap] _, by rw [size_made]; omega⟩
  go_enter Try.func10, Try.ntmps10
  go_wp2_with fail
  generalize (w.alloc (Obj.cells #[.int .i64 next, .slice a l.length cap] 25)) = W2 at HB0 HX ⊢
  refine (implBookOK_any next _ l W2 (rdR_below (unhide HR) (unhide HB0) (Nat.le_refl _)) (unhide HG)).mono ?_
  rw [okI_eq]
  rintro e w3 ⟨rfl, hb3⟩
  have HB3 := hide ((unhide HB0).trans (hb3.mono (unhide HB0).size))
  have c0 : w3.cell? ⟨w.heap.size, 0, none⟩ = some (.int .i64 next) := range_below (unhide HX).1 hb3 (unhide HX).2 0 _ rfl
  have c1 : w3.cell? ⟨w.heap.size, 1, none⟩ = some (.slice a l.length cap) := range_below (unhide HX).1 hb3 (unhide HX).2 1 _ rfl
  clear hb3
  cases hok : okS next l
  · have HF : Hid (quR next l sd = [] ∧ quC next l = 1) := ⟨by rw [quR, hok]; rfl, by rw [quC, hok]; rfl⟩
    clear hok
    go_wp2_with fail
    go_ret2
    exact ⟨_, by rw [(unhide HF).2]; rfl, by rw [(unhide HF).1]; exact ⟨none, 0, rfl, by simp, fun h => absurd rfl h⟩, unhide HB3⟩
  obtain ⟨hn, hri, hlb⟩ := okS_left hok
  have HF : Hid (quR next l sd = quOf (decide (sd = 1)) (ofSide l sd) ∧ quC next l = 0) := ⟨by rw [quR, if_pos hok], by rw [quC, if_pos hok]⟩
  have HLB := hide hlb
  have HR3 := hide (rdR_below (unhide HR) (unhide HB3) (Nat.le_refl _))
  clear hok hri hlb
  by_cases hs1 : sd = 1
  · subst hs1
    go_wp2_with fail
    refine (sideOf_buy next _ l w3 (unhide HR3) hn (unhide HLB)).mono ?_
    rintro e w4 ⟨b, rfl, ht, hle, hb4⟩
    have HT4 := hide ht
    have HB4 := hide ((unhide HB3).trans (hb4.mono (unhide HB3).size))
    have nq : (ofSide l 1).length ≤ 20 := Nat.le_trans (List.length_filter_le _ _) hn
    clear ht hle hb4 c0 c1
    unfold side_b
    have hfl := field1_b b w4
    go_wp2_with fail
    refine (orders_b b 1 (ofSide l 1) w4 (unhide HT4) nq).mono ?_
    rintro e w5 ⟨v5, rfl, ho5, hb5⟩
    have HO5 := hide (ownR_base ho5 (unhide HB4).size)
    have HB5 := hide ((unhide HB4).trans (hb5.mono (unhide HB4).size))
    clear ho5 hb5
    go_wp2_with fail
    go_ret2
    refine ⟨v5, by rw [(unhide HF).2]; rfl, ?_, unhide HB5⟩
    rw [(unhide HF).1]
    exact unhide HO5
  · have hdec : Hid (decide (sd = 1) = false) := decide_eq_false hs1
    go_wp2_with fail
    refine (sideOf_sell next sd hs1 _ l w3 (unhide HR3) hn (unhide HLB)).mono ?_
    rintro e w4 ⟨b, rfl, ht, hle, hb4⟩
    have HT4 := hide ht
    have HB4 := hide ((unhide HB3).trans (hb4.mono (unhide HB3).size))
    have nq : (ofSide l sd).length ≤ 20 := Nat.le_trans (List.length_filter_le _ _) hn
    clear ht hle hb4 c0 c1
    unfold side_s
    have hfl := field1_s b w4
    go_wp2_with fail
    refine (orders_s b sd (ofSide l sd) w4 (unhide HT4) nq).mono ?_
    rintro e w5 ⟨v5, rfl, ho5, hb5⟩
    have HO5 := hide (ownR_base ho5 (unhide HB4).size)
    have HB5 := hide ((unhide HB4).trans (hb5.mono (unhide HB4).size))
    clear ho5 hb5
    go_wp2_with fail
    go_ret2
    refine ⟨v5, by rw [(unhide HF).2]; rfl, ?_, unhide HB5⟩
    rw [(unhide HF).1]; rw [unhide hdec]
    exact unhide HO5
end Go.Proofs.Ytadnjcgfoofjiaa
