/-
  The exact law of RangeOf, walked: it returns true, and nothing that was there is turned.
-/
import Derived.Test.YteljmhgpffekgaaRngS
import Derived.Test.YteljmhgpffekgaaFlsW
import Derived.Test.YteljmhgpffekgaaFlsO
namespace Go.Proofs.Yteljmhgpffekgaa
open Go.RowKit

/-- The range of a list, whatever its length. -/
def rngAll (l : List Nat) : Nat × Nat × Int := if l.length ≤ 4096 then (rngA (rngO l), rngB (rngO l), rngC (rngO l)) else (0, 0, 2)
theorem implRange_all (v : Value) (l : List Nat) (w : World) (hr : RdF w v l) (hf : Fls l) :
    Calls Try.prog 12 #[v] w fun e w' => e = .returned (.tuple #[.float .f64 (rngAll l).1, .float .f64 (rngAll l).2.1, .int .i64 (rngAll l).2.2]) ∧ w' = w := by
  unfold rngAll
  split
  · exact implRange_any v l w hr hf (by assumption)
  · exact implRange_long v l w hr (by omega)
theorem specRange_all (v : Value) (l : List Nat) (w : World) (hr : RdF w v l) (hf : Fls l) :
    Calls Try.prog 29 #[v] w fun e w' => e = .returned (.tuple #[.float .f64 (rngAll l).1, .float .f64 (rngAll l).2.1, .int .i64 (rngAll l).2.2]) ∧ w' = w := by
  unfold rngAll
  split
  · exact specRange_any v l w hr hf (by assumption)
  · exact specRange_long v l w hr (by omega)

set_option maxRecDepth 100000 in
set_option maxHeartbeats 800000 in
theorem exactRange (v : Value) (l : List Nat) (w : World) (hr : RdF w v l) (hf : Fls l) (hl : l.length ≤ 1048576) :
    Calls Try.prog 7 #[v] w fun e w' => e = .returned (.bool true) ∧ Below w.heap.size w w' := by
  have HR := hide hr
  obtain ⟨a, cap, rfl, _, hc⟩ := hr
  clear hc
  have hl' : (l.length : Int) ≤ 1048576 := by omega
  have HI := hide (fun v w (h : RdF w v l) => implRange_all v l w h hf)
  have HP := hide (fun v w (h : RdF w v l) => specRange_all v l w h hf)
  clear hf
  generalize (rngAll l).1 = p at HI HP
  generalize (rngAll l).2.1 = q at HI HP
  generalize (rngAll l).2.2 = c at HI HP
  go_enter Try.func7, Try.ntmps7
  go_wp2_with fail
  refine (toFloats_any _ l _ (unhide HR)).mono ?_
  rintro e w1 ⟨v1, rfl, ho1, hb1⟩
  have O1 := hide ho1
  have B1 := hide hb1
  clear ho1 hb1
  go_wp2_with fail
  refine (unhide HP v1 _ (unhide O1)).mono ?_
  rintro e w2 ⟨rfl, rfl⟩
  go_wp2_with fail
  refine (toFloats_any _ l _ (rdF_below (unhide HR) (unhide B1) (Nat.le_refl _))).mono ?_
  rintro e w3 ⟨v2, rfl, ho2, hb2⟩
  have O2 := hide ho2
  have B2 := hide hb2
  clear ho2 hb2
  go_wp2_with fail
  refine (unhide HI v2 _ (unhide O2)).mono ?_
  rintro e w4 ⟨rfl, rfl⟩
  go_wp2_with fail
  refine (sameFloat_any _ _).mono ?_
  rintro e w4 ⟨rfl, rfl⟩
  go_wp2_with fail
  refine (sameFloat_any _ _).mono ?_
  rintro e w4 ⟨rfl, rfl⟩
  go_wp2_with fail
  refine (toFloats_any _ l _ (rdF_below (rdF_below (unhide HR) (unhide B1) (Nat.le_refl _)) (unhide B2) (Nat.le_refl _))).mono ?_
  rintro e w5 ⟨v3, rfl, ho3, hb3⟩
  have O3 := hide ho3
  have B3 := hide hb3
  clear ho3 hb3
  go_wp2_with fail
  refine (eqFloats_same v2 v3 l _ (rdF_below (unhide O2) (unhide B3) (Nat.le_refl _)) (unhide O3)).mono ?_
  rintro e w6 ⟨rfl, hb6⟩
  have B6 := hide hb6
  clear hb6
  go_wp2_with fail
  go_ret
  have b2 := (unhide B1).trans ((unhide B2).mono (unhide B1).size)
  have b3 := b2.trans ((unhide B3).mono b2.size)
  exact ⟨rfl, b3.trans ((unhide B6).mono b3.size)⟩

theorem lawRange (a : Option Addr) (len cap : Nat) (w : World) (h : IsFloats w a len cap) :
    Calls Try.prog 7 #[.slice a len cap] w fun e w' => e = .returned (.bool true) ∧ Below w.heap.size w w' := by
  obtain ⟨hm, h⟩ := h
  by_cases hl : len ≤ 1048576
  · obtain ⟨l, rfl, h2, h3⟩ := h (by omega)
    exact exactRange _ _ w h2 h3 hl
  · have hl' : (1048576 : Int) < len := by omega
    clear h
    unfold maxLen at hm
    go_enter Try.func7, Try.ntmps7
    go_wp2_with fail
    go_ret
    exact ⟨rfl, Below.refl _ _⟩
end Go.Proofs.Yteljmhgpffekgaa
