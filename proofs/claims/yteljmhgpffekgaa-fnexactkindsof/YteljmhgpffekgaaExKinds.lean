/-
  The exact law of KindsOf, walked: it returns true, and nothing that was there is turned.
-/
import Derived.Test.YteljmhgpffekgaaKindS
import Derived.Test.YteljmhgpffekgaaFlsW
import Derived.Test.YteljmhgpffekgaaFlsO
namespace Go.Proofs.Yteljmhgpffekgaa
open Go.RowKit

/-- The kinds of a list, whatever its length. -/
def kindsAll (l : List Nat) : Kn := if l.length ≤ 4096 then kindsL l else ⟨0, 0, 0, 0, 0, 0, 0⟩
def kindsC (l : List Nat) : Int := if l.length ≤ 4096 then 0 else 2
theorem implKinds_all (v : Value) (l : List Nat) (w : World) (hr : RdF w v l) (hf : Fls l) :
    Calls Try.prog 10 #[v] w fun e w' => e = .returned (.tuple #[.agg #[.int .i64 (kindsAll l).a, .int .i64 (kindsAll l).b, .int .i64 (kindsAll l).c, .int .i64 (kindsAll l).d, .int .i64 (kindsAll l).e, .int .i64 (kindsAll l).f, .int .i64 (kindsAll l).g], .int .i64 (kindsC l)]) ∧ Below w.heap.size w w' := by
  unfold kindsAll kindsC
  by_cases h : l.length ≤ 4096
  · simp only [h, if_true]; exact implKinds_any v l w hr hf h
  · simp only [h, if_false]; exact implKinds_long v l w hr (by omega)
theorem specKinds_all (v : Value) (l : List Nat) (w : World) (hr : RdF w v l) (hf : Fls l) :
    Calls Try.prog 11 #[v] w fun e w' => e = .returned (.tuple #[.agg #[.int .i64 (kindsAll l).a, .int .i64 (kindsAll l).b, .int .i64 (kindsAll l).c, .int .i64 (kindsAll l).d, .int .i64 (kindsAll l).e, .int .i64 (kindsAll l).f, .int .i64 (kindsAll l).g], .int .i64 (kindsC l)]) ∧ Below w.heap.size w w' := by
  unfold kindsAll kindsC
  by_cases h : l.length ≤ 4096
  · simp only [h, if_true]; exact specKinds_any v l w hr hf h
  · simp only [h, if_false]; exact specKinds_long v l w hr (by omega)
set_option maxRecDepth 100000 in
theorem eqKinds_same (a b c d e f g : Int) (w : World) :
    Calls Try.prog 27 #[.agg #[.int .i64 a, .int .i64 b, .int .i64 c, .int .i64 d, .int .i64 e, .int .i64 f, .int .i64 g], .agg #[.int .i64 a, .int .i64 b, .int .i64 c, .int .i64 d, .int .i64 e, .int .i64 f, .int .i64 g]] w fun e w' => e = .returned (.bool true) ∧ Below w.heap.size w w' := by
  go_enter Try.func27, Try.ntmps27
  go_wp2_with fail
  go_returns
  exact ⟨rfl, by go_grown⟩

set_option maxRecDepth 100000 in
set_option maxHeartbeats 800000 in
theorem exactKinds (v : Value) (l : List Nat) (w : World) (hr : RdF w v l) (hf : Fls l) (hl : l.length ≤ 1048576) :
    Calls Try.prog 6 #[v] w fun e w' => e = .returned (.bool true) ∧ Below w.heap.size w w' := by
  have HR := hide hr
  obtain ⟨a, cap, rfl, _, hc⟩ := hr
  clear hc
  have hl' : (l.length : Int) ≤ 1048576 := by omega
  have HI := hide (fun v w (h : RdF w v l) => implKinds_all v l w h hf)
  have HP := hide (fun v w (h : RdF w v l) => specKinds_all v l w h hf)
  clear hf
  generalize kindsC l = c at HI HP
  generalize kindsAll l = T at HI HP
  obtain ⟨ta, tb, tc, td, te, tf, tg⟩ := T
  simp only at HI HP
  go_enter Try.func6, Try.ntmps6
  go_wp2_with fail
  refine (toFloats_any _ l _ (unhide HR)).mono ?_
  rintro e w1 ⟨v1, rfl, ho1, hb1⟩
  have O1 := hide ho1
  have B1 := hide hb1
  clear ho1 hb1
  go_wp2_with fail
  refine (unhide HP v1 _ (unhide O1)).mono ?_
  rintro e w2 ⟨rfl, hb2⟩
  have B2 := hide ((unhide B1).trans (hb2.mono (unhide B1).size))
  clear hb2
  go_wp2_with fail
  have X1 := hide (bx_made w2 [.int .i64 ta, .int .i64 tb, .int .i64 tc, .int .i64 td, .int .i64 te, .int .i64 tf, .int .i64 tg] 26)
  have BX := hide ((unhide B2).alloc (unhide B2).size (Obj.cells ([.int .i64 ta, .int .i64 tb, .int .i64 tc, .int .i64 td, .int .i64 te, .int .i64 tf, .int .i64 tg]).toArray 26))
  have hn0 : w2.heap.size < (w2.alloc (Obj.cells ([.int .i64 ta, .int .i64 tb, .int .i64 tc, .int .i64 td, .int .i64 te, .int .i64 tf, .int .i64 tg]).toArray 26)).heap.size := by simp
  have HN0 := hide hn0
  clear hn0
  change Calls _ _ _ (w2.alloc (Obj.cells ([.int .i64 ta, .int .i64 tb, .int .i64 tc, .int .i64 td, .int .i64 te, .int .i64 tf, .int .i64 tg]).toArray 26)) _
  generalize (w2.alloc (Obj.cells ([.int .i64 ta, .int .i64 tb, .int .i64 tc, .int .i64 td, .int .i64 te, .int .i64 tf, .int .i64 tg]).toArray 26)) = V1 at X1 BX HN0 ⊢
  generalize w2.heap.size = n0 at X1 HN0 ⊢
  refine (toFloats_any _ l _ (rdF_below (unhide HR) (unhide BX) (Nat.le_refl _))).mono ?_
  rintro e w3 ⟨v2, rfl, ho2, hb3⟩
  have O2 := hide ho2
  have B3 := hide ((unhide BX).trans (hb3.mono (unhide BX).size))
  have X2 := hide (bx_below (unhide X1) hb3 (unhide HN0))
  have HN1 := hide (Nat.lt_of_lt_of_le (unhide HN0) hb3.size)
  clear ho2 hb3
  go_wp2_with fail
  refine (unhide HI v2 _ (unhide O2)).mono ?_
  rintro e w4 ⟨rfl, hb4⟩
  have B4 := hide ((unhide B3).trans (hb4.mono (unhide B3).size))
  have O3 := hide (rdF_below (unhide O2) hb4 (Nat.le_refl _))
  have X3 := hide (bx_below (unhide X2) hb4 (unhide HN1))
  have HN2 := hide (Nat.lt_of_lt_of_le (unhide HN1) hb4.size)
  clear hb4
  have BA := hide (((Below.refl w4.heap.size w4).alloc (Nat.le_refl _) (Obj.cells ([.int .i64 ta, .int .i64 tb, .int .i64 tc, .int .i64 td, .int .i64 te, .int .i64 tf, .int .i64 tg]).toArray 26)))
  have X4 := hide (bx_below (unhide X3) (unhide BA) (unhide HN2))
  have c0 : (w4.alloc (Obj.cells #[.int .i64 ta, .int .i64 tb, .int .i64 tc, .int .i64 td, .int .i64 te, .int .i64 tf, .int .i64 tg] 26)).cell? ⟨n0, 0, none⟩ = some (.int .i64 ta) := bx_cell (unhide X4) 0 rfl
  have c1 : (w4.alloc (Obj.cells #[.int .i64 ta, .int .i64 tb, .int .i64 tc, .int .i64 td, .int .i64 te, .int .i64 tf, .int .i64 tg] 26)).cell? ⟨n0, 1, none⟩ = some (.int .i64 tb) := bx_cell (unhide X4) 1 rfl
  have c2 : (w4.alloc (Obj.cells #[.int .i64 ta, .int .i64 tb, .int .i64 tc, .int .i64 td, .int .i64 te, .int .i64 tf, .int .i64 tg] 26)).cell? ⟨n0, 2, none⟩ = some (.int .i64 tc) := bx_cell (unhide X4) 2 rfl
  have c3 : (w4.alloc (Obj.cells #[.int .i64 ta, .int .i64 tb, .int .i64 tc, .int .i64 td, .int .i64 te, .int .i64 tf, .int .i64 tg] 26)).cell? ⟨n0, 3, none⟩ = some (.int .i64 td) := bx_cell (unhide X4) 3 rfl
  have c4 : (w4.alloc (Obj.cells #[.int .i64 ta, .int .i64 tb, .int .i64 tc, .int .i64 td, .int .i64 te, .int .i64 tf, .int .i64 tg] 26)).cell? ⟨n0, 4, none⟩ = some (.int .i64 te) := bx_cell (unhide X4) 4 rfl
  have c5 : (w4.alloc (Obj.cells #[.int .i64 ta, .int .i64 tb, .int .i64 tc, .int .i64 td, .int .i64 te, .int .i64 tf, .int .i64 tg] 26)).cell? ⟨n0, 5, none⟩ = some (.int .i64 tf) := bx_cell (unhide X4) 5 rfl
  have c6 : (w4.alloc (Obj.cells #[.int .i64 ta, .int .i64 tb, .int .i64 tc, .int .i64 td, .int .i64 te, .int .i64 tf, .int .i64 tg] 26)).cell? ⟨n0, 6, none⟩ = some (.int .i64 tg) := bx_cell (unhide X4) 6 rfl
  go_wp2_with fail
  refine (eqKinds_same ta tb tc td te tf tg _).mono ?_
  rintro e w5 ⟨rfl, hb5⟩
  have B5 := hide (((unhide B4).trans ((unhide BA).mono (unhide B4).size)).trans (hb5.mono (Nat.le_trans (unhide B4).size (unhide BA).size)))
  have O4 := hide (rdF_below (rdF_below (unhide O3) (unhide BA) (Nat.le_refl _)) hb5 (Nat.le_refl _))
  clear hb5
  go_wp2_with fail
  refine (toFloats_any _ l _ (rdF_below (unhide HR) (unhide B5) (Nat.le_refl _))).mono ?_
  rintro e w6 ⟨v3, rfl, ho6, hb6⟩
  have O6 := hide ho6
  have B6 := hide ((unhide B5).trans (hb6.mono (unhide B5).size))
  have O5 := hide (rdF_below (unhide O4) hb6 (Nat.le_refl _))
  clear ho6 hb6
  go_wp2_with fail
  refine (eqFloats_same v2 v3 l _ (unhide O5) (unhide O6)).mono ?_
  rintro e w7 ⟨rfl, hb7⟩
  have B7 := hide ((unhide B6).trans (hb7.mono (unhide B6).size))
  clear hb7
  go_wp2_with fail
  go_ret
  exact ⟨rfl, unhide B7⟩

theorem lawKinds (a : Option Addr) (len cap : Nat) (w : World) (h : IsFloats w a len cap) :
    Calls Try.prog 6 #[.slice a len cap] w fun e w' => e = .returned (.bool true) ∧ Below w.heap.size w w' := by
  obtain ⟨hm, h⟩ := h
  by_cases hl : len ≤ 1048576
  · obtain ⟨l, rfl, h2, h3⟩ := h (by omega)
    exact exactKinds _ _ w h2 h3 hl
  · have hl' : (1048576 : Int) < len := by omega
    clear h
    unfold maxLen at hm
    go_enter Try.func6, Try.ntmps6
    go_wp2_with fail
    go_ret
    exact ⟨rfl, Below.refl _ _⟩
end Go.Proofs.Yteljmhgpffekgaa
