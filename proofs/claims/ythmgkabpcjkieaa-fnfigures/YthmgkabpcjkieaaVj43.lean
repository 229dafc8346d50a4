/-
  The small functions of the figures, by the program: a price of ticks, a mean price, the tilt, what a side has left, the middle and the spread; proved by walking them.
-/
import Derived.Test.YthmgkabpcjkieaaVj42
namespace Go.Proofs.Ythmgkabpcjkieaa
open Go.RowKit
set_option linter.unusedVariables false

theorem price_any (n : Int) (w : World) :
    Calls Try.prog 38 #[.int .i64 n] w fun e w' => e = .returned (.float .f64 (qtr n)) ∧ w' = w := by
  have hq := qtr_run n
  go_enter Try.func38, Try.ntmps38
  go_wp2_with fail
  go_ret
  exact ⟨rfl, rfl⟩
theorem meanPrice_any (no vo : Int) (w : World) :
    Calls Try.prog 15 #[.int .i64 no, .int .i64 vo] w fun e w' => ∃ s n, e = .returned (.float .f64 (fbit s)) ∧ HasF (vwO no vo) s ∧ w' = w.drewN n := by
  have hq := qtr_run no
  obtain ⟨s, n, hr, hs⟩ := divH _ _ _ _ w (has_some (qtr no)) (has_some (floatOfInt .f64 vo))
  have HS : Hid (HasF (vwO no vo) s) := hs
  clear hs
  go_enter Try.func15, Try.ntmps15
  go_wp2_with fail
  refine (oneNaN_any s _).mono ?_
  rintro e w1 ⟨rfl, rfl⟩
  go_wp2_with fail
  go_ret
  exact ⟨s, n, rfl, unhide HS, rfl⟩
theorem tiltOf_any (b s : Int) (w : World) (h0 : 0 ≤ b) (h1 : b ≤ 20000000) (h2 : 0 ≤ s) (h3 : s ≤ 20000000) :
    Calls Try.prog 16 #[.int .i64 b, .int .i64 s] w fun e w' => ∃ x n, e = .returned (.float .f64 (fbit x)) ∧ HasF (tlO b s) x ∧ w' = w.drewN n := by
  obtain ⟨x, n, hr, hs⟩ := divH _ _ _ _ w (has_some (floatOfInt .f64 (b - s))) (has_some (floatOfInt .f64 (b + s)))
  have HS : Hid (HasF (tlO b s) x) := hs
  clear hs
  go_enter Try.func16, Try.ntmps16
  go_wp2_with fail
  refine (oneNaN_any x _).mono ?_
  rintro e w1 ⟨rfl, rfl⟩
  go_wp2_with fail
  go_ret
  exact ⟨x, n, rfl, unhide HS, rfl⟩
set_option maxRecDepth 100000 in
set_option maxHeartbeats 800000 in
theorem left_b (b : Nat) (sd : Int) (seq : List Od) (w : World) (h : TreeAt 121 true w b sd seq) (hn : seq.length ≤ 20) (hl : ∀ o ∈ seq, 0 ≤ o.left ∧ o.left ≤ 1000000) :
    Calls Try.prog 17 #[side_b b] w fun e w' => e = .returned (.int .i64 (sumL seq)) ∧ Below w.heap.size w w' := by
  have H1 := hide h
  have hb1 := treeAt_lt h
  clear h
  have HQ := hide (qty_levels true sd seq)
  have HBD : Hid (∀ k, 0 ≤ qtyS ((lvsOf true sd seq).take k) ∧ qtyS ((lvsOf true sd seq).take k) ≤ 20000000 * 20) := fun k => by
    have := qtyS_bound sd seq hl hn ((tks true seq).take k)
    have h2 : ((tks true seq).take k).length ≤ 20 := Nat.le_trans (List.length_take_le' _ _) (Nat.le_trans (tks_len _ _) hn)
    rw [show (lvsOf true sd seq).take k = ((tks true seq).take k).map (lvAt sd seq) by rw [lvsOf, List.map_take]]
    omega
  have hL20 : (lvsOf true sd seq).length ≤ 20 := by rw [lvsOf, List.length_map]; exact Nat.le_trans (tks_len _ _) hn
  have HW := hide ((Below.refl w.heap.size w).alloc (Nat.le_refl _) (Obj.cells #[.func (.func 61) #[.pointer (some ⟨b, 0, none⟩)] #[], .func (.func 62) #[.pointer (some ⟨b, 0, none⟩)] #[], .func (.func 63) #[.pointer (some ⟨b, 0, none⟩)] #[]] 51))
  unfold side_b
  go_enter Try.func17, Try.ntmps17
  go_wp2_with fail
  generalize (w.alloc (Obj.cells #[.func (.func 61) #[.pointer (some ⟨b, 0, none⟩)] #[], .func (.func 62) #[.pointer (some ⟨b, 0, none⟩)] #[], .func (.func 63) #[.pointer (some ⟨b, 0, none⟩)] #[]] 51)) = W1 at HW ⊢
  refine (levels_b b sd seq W1 (treeAt_block (unhide H1) ((unhide HW).block _ hb1)) hn).mono ?_
  rintro e w1 ⟨v', rfl, hO, hb2⟩
  have HB := hide ((unhide HW).trans (hb2.mono (unhide HW).size))
  clear hb2
  generalize lvsOf true sd seq = L at hO HQ HBD hL20
  obtain ⟨a, cap, rfl, hLl, hc⟩ := ownR_rd hO
  have hcell : ∀ (k : Nat) (c : Lv), L[k]? = some c → ∃ b off, a = some ⟨b, off, none⟩ ∧ b < w1.heap.size ∧ w1.rangeAt b (off + k * 4) c.vs := by
    intro k c hk
    obtain ⟨b, off, h1, h2, h3⟩ := hc (by intro h; rw [h] at hk; simp at hk)
    exact ⟨b, off, h1, h2, h3 k c hk⟩
  have HC := hide hcell
  clear hcell hc hO
  go_wp2_with fail
  go_loopw [3, 10] (fun sv iv wr => ∃ k : Nat, k ≤ L.length ∧ sv = .int .i64 (qtyS (L.take k)) ∧ iv = .int .i64 k ∧ Hid (Below w1.heap.size w1 wr)) (fun _ iv _ => L.length - (intOf iv).toNat)
  case atStart => exact ⟨0, Nat.zero_le _, rfl, rfl, Below.refl _ _⟩
  case round =>
    obtain ⟨k, hk, rfl, rfl, hbel⟩ := hrel
    by_cases hlt : k < L.length
    · obtain ⟨c, hkc⟩ : ∃ c, L[k]? = some c := ⟨_, List.getElem?_eq_getElem hlt⟩
      obtain ⟨b', off, rfl, hb', hcl⟩ := unhide HC k c hkc
      have hr := range_below hcl (unhide hbel) hb'
      have g0 := hr 0 _ rfl
      have g1 := hr 1 _ rfl
      have g2 := hr 2 _ rfl
      have g3 := hr 3 _ rfl
      have hlt' : (k : Int) < L.length := by omega
      have HN := hide (qtyS_take hkc)
      have q1 := unhide HBD k
      have q2 := unhide HBD (k + 1)
      rw [unhide HN] at q2
      have HB3 := hide ((unhide hbel).alloc (unhide hbel).size (Obj.cells #[.int .i64 c.side, .int .i64 c.ticks, .int .i64 c.qty, .int .i64 c.count] 91))
      clear hr hcl hkc hb'
      generalize qtyS (L.take k) = A at q1 q2 HN
      obtain ⟨q1a, q1b⟩ := q1
      obtain ⟨q2a, q2b⟩ := q2
      simp only [Nat.add_zero] at g0
      go_wp2_with fail
      go_roundw
      case rel => exact ⟨k + 1, by omega, by rw [unhide HN], by go_num, unhide HB3⟩
      case measure => simp [intOf]; omega
    · have HN : Hid (qtyS (L.take k) = sumL seq) := by
        have : qtyS (L.take k) = sumL seq := by rw [List.take_of_length_le (by omega)]; exact unhide HQ
        exact this
      go_wp2_with fail
      go_ret
      exact ⟨ret_int (unhide HN), (unhide HB).trans ((unhide hbel).mono (unhide HB).size)⟩
set_option maxRecDepth 100000 in
set_option maxHeartbeats 800000 in
theorem left_s (b : Nat) (sd : Int) (seq : List Od) (w : World) (h : TreeAt 124 false w b sd seq) (hn : seq.length ≤ 20) (hl : ∀ o ∈ seq, 0 ≤ o.left ∧ o.left ≤ 1000000) :
    Calls Try.prog 17 #[side_s b] w fun e w' => e = .returned (.int .i64 (sumL seq)) ∧ Below w.heap.size w w' := by
  have H1 := hide h
  have hb1 := treeAt_lt h
  clear h
  have HQ := hide (qty_levels false sd seq)
  have HBD : Hid (∀ k, 0 ≤ qtyS ((lvsOf false sd seq).take k) ∧ qtyS ((lvsOf false sd seq).take k) ≤ 20000000 * 20) := fun k => by
    have := qtyS_bound sd seq hl hn ((tks false seq).take k)
    have h2 : ((tks false seq).take k).length ≤ 20 := Nat.le_trans (List.length_take_le' _ _) (Nat.le_trans (tks_len _ _) hn)
    rw [show (lvsOf false sd seq).take k = ((tks false seq).take k).map (lvAt sd seq) by rw [lvsOf, List.map_take]]
    omega
  have hL20 : (lvsOf false sd seq).length ≤ 20 := by rw [lvsOf, List.length_map]; exact Nat.le_trans (tks_len _ _) hn
  have HW := hide ((Below.refl w.heap.size w).alloc (Nat.le_refl _) (Obj.cells #[.func (.func 65) #[.pointer (some ⟨b, 0, none⟩)] #[], .func (.func 66) #[.pointer (some ⟨b, 0, none⟩)] #[], .func (.func 67) #[.pointer (some ⟨b, 0, none⟩)] #[]] 51))
  unfold side_s
  go_enter Try.func17, Try.ntmps17
  go_wp2_with fail
  generalize (w.alloc (Obj.cells #[.func (.func 65) #[.pointer (some ⟨b, 0, none⟩)] #[], .func (.func 66) #[.pointer (some ⟨b, 0, none⟩)] #[], .func (.func 67) #[.pointer (some ⟨b, 0, none⟩)] #[]] 51)) = W1 at HW ⊢
  refine (levels_s b sd seq W1 (treeAt_block (unhide H1) ((unhide HW).block _ hb1)) hn).mono ?_
  rintro e w1 ⟨v', rfl, hO, hb2⟩
  have HB := hide ((unhide HW).trans (hb2.mono (unhide HW).size))
  clear hb2
  generalize lvsOf false sd seq = L at hO HQ HBD hL20
  obtain ⟨a, cap, rfl, hLl, hc⟩ := ownR_rd hO
  have hcell : ∀ (k : Nat) (c : Lv), L[k]? = some c → ∃ b off, a = some ⟨b, off, none⟩ ∧ b < w1.heap.size ∧ w1.rangeAt b (off + k * 4) c.vs := by
    intro k c hk
    obtain ⟨b, off, h1, h2, h3⟩ := hc (by intro h; rw [h] at hk; simp at hk)
    exact ⟨b, off, h1, h2, h3 k c hk⟩
  have HC := hide hcell
  clear hcell hc hO
  go_wp2_with fail
  go_loopw [3, 10] (fun sv iv wr => ∃ k : Nat, k ≤ L.length ∧ sv = .int .i64 (qtyS (L.take k)) ∧ iv = .int .i64 k ∧ Hid (Below w1.heap.size w1 wr)) (fun _ iv _ => L.length - (intOf iv).toNat)
  case atStart => exact ⟨0, Nat.zero_le _, rfl, rfl, Below.refl _ _⟩
  case round =>
    obtain ⟨k, hk, rfl, rfl, hbel⟩ := hrel
    by_cases hlt : k < L.length
    · obtain ⟨c, hkc⟩ : ∃ c, L[k]? = some c := ⟨_, List.getElem?_eq_getElem hlt⟩
      obtain ⟨b', off, rfl, hb', hcl⟩ := unhide HC k c hkc
      have hr := range_below hcl (unhide hbel) hb'
      have g0 := hr 0 _ rfl
      have g1 := hr 1 _ rfl
      have g2 := hr 2 _ rfl
      have g3 := hr 3 _ rfl
      have hlt' : (k : Int) < L.length := by omega
      have HN := hide (qtyS_take hkc)
      have q1 := unhide HBD k
      have q2 := unhide HBD (k + 1)
      rw [unhide HN] at q2
      have HB3 := hide ((unhide hbel).alloc (unhide hbel).size (Obj.cells #[.int .i64 c.side, .int .i64 c.ticks, .int .i64 c.qty, .int .i64 c.count] 91))
      clear hr hcl hkc hb'
      generalize qtyS (L.take k) = A at q1 q2 HN
      obtain ⟨q1a, q1b⟩ := q1
      obtain ⟨q2a, q2b⟩ := q2
      simp only [Nat.add_zero] at g0
      go_wp2_with fail
      go_roundw
      case rel => exact ⟨k + 1, by omega, by rw [unhide HN], by go_num, unhide HB3⟩
      case measure => simp [intOf]; omega
    · have HN : Hid (qtyS (L.take k) = sumL seq) := by
        have : qtyS (L.take k) = sumL seq := by rw [List.take_of_length_le (by omega)]; exact unhide HQ
        exact this
      go_wp2_with fail
      go_ret
      exact ⟨ret_int (unhide HN), (unhide HB).trans ((unhide hbel).mono (unhide HB).size)⟩
set_option maxRecDepth 100000 in
set_option maxHeartbeats 1600000 in
theorem mid_any (b1 b2 : Nat) (sd1 sd2 : Int) (s1 s2 : List Od) (w : World) (h1 : TreeAt 121 true w b1 sd1 s1) (h2 : TreeAt 124 false w b2 sd2 s2) (n1 : s1.length ≤ 20) (n2 : s2.length ≤ 20) :
    Calls Try.prog 14 #[side_b b1, side_s b2] w fun e w' => ∃ m s, e = .returned (.tuple #[.float .f64 m, .float .f64 s]) ∧ HasF (mdO (quOf true s1) (quOf false s2)) m ∧ HasF (spO (quOf true s1) (quOf false s2)) s ∧ Below w.heap.size w w' := by
  have H1 := hide h1
  have H2 := hide h2
  have hb1 := treeAt_lt h1
  have hb2 := treeAt_lt h2
  clear h1 h2
  unfold side_b side_s
  have hs1 : (w.alloc (Obj.cells #[.func (.func 61) #[.pointer (some ⟨b1, 0, none⟩)] #[], .func (.func 62) #[.pointer (some ⟨b1, 0, none⟩)] #[], .func (.func 63) #[.pointer (some ⟨b1, 0, none⟩)] #[]] 51)).heap.size = w.heap.size + 1 := size_made _ _
  have r1 := cells_made (w.alloc (Obj.cells #[.func (.func 61) #[.pointer (some ⟨b1, 0, none⟩)] #[], .func (.func 62) #[.pointer (some ⟨b1, 0, none⟩)] #[], .func (.func 63) #[.pointer (some ⟨b1, 0, none⟩)] #[]] 51)) [.func (.func 65) #[.pointer (some ⟨b2, 0, none⟩)] #[], .func (.func 66) #[.pointer (some ⟨b2, 0, none⟩)] #[], .func (.func 67) #[.pointer (some ⟨b2, 0, none⟩)] #[]] 51
  have hs2 : ((w.alloc (Obj.cells #[.func (.func 61) #[.pointer (some ⟨b1, 0, none⟩)] #[], .func (.func 62) #[.pointer (some ⟨b1, 0, none⟩)] #[], .func (.func 63) #[.pointer (some ⟨b1, 0, none⟩)] #[]] 51)).alloc (Obj.cells #[.func (.func 65) #[.pointer (some ⟨b2, 0, none⟩)] #[], .func (.func 66) #[.pointer (some ⟨b2, 0, none⟩)] #[], .func (.func 67) #[.pointer (some ⟨b2, 0, none⟩)] #[]] 51)).heap.size = w.heap.size + 2 := by rw [size_made, hs1]
  have HB0 : Hid (Below w.heap.size w ((w.alloc (Obj.cells #[.func (.func 61) #[.pointer (some ⟨b1, 0, none⟩)] #[], .func (.func 62) #[.pointer (some ⟨b1, 0, none⟩)] #[], .func (.func 63) #[.pointer (some ⟨b1, 0, none⟩)] #[]] 51)).alloc (Obj.cells #[.func (.func 65) #[.pointer (some ⟨b2, 0, none⟩)] #[], .func (.func 66) #[.pointer (some ⟨b2, 0, none⟩)] #[], .func (.func 67) #[.pointer (some ⟨b2, 0, none⟩)] #[]] 51))) := ((Below.refl _ _).alloc (Nat.le_refl _) _).alloc (by rw [size_made]; omega) _
  rw [hs1] at r1
  have HX := hide (r1 0 _ rfl)
  have HS2 := hide hs2
  clear r1 hs1 hs2
  go_enter Try.func14, Try.ntmps14
  go_wp2_with fail
  generalize ((w.alloc (Obj.cells #[.func (.func 61) #[.pointer (some ⟨b1, 0, none⟩)] #[], .func (.func 62) #[.pointer (some ⟨b1, 0, none⟩)] #[], .func (.func 63) #[.pointer (some ⟨b1, 0, none⟩)] #[]] 51)).alloc (Obj.cells #[.func (.func 65) #[.pointer (some ⟨b2, 0, none⟩)] #[], .func (.func 66) #[.pointer (some ⟨b2, 0, none⟩)] #[], .func (.func 67) #[.pointer (some ⟨b2, 0, none⟩)] #[]] 51)) = W2 at HX HS2 HB0 ⊢
  refine (front_b b1 sd1 s1 W2 (treeAt_block (unhide H1) ((unhide HB0).block _ hb1)) n1).mono ?_
  rintro e w1 ⟨rfl, hb3⟩
  rw [frOf_eq]
  have HB3 := hide hb3
  have c0 := (hb3.cell (p := ⟨w.heap.size + 1, 0, none⟩) (by rw [unhide HS2]; simp)).trans (unhide HX)
  have hsz1 : w.heap.size + 2 ≤ w1.heap.size := by have := hb3.size; rw [unhide HS2] at this; omega
  generalize hq1 : hdO (quOf true s1) = x
  generalize hf1 : hdF (quOf true s1) = f1
  have HQ1 : Hid (hdO (quOf true s1) = x ∧ hdF (quOf true s1) = f1) := ⟨hq1, hf1⟩
  clear hb3 hq1 hf1
  have c0' : (w1.alloc (Obj.cells #[.int .i64 x.id, .int .i64 x.side, .int .i64 x.ticks, .int .i64 x.left, .int .i64 x.life, .string x.tag] 61)).cell? ⟨w.heap.size + 1, 0, none⟩ = _ := (Below.cell ((Below.refl w1.heap.size w1).alloc (Nat.le_refl _) _) (p := ⟨w.heap.size + 1, 0, none⟩) (show w.heap.size + 1 < w1.heap.size by omega)).trans c0
  have HX1 : Hid (World.rangeAt (w1.alloc (Obj.cells #[.int .i64 x.id, .int .i64 x.side, .int .i64 x.ticks, .int .i64 x.left, .int .i64 x.life, .string x.tag] 61)) w1.heap.size 0 x.vs) := cells_made w1 x.vs 61
  have HB4 : Hid (Below W2.heap.size W2 (w1.alloc (Obj.cells #[.int .i64 x.id, .int .i64 x.side, .int .i64 x.ticks, .int .i64 x.left, .int .i64 x.life, .string x.tag] 61))) := (unhide HB3).alloc (unhide HB3).size _
  have HS4 : Hid ((w1.alloc (Obj.cells #[.int .i64 x.id, .int .i64 x.side, .int .i64 x.ticks, .int .i64 x.left, .int .i64 x.life, .string x.tag] 61)).heap.size = w1.heap.size + 1) := size_made _ _
  go_wp2_with fail
  generalize (w1.alloc (Obj.cells #[.int .i64 x.id, .int .i64 x.side, .int .i64 x.ticks, .int .i64 x.left, .int .i64 x.life, .string x.tag] 61)) = W4 at c0' HX1 HB4 HS4 ⊢
  have HB04 := hide ((unhide HB0).trans ((unhide HB4).mono (unhide HB0).size))
  refine (front_s b2 sd2 s2 W4 (treeAt_block (unhide H2) ((unhide HB04).block _ hb2)) n2).mono ?_
  rintro e w5 ⟨rfl, hb5⟩
  rw [frOf_eq]
  have HB5 := hide ((unhide HB04).trans (hb5.mono (unhide HB04).size))
  obtain ⟨-, -, t2, -⟩ := od_cells (range_below (unhide HX1) hb5 (by rw [unhide HS4]; omega))
  have hsz5 : w1.heap.size < w5.heap.size := by have := hb5.size; rw [unhide HS4] at this; omega
  generalize hq2 : hdO (quOf false s2) = y
  generalize hf2 : hdF (quOf false s2) = f2
  have HQ2 : Hid (hdO (quOf false s2) = y ∧ hdF (quOf false s2) = f2) := ⟨hq2, hf2⟩
  clear hb5 hq2 hf2
  have t2' : (w5.alloc (Obj.cells #[.int .i64 y.id, .int .i64 y.side, .int .i64 y.ticks, .int .i64 y.left, .int .i64 y.life, .string y.tag] 61)).cell? ⟨w1.heap.size, 0 + 2, none⟩ = _ := (Below.cell ((Below.refl w5.heap.size w5).alloc (Nat.le_refl _) _) (p := ⟨w1.heap.size, 0 + 2, none⟩) hsz5).trans t2
  have HX5 : Hid (World.rangeAt (w5.alloc (Obj.cells #[.int .i64 y.id, .int .i64 y.side, .int .i64 y.ticks, .int .i64 y.left, .int .i64 y.life, .string y.tag] 61)) w5.heap.size 0 y.vs) := cells_made w5 y.vs 61
  have HB6 : Hid (Below w.heap.size w (w5.alloc (Obj.cells #[.int .i64 y.id, .int .i64 y.side, .int .i64 y.ticks, .int .i64 y.left, .int .i64 y.life, .string y.tag] 61))) := (unhide HB5).alloc (unhide HB5).size _
  have nn : nanB 9221120237041090560 = true := by decide
  have hfb := frombitsN
  have HMN : Hid (¬ (f1 = true ∧ f2 = true) → HasF (mdO (quOf true s1) (quOf false s2)) 9221120237041090560 ∧ HasF (spO (quOf true s1) (quOf false s2)) 9218868437227405312) := fun hne => by
    have e1 : mdO (quOf true s1) (quOf false s2) = none := by unfold mdO; rw [(unhide HQ1).2, (unhide HQ2).2, if_neg hne]
    have e2 : spO (quOf true s1) (quOf false s2) = some 9218868437227405312 := by unfold spO; rw [(unhide HQ1).2, (unhide HQ2).2, if_neg hne]
    rw [e1, e2]
    exact ⟨⟨fun r h => by simp at h, fun _ => nn⟩, has_some _⟩
  cases f1 <;> cases f2
  · go_wp2_with fail
    go_returns
    exact ⟨_, _, rfl, (unhide HMN (by simp)).1, (unhide HMN (by simp)).2, unhide HB6⟩
  · go_wp2_with fail
    go_returns
    exact ⟨_, _, rfl, (unhide HMN (by simp)).1, (unhide HMN (by simp)).2, unhide HB6⟩
  · go_wp2_with fail
    go_returns
    exact ⟨_, _, rfl, (unhide HMN (by simp)).1, (unhide HMN (by simp)).2, unhide HB6⟩
  · clear HMN
    have e1 : mdO (quOf true s1) (quOf false s2) = (FloatKind.f64.format.add (qtr x.ticks) (qtr y.ticks)).bind fun a => FloatKind.f64.format.div a 4611686018427387904 := by unfold mdO; rw [(unhide HQ1).1, (unhide HQ1).2, (unhide HQ2).1, (unhide HQ2).2]; exact if_pos ⟨rfl, rfl⟩
    have e2 : spO (quOf true s1) (quOf false s2) = FloatKind.f64.format.sub (qtr y.ticks) (qtr x.ticks) := by unfold spO; rw [(unhide HQ1).1, (unhide HQ1).2, (unhide HQ2).1, (unhide HQ2).2]; exact if_pos ⟨rfl, rfl⟩
    have HE1 := hide e1
    have HE2 := hide e2
    clear e1 e2
    have HPX := hide (fun W => price_any x.ticks W)
    have HPY := hide (fun W => price_any y.ticks W)
    obtain ⟨-, -, u2, -⟩ := od_cells (unhide HX5)
    go_wp2_with fail
    go_region_with (go_at_call 38; first | (refine (unhide HPX _).mono ?_; rintro e w7 ⟨rfl, rfl⟩) | (refine (unhide HPY _).mono ?_; rintro e w7 ⟨rfl, rfl⟩))
    all_goals
      have HB7 : Hid (Below w.heap.size w (w5.alloc (Obj.cells #[.int .i64 y.id, .int .i64 y.side, .int .i64 y.ticks, .int .i64 y.left, .int .i64 y.life, .string y.tag] 61)).drew) := (unhide HB6).drew
      generalize (w5.alloc (Obj.cells #[.int .i64 y.id, .int .i64 y.side, .int .i64 y.ticks, .int .i64 y.left, .int .i64 y.life, .string y.tag] 61)).drew = WF at HB7 ⊢
      obtain ⟨m1, k1, r1, z1⟩ := addH _ _ _ _ WF (has_some (qtr x.ticks)) (has_some (qtr y.ticks))
      obtain ⟨m2, k2, r2, z2⟩ := divH _ _ m1 4611686018427387904 (WF.drewN k1) z1 (has_some _)
      obtain ⟨m3, k3, r3, z3⟩ := subH _ _ _ _ (WF.drewN (k1 + k2)) (has_some (qtr y.ticks)) (has_some (qtr x.ticks))
      have Z2 : Hid (HasF (mdO (quOf true s1) (quOf false s2)) m2) := by
        have : HasF (mdO (quOf true s1) (quOf false s2)) m2 := by rw [unhide HE1]; exact z2
        exact this
      have Z3 : Hid (HasF (spO (quOf true s1) (quOf false s2)) m3) := by
        have : HasF (spO (quOf true s1) (quOf false s2)) m3 := by rw [unhide HE2]; exact z3
        exact this
      clear z1 z2 z3
      go_wp2_with fail
      go_returns
      exact ⟨m2, m3, rfl, unhide Z2, unhide Z3, below_drewN' (unhide HB7) _⟩
end Go.Proofs.Ythmgkabpcjkieaa
namespace Go.Proofs.Ythmgkabpcjkieaa
open Go.RowKit
set_option linter.unusedVariables false

theorem okF_left {next : Int} {l : List Od} (h : okS next l = true) : l.length ≤ 20 ∧ Rising l ∧ ∀ o ∈ l, 0 ≤ o.left ∧ o.left ≤ 1000000 := by
  simp only [okS, Bool.and_eq_true, decide_eq_true_eq] at h
  obtain ⟨⟨⟨_, h2⟩, h3⟩, _⟩ := h
  refine ⟨h2, (allR_rising h3).1, fun o ho => ?_⟩
  have := allR_sides h3 o ho
  simp [ordB, betB] at this
  omega
theorem sflF (a : Addr) (x : Nat) (m : Mode) (w : World) : (store a (.float .f64 x) m).run Try.prog w = stored Try.prog w a (.float .f64 x) m := run_store _ w a _ m rfl
/-- Three blocks from the size of w on: the totals, the book, what is answered. -/
structure Fg (w W : World) (ts bk zs : List Value) : Prop where
  t : Bx W w.heap.size ts
  k : Bx W (w.heap.size + 1) bk
  o : Bx W (w.heap.size + 1 + 1) zs
  b : Below w.heap.size w W
  z : w.heap.size + 3 ≤ W.heap.size
theorem fg_made (w : World) (ts bk zs : List Value) (t u v : TypeId) : Fg w (((w.alloc (Obj.cells ts.toArray t)).alloc (Obj.cells bk.toArray u)).alloc (Obj.cells zs.toArray v)) ts bk zs := by
  have h := bx2_made w ts bk t u
  have hs : ((w.alloc (Obj.cells ts.toArray t)).alloc (Obj.cells bk.toArray u)).heap.size = w.heap.size + 2 := by simp
  have h3 := bx_made ((w.alloc (Obj.cells ts.toArray t)).alloc (Obj.cells bk.toArray u)) zs v
  rw [hs] at h3
  have b3 : Below (w.heap.size + 2) ((w.alloc (Obj.cells ts.toArray t)).alloc (Obj.cells bk.toArray u)) (((w.alloc (Obj.cells ts.toArray t)).alloc (Obj.cells bk.toArray u)).alloc (Obj.cells zs.toArray v)) := (Below.refl _ _).alloc (by omega) _
  exact ⟨bx_below h.o b3 (by omega), bx_below h.k b3 (by omega), h3, h.b.trans (b3.mono (by omega)), by simp⟩
theorem fg_below {w W V : World} {ts bk zs : List Value} (h : Fg w W ts bk zs) (hb : Below W.heap.size W V) : Fg w V ts bk zs := by
  have hz := h.z
  exact ⟨bx_below h.t hb (by omega), bx_below h.k hb (by omega), bx_below h.o hb (by omega), h.b.trans (hb.mono h.b.size), Nat.le_trans hz hb.size⟩
end Go.Proofs.Ythmgkabpcjkieaa
