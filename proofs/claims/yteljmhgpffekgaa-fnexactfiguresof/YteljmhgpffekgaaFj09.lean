/-
  Orders as records of six cells: copied one by one and in rows, held against each other, their size: proved by walking the laws' own helpers. (what walks the functions of the model or of the laws)
-/
import Derived.Test.YteljmhgpffekgaaFj08
import Derived.Deep.RegionWith
namespace Go.Proofs.Yteljmhgpffekgaa
open Go.RowKit
set_option linter.unusedVariables false

theorem toOrder_any (o : Od) (w : World) :
    Calls Try.prog 81 #[.agg #[.int .i64 o.id, .int .i64 o.side, .int .i64 o.ticks, .int .i64 o.left, .int .i64 o.life, .string o.tag]] w fun e w' => e = .returned (.agg #[.int .i64 o.id, .int .i64 o.side, .int .i64 o.ticks, .int .i64 o.left, .int .i64 o.life, .string o.tag]) ∧ Below w.heap.size w w' := by
  obtain ⟨id, side, ticks, left, life, tag⟩ := o
  simp only
  go_enter Try.func81, Try.ntmps81
  go_wp2_with fail
  go_returns
  refine ⟨rfl, ?_⟩
  go_grown

set_option maxRecDepth 100000 in
set_option maxHeartbeats 400000 in
theorem toOrderS_any (v : Value) (l : List Od) (w : World) (hr : RdR Od.vs 6 w v l) :
    Calls Try.prog 52 #[v] w fun e w' => ∃ v', e = .returned v' ∧ OwnR Od.vs 6 w.heap.size w' v' l ∧ Below w.heap.size w w' := by
  obtain ⟨a, cap, rfl, hl, hc⟩ := hr
  obtain ⟨i0, hi, hz0, hz1, hz2⟩ := info_parts Try.infoOrder
  have hcell : ∀ (k : Nat) (c : Od), l[k]? = some c → ∃ b off, a = some ⟨b, off, none⟩ ∧ b < w.heap.size ∧ w.rangeAt b (off + k * 6) c.vs := by
    intro k c hk
    obtain ⟨b, off, h1, h2, h3⟩ := hc (by intro h; rw [h] at hk; simp at hk)
    exact ⟨b, off, h1, h2, h3 k c hk⟩
  have HC := hide hcell
  clear hcell hc
  go_enter Try.func52, Try.ntmps52
  go_wp2_with (at_make; go_must (refine wpList_make_full _ rfl _ _ 38 rfl w.heap.size 93 i0 _ 6 Try.underlying38 hi hz0 hz1 _ _ _ _ l.length rfl rfl rfl rfl (by rw [hz2]; omega) (by unfold maxLen; omega) (Nat.le_refl _) ?_); intro w1 hown hgrow)
  have HA := hide (fill_made (f := Od.vs) hown hgrow)
  clear hown hgrow hi hz0 hz1 hz2
  go_loopw [4] (fun i wr => ∃ k : Nat, k ≤ l.length ∧ i = .int .i64 k ∧ FillR Od.vs 6 l.length w.heap.size w wr (l.take k)) (fun i _ => l.length - (intOf i).toNat)
  case atStart => exact ⟨0, Nat.zero_le _, rfl, by simpa using unhide HA⟩
  case round =>
    obtain ⟨k, hk, rfl, harr⟩ := hrel
    have HF := hide harr
    clear harr HA
    by_cases hlt : k < l.length
    · obtain ⟨c, hkc⟩ : ∃ c, l[k]? = some c := ⟨_, List.getElem?_eq_getElem hlt⟩
      have HKC := hide hkc
      obtain ⟨b, off, rfl, hb, hcl⟩ := unhide HC k c hkc
      have hcr := range_below hcl (unhide HF).2.2.2.2 hb
      obtain ⟨g0, g1, g2, g3, g4, g5⟩ := od_cells hcr
      have hlt' : (k : Int) < l.length := by omega
      clear hkc hcl hb hcr
      go_wp2_with fail
      refine (toOrder_any c _).mono ?_
      rintro e w2 ⟨rfl, hb2⟩
      have HF2 := hide (fill_below (unhide HF) hb2 (Nat.le_refl _))
      clear hb2
      obtain ⟨⟨x0, y0, z0⟩, ⟨x1, y1, z1⟩, ⟨x2, y2, z2⟩, ⟨x3, y3, z3⟩, ⟨x4, y4, z4⟩, x5, y5, z5⟩ := there6 (fill_there (unhide HF2) hlt)
      go_wp2_with fail
      go_roundw
      case rel =>
        refine ⟨k + 1, by omega, by go_num, ?_⟩
        have h := fill_step c (unhide HF2) (by rw [List.length_take]; omega) Od.len
        rw [← takeR l k c (unhide HKC), show (l.take k).length = k by rw [List.length_take]; omega] at h
        exact h
      case measure => simp [intOf]; omega
    · go_wp2_with fail
      go_ret
      have h := unhide HF
      rw [List.take_of_length_le (by omega)] at h
      exact ⟨_, rfl, fill_own h rfl hl, h.2.2.2.2⟩

set_option maxHeartbeats 400000 in
theorem eqOrder_same (o : Od) (w : World) :
    Calls Try.prog 82 #[.agg #[.int .i64 o.id, .int .i64 o.side, .int .i64 o.ticks, .int .i64 o.left, .int .i64 o.life, .string o.tag], .agg #[.int .i64 o.id, .int .i64 o.side, .int .i64 o.ticks, .int .i64 o.left, .int .i64 o.life, .string o.tag]] w fun e w' => e = .returned (.bool true) ∧ Below w.heap.size w w' := by
  obtain ⟨id, side, ticks, left, life, tag⟩ := o
  simp only
  go_enter Try.func82, Try.ntmps82
  go_wp2_with fail
  go_returns
  refine ⟨rfl, ?_⟩
  go_grown

set_option maxRecDepth 100000 in
set_option maxHeartbeats 400000 in
theorem eqOrderS_same (va vb : Value) (l : List Od) (w : World) (ha : RdR Od.vs 6 w va l) (hb : RdR Od.vs 6 w vb l) :
    Calls Try.prog 53 #[va, vb] w fun e w' => e = .returned (.bool true) ∧ Below w.heap.size w w' := by
  obtain ⟨aa, ca, rfl, hl, hca⟩ := ha
  obtain ⟨ab, cb, rfl, _, hcb⟩ := hb
  have hcell : ∀ (k : Nat) (c : Od), l[k]? = some c → ∃ b off b' off', aa = some ⟨b, off, none⟩ ∧ ab = some ⟨b', off', none⟩ ∧ b < w.heap.size ∧ b' < w.heap.size ∧ w.rangeAt b (off + k * 6) c.vs ∧ w.rangeAt b' (off' + k * 6) c.vs := by
    intro k c hk
    have hne : l ≠ [] := by intro h; rw [h] at hk; simp at hk
    obtain ⟨b, off, h1, h2, h3⟩ := hca hne
    obtain ⟨b', off', h1', h2', h3'⟩ := hcb hne
    exact ⟨b, off, b', off', h1, h1', h2, h2', h3 k c hk, h3' k c hk⟩
  have HC := hide hcell
  clear hcell hca hcb
  go_enter Try.func53, Try.ntmps53
  go_wp2_with fail
  go_loopw [5] (fun i wr => ∃ k : Nat, k ≤ l.length ∧ i = .int .i64 k ∧ Below w.heap.size w wr) (fun i _ => l.length - (intOf i).toNat)
  case atStart => exact ⟨0, Nat.zero_le _, rfl, Below.refl _ _⟩
  case round =>
    obtain ⟨k, hk, rfl, hbel⟩ := hrel
    have HB := hide hbel
    clear hbel
    by_cases hlt : k < l.length
    · obtain ⟨c, hkc⟩ : ∃ c, l[k]? = some c := ⟨_, List.getElem?_eq_getElem hlt⟩
      obtain ⟨b, off, b', off', rfl, rfl, hb, hb', hcl, hcl'⟩ := unhide HC k c hkc
      obtain ⟨g0, g1, g2, g3, g4, g5⟩ := od_cells (range_below hcl (unhide HB) hb)
      obtain ⟨e0, e1, e2, e3, e4, e5⟩ := od_cells (range_below hcl' (unhide HB) hb')
      have hlt' : (k : Int) < l.length := by omega
      clear hkc hcl hcl' hb hb'
      go_wp2_with fail
      go_region_with (go_at_call 82; refine (eqOrder_same c _).mono ?_; rintro e w2 ⟨rfl, hb2⟩; have HB2 := hide ((unhide HB).drew.trans (hb2.mono (unhide HB).drew.size)); clear hb2)
      go_wp2_with fail
      go_roundw
      case rel => exact ⟨k + 1, by omega, by go_num, unhide HB2⟩
      case measure => simp [intOf]; omega
      all_goals exact ⟨⟨k + 1, by omega, by go_num, unhide HB2⟩, by simp [intOf]; omega⟩
    · go_wp2_with fail
      go_ret
      exact ⟨rfl, unhide HB⟩

set_option maxHeartbeats 400000 in
theorem szOrder_any (o : Od) (x : Int) (w : World) (h0 : 0 ≤ x) (h1 : x ≤ 1073741824) (hg : o.tag.size ≤ maxLen) :
    Calls Try.prog 80 #[.agg #[.int .i64 o.id, .int .i64 o.side, .int .i64 o.ticks, .int .i64 o.left, .int .i64 o.life, .string o.tag], .int .i64 x] w fun e w' =>
      ∃ y : Int, e = .returned (.int .i64 y) ∧ -1 ≤ y ∧ y ≤ x ∧ Below w.heap.size w w' := by
  obtain ⟨id, side, ticks, left, life, g⟩ := o
  simp only at *
  unfold maxLen at hg
  by_cases h : x < g.size
  · go_enter Try.func80, Try.ntmps80
    go_wp2_with fail
    go_ret
    exact ⟨_, rfl, by omega, by omega, by go_grown⟩
  · go_enter Try.func80, Try.ntmps80
    go_wp2_with fail
    go_ret
    exact ⟨_, rfl, by omega, by omega, by go_grown⟩

set_option maxRecDepth 100000 in
set_option maxHeartbeats 400000 in
theorem szOrderS_any (v : Value) (l : List Od) (w : World) (hr : RdR Od.vs 6 w v l) (hl : l.length ≤ 1048576) (hg : ∀ c ∈ l, c.tag.size ≤ maxLen) :
    Calls Try.prog 51 #[v, .int .i64 1048576] w fun e w' => ∃ y : Int, e = .returned (.int .i64 y) ∧ -1 ≤ y ∧ y ≤ 1048576 ∧ Below w.heap.size w w' := by
  obtain ⟨a, cap, rfl, _, hc⟩ := hr
  have hcell : ∀ (k : Nat) (c : Od), l[k]? = some c → ∃ b off, a = some ⟨b, off, none⟩ ∧ b < w.heap.size ∧ w.rangeAt b (off + k * 6) c.vs := by
    intro k c hk
    obtain ⟨b, off, h1, h2, h3⟩ := hc (by intro h; rw [h] at hk; simp at hk)
    exact ⟨b, off, h1, h2, h3 k c hk⟩
  have HC := hide hcell
  have HG := hide hg
  clear hcell hc hg
  have hl' : ¬ (1048576 - (l.length : Int) < 0) := by omega
  go_enter Try.func51, Try.ntmps51
  go_wp2_with fail
  go_loopw [1, 5] (fun xv i wr => ∃ (x : Int) (k : Nat), xv = .int .i64 x ∧ 0 ≤ x ∧ x ≤ 1048576 ∧ k ≤ l.length ∧ i = .int .i64 k ∧ Below w.heap.size w wr) (fun _ i _ => l.length - (intOf i).toNat)
  case atStart => exact ⟨_, 0, rfl, by omega, by omega, Nat.zero_le _, rfl, Below.refl _ _⟩
  case round =>
    obtain ⟨x, k, rfl, hx0, hx1, hk, rfl, hbel⟩ := hrel
    have HB := hide hbel
    clear hbel
    by_cases hlt : k < l.length
    · obtain ⟨c, hkc⟩ : ∃ c, l[k]? = some c := ⟨_, List.getElem?_eq_getElem hlt⟩
      obtain ⟨b, off, rfl, hb, hcl⟩ := unhide HC k c hkc
      have HS := hide (unhide HG c (List.mem_of_getElem? hkc))
      obtain ⟨g0, g1, g2, g3, g4, g5⟩ := od_cells (range_below hcl (unhide HB) hb)
      have hlt' : (k : Int) < l.length := by omega
      clear hkc hcl hb
      go_wp2_with fail
      refine (szOrder_any c x _ hx0 (by omega) (unhide HS)).mono ?_
      rintro e w2 ⟨y, rfl, hy0, hy1, hb2⟩
      have HB2 := hide ((unhide HB).trans (hb2.mono (unhide HB).size))
      clear hb2
      by_cases hy : y < 0
      · go_wp2_with fail
        go_ret
        exact ⟨_, rfl, by omega, by omega, unhide HB2⟩
      · go_wp2_with fail
        go_roundw
        case rel => exact ⟨y, k + 1, rfl, by omega, by omega, by omega, by go_num, unhide HB2⟩
        case measure => simp [intOf]; omega
    · go_wp2_with fail
      go_ret
      exact ⟨_, rfl, by omega, by omega, unhide HB⟩
theorem szOrderS_long (a : Option Addr) (len cap : Nat) (w : World) (hl : 1048576 < len) (hm : len ≤ maxLen) :
    Calls Try.prog 51 #[.slice a len cap, .int .i64 1048576] w fun e w' => e = .returned (.int .i64 (-1)) ∧ w' = w := by
  unfold maxLen at hm
  have hl' : 1048576 - (len : Int) < 0 := by omega
  go_enter Try.func51, Try.ntmps51
  go_wp2_with fail
  go_ret
  exact ⟨rfl, rfl⟩

set_option maxHeartbeats 400000 in
theorem szBook_any (n : Int) (v : Value) (l : List Od) (w : World) (hr : RdR Od.vs 6 w v l) (hl : l.length ≤ 1048576) (hg : ∀ c ∈ l, c.tag.size ≤ maxLen) :
    Calls Try.prog 21 #[.agg #[.int .i64 n, v], .int .i64 1048576] w fun e w' => ∃ y : Int, e = .returned (.int .i64 y) ∧ -1 ≤ y ∧ y ≤ 1048576 ∧ Below w.heap.size w w' := by
  have HR := hide hr
  obtain ⟨a, cap, rfl, _, _⟩ := hr
  have HG := hide hg
  clear hg
  have HA : Hid (Below w.heap.size w (w.alloc (Obj.cells #[.int .i64 n, .slice a l.length cap] 56))) := (Below.refl _ _).alloc (Nat.le_refl _) _
  go_enter Try.func21, Try.ntmps21
  go_wp2_with fail
  refine (szOrderS_any _ l _ (rdR_below (unhide HR) (unhide HA) (Nat.le_refl _)) hl (unhide HG)).mono ?_
  rintro e w1 ⟨y, rfl, hy0, hy1, hb1⟩
  have HB := hide ((unhide HA).trans (hb1.mono (unhide HA).size))
  clear hb1
  by_cases hy : y < 0
  · go_wp2_with fail
    go_ret
    exact ⟨_, rfl, by omega, by omega, unhide HB⟩
  · go_wp2_with fail
    go_ret
    exact ⟨_, rfl, by omega, by omega, unhide HB⟩
set_option maxHeartbeats 400000 in
theorem szBook_long (n : Int) (a : Option Addr) (len cap : Nat) (w : World) (hl : 1048576 < len) (hm : len ≤ maxLen) :
    Calls Try.prog 21 #[.agg #[.int .i64 n, .slice a len cap], .int .i64 1048576] w fun e w' => e = .returned (.int .i64 (-1)) ∧ Below w.heap.size w w' := by
  have HZ := hide (fun W => szOrderS_long a len cap W hl hm)
  clear hl hm
  go_enter Try.func21, Try.ntmps21
  go_wp2_with fail
  refine (unhide HZ _).mono ?_
  rintro e w1 ⟨rfl, rfl⟩
  go_wp2_with fail
  go_ret
  exact ⟨rfl, by go_grown⟩
set_option maxHeartbeats 400000 in
theorem toBook_any (n : Int) (v : Value) (l : List Od) (w : World) (hr : RdR Od.vs 6 w v l) :
    Calls Try.prog 23 #[.agg #[.int .i64 n, v]] w fun e w' => ∃ v', e = .returned (.agg #[.int .i64 n, v']) ∧ OwnR Od.vs 6 w.heap.size w' v' l ∧ Below w.heap.size w w' := by
  have HR := hide hr
  obtain ⟨a, cap, rfl, _, _⟩ := hr
  have hs1 : (w.alloc (Obj.cells #[.int .i64 n, .slice a l.length cap] 56)).heap.size = w.heap.size + 1 := size_made _ _
  have hs2 : ((w.alloc (Obj.cells #[.int .i64 n, .slice a l.length cap] 56)).alloc (Obj.cells #[.int .i64 0, .slice none 0 0] 40)).heap.size = w.heap.size + 1 + 1 := by rw [size_made, hs1]
  have r1 := cells_made (w.alloc (Obj.cells #[.int .i64 n, .slice a l.length cap] 56)) [.int .i64 0, .slice none 0 0] 40
  have r2 := cells_made ((w.alloc (Obj.cells #[.int .i64 n, .slice a l.length cap] 56)).alloc (Obj.cells #[.int .i64 0, .slice none 0 0] 40)) [.int .i64 n, .slice none 0 0] 40
  have t1 := there_block (n := 2) (heap_alloc_new (w.alloc (Obj.cells #[.int .i64 n, .slice a l.length cap] 56)) (Obj.cells #[.int .i64 0, .slice none 0 0] 40)) (by simp)
  have t2 := there_block (n := 2) (heap_alloc_new ((w.alloc (Obj.cells #[.int .i64 n, .slice a l.length cap] 56)).alloc (Obj.cells #[.int .i64 0, .slice none 0 0] 40)) (Obj.cells #[.int .i64 n, .slice none 0 0] 40)) (by simp)
  rw [hs1] at r1 t1
  rw [hs2] at r2 t2
  have HB0 : Hid (Below w.heap.size w (((w.alloc (Obj.cells #[.int .i64 n, .slice a l.length cap] 56)).alloc (Obj.cells #[.int .i64 0, .slice none 0 0] 40)).alloc (Obj.cells #[.int .i64 n, .slice none 0 0] 40))) :=
    (((Below.refl _ _).alloc (Nat.le_refl _) _).alloc (by rw [hs1]; omega) _).alloc (by rw [hs2]; omega) _
  have hs3 : (((w.alloc (Obj.cells #[.int .i64 n, .slice a l.length cap] 56)).alloc (Obj.cells #[.int .i64 0, .slice none 0 0] 40)).alloc (Obj.cells #[.int .i64 n, .slice none 0 0] 40)).heap.size = w.heap.size + 1 + 1 + 1 := by rw [size_made, hs2]
  have r1' := range_below r1 (C := w.heap.size + 1 + 1) (((Below.refl _ _).alloc (by rw [hs2]; omega) (Obj.cells #[.int .i64 n, .slice none 0 0] 40))) (by omega)
  have t1' := there_below t1 (C := w.heap.size + 1 + 1) (((Below.refl _ _).alloc (by rw [hs2]; omega) (Obj.cells #[.int .i64 n, .slice none 0 0] 40))) (by omega)
  have HX : Hid (_ ∧ _ ∧ _ ∧ _) := ⟨r1', t1', r2, t2⟩
  have HS3 := hide hs3
  clear r1 t1 r1' t1' r2 t2 hs1 hs2 hs3
  go_enter Try.func23, Try.ntmps23
  go_wp2_with fail
  generalize hW3 : (((w.alloc (Obj.cells #[.int .i64 n, .slice a l.length cap] 56)).alloc (Obj.cells #[.int .i64 0, .slice none 0 0] 40)).alloc (Obj.cells #[.int .i64 n, .slice none 0 0] 40)) = W3 at HB0 HX HS3 ⊢
  clear hW3
  refine (toOrderS_any _ l _ (rdR_below (unhide HR) (unhide HB0) (Nat.le_refl _))).mono ?_
  rintro e w1 ⟨v', rfl, ho, hb1⟩
  have HO := hide ho
  have HB := hide hb1
  obtain ⟨x1, x2, x3, x4⟩ := unhide HX
  have y1 := range_below x1 hb1 (by rw [unhide HS3]; omega)
  have y2 := there_below x2 hb1 (by rw [unhide HS3]; omega)
  have y3 := range_below x3 hb1 (by rw [unhide HS3]; omega)
  have y4 := there_below x4 hb1 (by rw [unhide HS3]; omega)
  have c0 : w1.cell? ⟨w.heap.size + 1, 0, none⟩ = some (.int .i64 0) := y1 0 _ rfl
  have c1 : w1.cell? ⟨w.heap.size + 1, 1, none⟩ = some (.slice none 0 0) := y1 1 _ rfl
  have c2 : w1.cell? ⟨w.heap.size + 1 + 1, 0, none⟩ = some (.int .i64 n) := y3 0 _ rfl
  have c3 : w1.cell? ⟨w.heap.size + 1 + 1, 1, none⟩ = some (.slice none 0 0) := y3 1 _ rfl
  have f0 : w1.frozen? ⟨w.heap.size + 1, 0, none⟩ = false := (y2 0 (by omega)).2
  have f1 : w1.frozen? ⟨w.heap.size + 1, 1, none⟩ = false := (y2 1 (by omega)).2
  have f2 : w1.frozen? ⟨w.heap.size + 1 + 1, 0, none⟩ = false := (y4 0 (by omega)).2
  have f3 : w1.frozen? ⟨w.heap.size + 1 + 1, 1, none⟩ = false := (y4 1 (by omega)).2
  clear ho hb1 x1 x2 x3 x4 y1 y2 y3 y4
  obtain ⟨a', cap', rfl, hl', ho'⟩ := unhide HO
  clear ho'
  go_wp2_with fail
  have hne : (⟨w.heap.size + 1, 0, none⟩ : Addr) ≠ ⟨w.heap.size + 1, 1, none⟩ := fun e => by simp at e
  have hnb : ∀ i j, (⟨w.heap.size + 1 + 1, i, none⟩ : Addr) ≠ ⟨w.heap.size + 1, j, none⟩ := fun i j e => by have := congrArg Addr.block e; simp at this
  have d1 : (((w1.setCell ⟨w.heap.size + 1 + 1, 1, none⟩ (.slice a' l.length cap')).setCell ⟨w.heap.size + 1, 0, none⟩ (.int .i64 n)).setCell ⟨w.heap.size + 1, 1, none⟩ (.slice a' l.length cap')).cell? ⟨w.heap.size + 1, 1, none⟩ = some (.slice a' l.length cap') :=
    World.cell?_setCell_same _ _ _ ((World.cell?_setCell_other _ _ _ _ hne).trans ((World.cell?_setCell_other _ _ _ _ (hnb 1 1)).trans c1))
  have d0 : (((w1.setCell ⟨w.heap.size + 1 + 1, 1, none⟩ (.slice a' l.length cap')).setCell ⟨w.heap.size + 1, 0, none⟩ (.int .i64 n)).setCell ⟨w.heap.size + 1, 1, none⟩ (.slice a' l.length cap')).cell? ⟨w.heap.size + 1, 0, none⟩ = some (.int .i64 n) :=
    (World.cell?_setCell_other _ _ _ _ hne.symm).trans (World.cell?_setCell_same _ _ _ ((World.cell?_setCell_other _ _ _ _ (hnb 1 0)).trans c0))
  have HO5 := hide (ownR_base (ownR_set (b := w.heap.size + 1) (ownR_set (b := w.heap.size + 1) (ownR_set (b := w.heap.size + 1 + 1) (unhide HO) (by rw [unhide HS3]; omega) 1 (.slice a' l.length cap')) (by rw [unhide HS3]; omega) 0 (.int .i64 n)) (by rw [unhide HS3]; omega) 1 (.slice a' l.length cap')) (B' := w.heap.size) (by rw [unhide HS3]; omega))
  have HB5 := hide (((((unhide HB0).trans ((unhide HB).mono (unhide HB0).size)).setCell (p := ⟨w.heap.size + 1 + 1, 1, none⟩) (by simp; omega) (.slice a' l.length cap')).setCell (p := ⟨w.heap.size + 1, 0, none⟩) (by simp) (.int .i64 n)).setCell (p := ⟨w.heap.size + 1, 1, none⟩) (by simp) (.slice a' l.length cap'))
  generalize (((w1.setCell ⟨w.heap.size + 1 + 1, 1, none⟩ (.slice a' l.length cap')).setCell ⟨w.heap.size + 1, 0, none⟩ (.int .i64 n)).setCell ⟨w.heap.size + 1, 1, none⟩ (.slice a' l.length cap')) = W5 at *
  try simp only [Exit.inBlock, Exit.then]
  refine bodyPost_ret (by simp [results, Try.results23, go_sem, d0, d1]; try rfl) rfl ?_
  exact ⟨_, rfl, unhide HO5, unhide HB5⟩
set_option maxHeartbeats 400000 in
theorem eqBook_same (n : Int) (va vb : Value) (l : List Od) (w : World) (ha : RdR Od.vs 6 w va l) (hb : RdR Od.vs 6 w vb l) :
    Calls Try.prog 25 #[.agg #[.int .i64 n, va], .agg #[.int .i64 n, vb]] w fun e w' => e = .returned (.bool true) ∧ Below w.heap.size w w' := by
  have HA := hide ha
  have HB := hide hb
  obtain ⟨aa, ca, rfl, _, _⟩ := ha
  obtain ⟨ab, cb, rfl, _, _⟩ := hb
  have H0 : Hid (Below w.heap.size w ((w.alloc (Obj.cells #[.int .i64 n, .slice aa l.length ca] 40)).alloc (Obj.cells #[.int .i64 n, .slice ab l.length cb] 40))) := ((Below.refl _ _).alloc (Nat.le_refl _) _).alloc (by rw [size_made]; omega) _
  go_enter Try.func25, Try.ntmps25
  go_wp2_with fail
  refine (eqOrderS_same _ _ l _ (rdR_below (unhide HA) (unhide H0) (Nat.le_refl _)) (rdR_below (unhide HB) (unhide H0) (Nat.le_refl _))).mono ?_
  rintro e w1 ⟨rfl, hb1⟩
  have HB1 := hide ((unhide H0).trans (hb1.mono (unhide H0).size))
  clear hb1
  go_wp2_with fail
  go_ret
  exact ⟨rfl, unhide HB1⟩
end Go.Proofs.Yteljmhgpffekgaa
