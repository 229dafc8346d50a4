/-
  An order is added to the tree, proved by walking the function.
-/
import Derived.Test.YthmgkabpcjkieaaVj09
namespace Go.Proofs.Ythmgkabpcjkieaa
open Go.RowKit
set_option linter.unusedVariables false

set_option maxRecDepth 100000 in
set_option maxHeartbeats 400000 in
theorem add_b (b : Nat) (sd : Int) (seq : List Od) (o : Od) (w : World) (h : TreeAt 121 true w b sd seq) (hsd : o.side = sd) (hn : seq.length < 20) (hl : ∀ o' ∈ seq, 0 ≤ o'.left ∧ o'.left ≤ 1000000) (hlo : 0 ≤ o.left ∧ o.left ≤ 1000000) :
    Calls Try.prog 64 #[.pointer (some ⟨b, 0, none⟩), .agg #[.int .i64 o.id, .int .i64 o.side, .int .i64 o.ticks, .int .i64 o.left, .int .i64 o.life, .string o.tag]] w fun e w' =>
      e = .returned (.tuple #[]) ∧ TreeAt 121 true w' b sd (seq ++ [o]) ∧ w.grownBy w' (some b) := by
  obtain ⟨S, t, hT, hi, hq, hlc⟩ := h
  have HI := hide hi
  have HQ := hide hq
  have HT := hide hT
  have HLC := hide hlc
  have HL := hide hl
  have HSD := hide hsd
  have HOC := hide hq.oc
  have hoc' : (S.oc : Int) < 20 := by have := hq.oc; omega
  have e1 : ((S.oc + 1 : Nat) : Int) = (S.oc : Int) + 1 := by omega
  have hb : b ≠ w.heap.size := by have := tm_lt hT; omega
  have hrange : World.rangeAt (w.alloc (Obj.cells #[.int .i64 o.id, .int .i64 o.side, .int .i64 o.ticks, .int .i64 o.left, .int .i64 o.life, .string o.tag] 61)) w.heap.size 0 o.vs := cells_made w o.vs 61
  have hTW : TM 121 (w.alloc (Obj.cells #[.int .i64 o.id, .int .i64 o.side, .int .i64 o.ticks, .int .i64 o.left, .int .i64 o.life, .string o.tag] 61)) b S := tm_block hT (Below.heap_alloc w _ _ (tm_lt hT))
  have c1 := hTW.oc
  have f1 := hTW.fr
  have hT1 := tm_oc hTW (S.oc + 1)
  have hR1 : Hid (World.rangeAt (World.setCell (w.alloc (Obj.cells #[.int .i64 o.id, .int .i64 o.side, .int .i64 o.ticks, .int .i64 o.left, .int .i64 o.life, .string o.tag] 61)) ⟨b, 170, none⟩ (.int .i64 ((S.oc + 1 : Nat) : Int))) w.heap.size 0 o.vs) := fun j u hu => by
    rw [World.cell?_setCell_other _ _ _ _ (fun e => hb (congrArg Addr.block e))]; exact hrange j u hu
  have hG1 : Hid (w.grownBy (World.setCell (w.alloc (Obj.cells #[.int .i64 o.id, .int .i64 o.side, .int .i64 o.ticks, .int .i64 o.left, .int .i64 o.life, .string o.tag] 61)) ⟨b, 170, none⟩ (.int .i64 ((S.oc + 1 : Nat) : Int))) (some b)) := gr_setB (World.grownBy_alloc w (Obj.cells #[.int .i64 o.id, .int .i64 o.side, .int .i64 o.ticks, .int .i64 o.left, .int .i64 o.life, .string o.tag] 61) _) _ _
  have HT1 := hide hT1
  have hs1 : Hid (w.heap.size < (World.heap (World.setCell (w.alloc (Obj.cells #[.int .i64 o.id, .int .i64 o.side, .int .i64 o.ticks, .int .i64 o.left, .int .i64 o.life, .string o.tag] 61)) ⟨b, 170, none⟩ (.int .i64 ((S.oc + 1 : Nat) : Int)))).size) := (by
    have := World.block_lt_of_cell? _ _ (hR1 0 _ rfl)
    exact this)
  clear hi hq hlc hl hsd hT hTW hrange hT1
  go_enter Try.func64, Try.ntmps64
  go_wp2_with fail
  rw [← e1]
  have em : ∃ m, m = S.oc + 1 := ⟨_, rfl⟩
  obtain ⟨m, hm⟩ := em
  rw [← hm] at hR1 hG1 HT1 hs1 ⊢
  generalize hW1 : World.setCell (w.alloc (Obj.cells #[.int .i64 o.id, .int .i64 o.side, .int .i64 o.ticks, .int .i64 o.left, .int .i64 o.life, .string o.tag] 61)) ⟨b, 170, none⟩ (.int .i64 (m : Int)) = W1 at hR1 hG1 HT1 hs1 ⊢
  have HM := hide hm
  have hm21 : (m : Int) < 21 := by omega
  obtain ⟨o0, o1, o2, o3, o4, o5⟩ := od_cells (unhide hR1)
  obtain ⟨q0, q1, q2, q3, q4, q5, q6⟩ := qo_cells ((unhide HT1).qo m (by omega))
  have f2 := (unhide HT1).fr
  have hlc20 : S.lc < 20 := by have := unhide HLC; omega
  have HB := hide hb
  clear hW1 hm e1 c1 f1 hoc' hb
  go_region
  have HT2 := hide (tm_put (unhide HT1) m (by omega) o)
  have HG2 := hide (gr_put (w := W1) (b := b) o m)
  generalize hW2 : (((((((W1.setCell ⟨b, 171 + m * 7, none⟩ (.int .i64 o.id)).setCell ⟨b, 171 + m * 7 + 1, none⟩ (.int .i64 o.side)).setCell ⟨b, 171 + m * 7 + 2, none⟩ (.int .i64 o.ticks)).setCell ⟨b, 171 + m * 7 + 3, none⟩ (.int .i64 o.left)).setCell
      ⟨b, 171 + m * 7 + 4, none⟩ (.int .i64 o.life)).setCell ⟨b, 171 + m * 7 + 5, none⟩ (.string o.tag)).setCell ⟨b, 171 + m * 7 + 6, none⟩ (.int .i64 0)) = W2 at HT2 HG2 ⊢
  clear hW2 o0 o1 o2 o3 o4 o5 q0 q1 q2 q3 q4 q5 q6 f2
  rw [show ({ root := S.root, lc := S.lc, oc := m, nd := S.nd, qo := upd S.qo m ⟨o, 0⟩ } : TS) = S.lay o from by rw [unhide HM]; rfl] at HT2
  have hR2 := hide (range_grown (unhide hR1) (unhide HG2) (unhide hs1) (fun e => unhide HB (Option.some.inj e).symm))
  obtain ⟨o0, o1, o2, o3, o4, o5⟩ := od_cells (unhide hR2)
  have HTI := hide (ti_lay o (unhide HI))
  have HT2d : Hid (TM 121 W2.drew.drew b (S.lay o)) := tm_block (unhide HT2) rfl
  go_wp2_with fail
  go_region_with (go_at_call 81; refine (levelFor_b b (S.lay o) t o W2.drew.drew (unhide HT2d) (unhide HTI) hlc20).mono ?_; rintro e W3 ⟨h, rfl, hend⟩; have HE := hide hend; have hh21 : (h : Int) < 21 := lf_lt hend (unhide HTI) hlc20; clear hend)
  obtain ⟨S3, hT3, hg3, hcase⟩ := unhide HE
  rw [← unhide HSD] at HQ
  obtain ⟨r1, r2, r3, r4, r5, t', r6, r7⟩ := add_ready (unhide HI) (unhide HQ) hcase
  have R4 := hide r4
  have R6 := hide r6
  have R7 := hide r7
  have R23 : Hid ((0 : Int) ≤ (S3.nd h).qty ∧ (S3.nd h).qty ≤ 20000000 ∧ (0 : Int) ≤ (S3.nd h).count ∧ (S3.nd h).count ≤ 20) := by
    have hb := sumL_bound (atK seq o.ticks) (fun o' ho' => unhide HL o' (List.mem_filter.1 ho').1)
    have hle : (atK seq o.ticks).length ≤ seq.length := List.length_filter_le _ _
    rw [r2, r3]
    refine ⟨hb.1, ?_, by omega, by omega⟩
    have := hb.2
    have h20 : ((atK seq o.ticks).length : Int) ≤ 20 := by omega
    omega
  have HT3 := hide hT3
  have HG3 : Hid (W2.grownBy W3 (some b)) := ⟨hg3.os, hg3.tape, hg3.output, hg3.size, hg3.block⟩
  have hR3 := hide (range_grown (unhide hR2) (unhide HG3) (Nat.lt_of_lt_of_le (unhide hs1) (unhide HG2).size) (fun e => unhide HB (Option.some.inj e).symm))
  have hy21 : (S3.nd h).yo < 21 := by omega
  have hm1 : m = 1 + seq.length := by have := unhide HM; have := unhide HOC; omega
  have HM1 := hide hm1
  clear hT3 hg3 hcase r1 r2 r3 r4 r5 r6 r7 o0 o1 o2 o3 o4 o5 hm1 HE
  have hb3 := (unhide HT3).fr
  obtain ⟨n0, n1, n2, n3, n4, n5, n6, n7⟩ := nd_cells ((unhide HT3).nd h (by omega))
  have h21 : h < 21 := by omega
  clear n0 n1 n2 n3 n4 n5
  by_cases hy : (S3.nd h).yo = 0
  · have t5 := tm_nd (unhide HT3) h 6 h21 (by omega) (.int .i64 m) { S3.nd h with el := m } rfl _ rfl
    have t6 := tm_nd t5 h 7 h21 (by omega) (.int .i64 m) { (TS.nd _ h) with yo := m } rfl _ rfl
    simp only [upd_upd, upd_same] at t6
    obtain ⟨-, -, -, -, -, -, -, k7⟩ := nd_cells (t5.nd h h21)
    have f5 := t5.fr
    rw [hy] at n7
    have HG6 := hide (gr_setB (gr_setB (World.grownBy.refl W3 (some b)) (2 + h * 8 + 6) (.int .i64 m)) (2 + h * 8 + 7) (.int .i64 m))
    have HT6 := hide t6
    clear t5 t6
    go_wp2_with fail
    generalize hW6 : (W3.setCell ⟨b, 2 + h * 8 + 6, none⟩ (.int .i64 m)).setCell ⟨b, 2 + h * 8 + 7, none⟩ (.int .i64 m) = W6 at HG6 HT6 ⊢
    clear HT3 hW6
    have f6 := (unhide HT6).fr
    obtain ⟨-, -, m2, m3, -⟩ := nd_cells ((unhide HT6).nd h h21)
    simp only [upd_same] at m2 m3
    have hR6 := range_grown (unhide hR3) (unhide HG6) (Nat.lt_of_lt_of_le (unhide hs1) (Nat.le_trans (unhide HG2).size (unhide HG3).size)) (fun e => unhide HB (Option.some.inj e).symm)
    obtain ⟨-, -, -, x3, -⟩ := od_cells hR6
    obtain ⟨b1, b2, b3, b4⟩ := unhide R23
    have t7 := tm_nd (unhide HT6) h 2 h21 (by omega) (.int .i64 ((S3.nd h).qty + o.left)) { (TS.nd _ h) with qty := (S3.nd h).qty + o.left } rfl _ rfl
    have t8 := tm_nd t7 h 3 h21 (by omega) (.int .i64 ((S3.nd h).count + 1)) { (TS.nd _ h) with count := (S3.nd h).count + 1 } rfl _ rfl
    obtain ⟨-, -, -, y3, -⟩ := nd_cells (t7.nd h h21)
    have f7 := t7.fr
    simp only [upd_upd, upd_same] at t8 y3
    have HT8 := hide t8
    have HG8 := hide (gr_setB (gr_setB (World.grownBy.refl W6 (some b)) (2 + h * 8 + 2) (.int .i64 ((S3.nd h).qty + o.left))) (2 + h * 8 + 3) (.int .i64 ((S3.nd h).count + 1)))
    have hsum : wrap64 ((S3.nd h).qty + o.left) = (S3.nd h).qty + o.left := by unfold wrap64; omega
    clear t7 t8 hR6
    go_region
    try simp only [IntKind.wrap_i64]
    try rw [show (IntKind.i64.wrap ((S3.nd h).qty + o.left)) = (S3.nd h).qty + o.left from by rw [IntKind.wrap_i64]; exact hsum]
    generalize hW7 : W6.setCell ⟨b, 2 + h * 8 + 2, none⟩ (.int .i64 ((S3.nd h).qty + o.left)) = W7 at *
    go_wp2_with fail
    go_end0
    have HS8 : Hid (_ = S3.link h m o.left) := link_eq0 S3 h m o.left hy
    rw [unhide HS8] at HT8
    rw [unhide HM1] at HT8
    refine ⟨rfl, ?_, ?_⟩
    · rw [← unhide HSD]
      refine ⟨_, t', tm_block (unhide HT8) rfl, unhide R6, unhide R7, ?_⟩
      have h1 := unhide R4
      have h2 := unhide HLC
      show S3.lc ≤ _
      simp; omega
    · exact gr_drewM (((((unhide hG1).trans (unhide HG2)).trans (unhide HG3)).trans (unhide HG6)).trans (unhide HG8)) rfl rfl rfl rfl
  · have t5 := tm_qo (unhide HT3) (S3.nd h).yo 6 hy21 (by omega) (.int .i64 m) { S3.qo (S3.nd h).yo with yg := m } rfl _ rfl
    have t6 := tm_nd t5 h 7 h21 (by omega) (.int .i64 m) { (TS.nd _ h) with yo := m } rfl _ rfl
    obtain ⟨-, -, -, -, -, -, -, k7⟩ := nd_cells (t5.nd h h21)
    obtain ⟨-, -, -, -, -, -, q6⟩ := qo_cells ((unhide HT3).qo (S3.nd h).yo hy21)
    have f5 := t5.fr
    have hyi : ((S3.nd h).yo : Int) < 21 := by omega
    have hy0 : ¬ (((S3.nd h).yo : Int) = 0) := by omega
    have HG6 := hide (gr_setB (gr_setB (World.grownBy.refl W3 (some b)) (171 + (S3.nd h).yo * 7 + 6) (.int .i64 m)) (2 + h * 8 + 7) (.int .i64 m))
    have HT6 := hide t6
    clear t5 t6
    go_wp2_with fail
    go_region
    go_wp2_with fail
    generalize hW6 : (W3.setCell ⟨b, 171 + (S3.nd h).yo * 7 + 6, none⟩ (.int .i64 m)).setCell ⟨b, 2 + h * 8 + 7, none⟩ (.int .i64 m) = W6 at HG6 HT6 ⊢
    clear HT3 hW6
    have f6 := (unhide HT6).fr
    obtain ⟨-, -, m2, m3, -⟩ := nd_cells ((unhide HT6).nd h h21)
    simp only [upd_same] at m2 m3
    have hR6 := range_grown (unhide hR3) (unhide HG6) (Nat.lt_of_lt_of_le (unhide hs1) (Nat.le_trans (unhide HG2).size (unhide HG3).size)) (fun e => unhide HB (Option.some.inj e).symm)
    obtain ⟨-, -, -, x3, -⟩ := od_cells hR6
    obtain ⟨b1, b2, b3, b4⟩ := unhide R23
    have t7 := tm_nd (unhide HT6) h 2 h21 (by omega) (.int .i64 ((S3.nd h).qty + o.left)) { (TS.nd _ h) with qty := (S3.nd h).qty + o.left } rfl _ rfl
    have t8 := tm_nd t7 h 3 h21 (by omega) (.int .i64 ((S3.nd h).count + 1)) { (TS.nd _ h) with count := (S3.nd h).count + 1 } rfl _ rfl
    obtain ⟨-, -, -, y3, -⟩ := nd_cells (t7.nd h h21)
    have f7 := t7.fr
    simp only [upd_upd, upd_same] at t8 y3
    have HT8 := hide t8
    have HG8 := hide (gr_setB (gr_setB (World.grownBy.refl W6 (some b)) (2 + h * 8 + 2) (.int .i64 ((S3.nd h).qty + o.left))) (2 + h * 8 + 3) (.int .i64 ((S3.nd h).count + 1)))
    have hsum : wrap64 ((S3.nd h).qty + o.left) = (S3.nd h).qty + o.left := by unfold wrap64; omega
    clear t7 t8 hR6
    go_region
    try simp only [IntKind.wrap_i64]
    try rw [show (IntKind.i64.wrap ((S3.nd h).qty + o.left)) = (S3.nd h).qty + o.left from by rw [IntKind.wrap_i64]; exact hsum]
    generalize hW7 : W6.setCell ⟨b, 2 + h * 8 + 2, none⟩ (.int .i64 ((S3.nd h).qty + o.left)) = W7 at *
    go_wp2_with fail
    go_end0
    have HS8 : Hid (_ = S3.link h m o.left) := link_eq1 S3 h m o.left hy
    rw [unhide HS8] at HT8
    rw [unhide HM1] at HT8
    refine ⟨rfl, ?_, ?_⟩
    · rw [← unhide HSD]
      refine ⟨_, t', tm_block (unhide HT8) rfl, unhide R6, unhide R7, ?_⟩
      have h1 := unhide R4
      have h2 := unhide HLC
      show S3.lc ≤ _
      simp; omega
    · exact gr_drewM (((((unhide hG1).trans (unhide HG2)).trans (unhide HG3)).trans (unhide HG6)).trans (unhide HG8)) rfl rfl rfl rfl
end Go.Proofs.Ythmgkabpcjkieaa
namespace Go.Proofs.Ythmgkabpcjkieaa
open Go.RowKit
set_option linter.unusedVariables false

theorem zNd_b : ∀ i, i < 21 → (Try.zeroCells121.toList.drop (2 + i * 8)).take 8 = zNd.vs
  | 0, _ => by kernel_rfl
  | 1, _ => by kernel_rfl
  | 2, _ => by kernel_rfl
  | 3, _ => by kernel_rfl
  | 4, _ => by kernel_rfl
  | 5, _ => by kernel_rfl
  | 6, _ => by kernel_rfl
  | 7, _ => by kernel_rfl
  | 8, _ => by kernel_rfl
  | 9, _ => by kernel_rfl
  | 10, _ => by kernel_rfl
  | 11, _ => by kernel_rfl
  | 12, _ => by kernel_rfl
  | 13, _ => by kernel_rfl
  | 14, _ => by kernel_rfl
  | 15, _ => by kernel_rfl
  | 16, _ => by kernel_rfl
  | 17, _ => by kernel_rfl
  | 18, _ => by kernel_rfl
  | 19, _ => by kernel_rfl
  | 20, _ => by kernel_rfl
  | n + 21, h => absurd h (by omega)
theorem zQo_b : ∀ i, i < 21 → (Try.zeroCells121.toList.drop (171 + i * 7)).take 7 = zQo.vs
  | 0, _ => by kernel_rfl
  | 1, _ => by kernel_rfl
  | 2, _ => by kernel_rfl
  | 3, _ => by kernel_rfl
  | 4, _ => by kernel_rfl
  | 5, _ => by kernel_rfl
  | 6, _ => by kernel_rfl
  | 7, _ => by kernel_rfl
  | 8, _ => by kernel_rfl
  | 9, _ => by kernel_rfl
  | 10, _ => by kernel_rfl
  | 11, _ => by kernel_rfl
  | 12, _ => by kernel_rfl
  | 13, _ => by kernel_rfl
  | 14, _ => by kernel_rfl
  | 15, _ => by kernel_rfl
  | 16, _ => by kernel_rfl
  | 17, _ => by kernel_rfl
  | 18, _ => by kernel_rfl
  | 19, _ => by kernel_rfl
  | 20, _ => by kernel_rfl
  | n + 21, h => absurd h (by omega)
theorem zTree_b (w : World) (sd : Int) : TreeAt 121 true (w.alloc (Obj.cells Try.zeroCells121 121)) w.heap.size sd [] :=
  ⟨zTS, .nil, tm_zero w _ _ (by kernel_rfl) (by kernel_rfl) zNd_b (by kernel_rfl) zQo_b, ti_zero _, qi_zero _, Nat.le_refl _⟩
set_option maxRecDepth 100000 in
set_option maxHeartbeats 400000 in
theorem plant_b (v : Value) (l : List Od) (sd : Int) (w : World) (hr : RdR Od.vs 6 w v l) (hn : l.length ≤ 20) (hl : ∀ o' ∈ l, 0 ≤ o'.left ∧ o'.left ≤ 1000000) :
    Calls Try.prog 34 #[v, .int .i64 sd] w fun e w' =>
      e = .returned (.pointer (some ⟨w.heap.size, 0, none⟩)) ∧ TreeAt 121 true w' w.heap.size sd (ofSide l sd) ∧ Below w.heap.size w w' := by
  obtain ⟨a, cap, rfl, hlen, hc⟩ := hr
  have hcell : ∀ (k : Nat) (c : Od), l[k]? = some c → ∃ b off, a = some ⟨b, off, none⟩ ∧ b < w.heap.size ∧ w.rangeAt b (off + k * 6) c.vs := by
    intro k c hk
    obtain ⟨b, off, h1, h2, h3⟩ := hc (by intro h; rw [h] at hk; simp at hk)
    exact ⟨b, off, h1, h2, h3 k c hk⟩
  have HC := hide hcell
  have HL := hide hl
  have HN := hide hn
  clear hcell hc hl
  have HZ := hide (zTree_b w sd)
  have HB0 : Hid (Below w.heap.size w (w.alloc (Obj.cells Try.zeroCells121 121))) := (Below.refl _ _).alloc (Nat.le_refl _) _
  go_enter Try.func34, Try.ntmps34
  go_wp2_with fail
  generalize (w.alloc (Obj.cells Try.zeroCells121 121)) = W0 at HZ HB0 ⊢
  go_loopw [11] (fun i wr => ∃ k : Nat, k ≤ l.length ∧ i = .int .i64 k ∧ TreeAt 121 true wr w.heap.size sd (ofSide (l.take k) sd) ∧ Below w.heap.size w wr) (fun i _ => l.length - (intOf i).toNat)
  case atStart => exact ⟨0, Nat.zero_le _, rfl, unhide HZ, unhide HB0⟩
  case round =>
    obtain ⟨k, hk, rfl, htr, hbel⟩ := hrel
    have HTR := hide htr
    have HBE := hide hbel
    clear htr hbel HZ HB0
    by_cases hlt : k < l.length
    · obtain ⟨c, hkc⟩ : ∃ c, l[k]? = some c := ⟨_, List.getElem?_eq_getElem hlt⟩
      have HKC := hide hkc
      obtain ⟨b, off, rfl, hb, hcl⟩ := unhide HC k c hkc
      obtain ⟨g0, g1, g2, g3, g4, g5⟩ := od_cells (range_below hcl (unhide HBE) hb)
      have hlt' : (k : Int) < l.length := by omega
      clear hkc hcl hb
      by_cases hsd : c.side = sd
      · have HIT : Hid (ofSide (l.take (k + 1)) c.side = ofSide (l.take k) c.side ++ [c]) := ofSide_snoc l k c (unhide HKC)
        subst hsd
        have hlk : (ofSide (l.take k) c.side).length < 20 := by
          have h1 : (ofSide (l.take k) c.side).length ≤ (l.take k).length := List.length_filter_le _ _
          have h2 : (l.take k).length ≤ k := List.length_take_le _ _
          have h3 := unhide HN
          omega
        have HLK := hide hlk
        have hcl := unhide HL c (List.mem_of_getElem? (unhide HKC))
        have HCL := hide hcl
        clear hlk hcl
        go_wp2_with fail
        refine (add_b w.heap.size c.side (ofSide (l.take k) c.side) c _ (treeAt_block (unhide HTR) (Below.heap_alloc wr _ _ (treeAt_lt (unhide HTR)))) rfl (unhide HLK) (fun o' ho' => unhide HL o' (List.mem_of_mem_take (List.mem_filter.1 ho').1)) (unhide HCL)).mono ?_
        rintro e w2 ⟨rfl, htr2, hg2⟩
        rw [← unhide HIT] at htr2
        have HTR2 := hide htr2
        have HB2 := hide (((unhide HBE).alloc (unhide HBE).size _).grown hg2 (by rw [size_made]; have := (unhide HBE).size; omega) (fun g hg => by obtain rfl := Option.some.inj hg; exact Nat.le_refl _))
        clear htr2 hg2
        go_wp2_with fail
        go_roundw
        case rel => exact ⟨k + 1, by omega, by go_num, unhide HTR2, unhide HB2⟩
        case measure => simp [intOf]; omega
      · have HIT : Hid (ofSide (l.take (k + 1)) sd = ofSide (l.take k) sd) := ofSide_skip l k c (unhide HKC) hsd
        go_wp2_with fail
        go_roundw
        case rel =>
          refine ⟨k + 1, by omega, by go_num, ?_, ?_⟩
          · rw [unhide HIT]; exact treeAt_block (unhide HTR) (Below.heap_alloc wr _ _ (treeAt_lt (unhide HTR)))
          · exact (unhide HBE).alloc (unhide HBE).size _
        case measure => simp [intOf]; omega
    · go_wp2_with fail
      go_ret
      have h := unhide HTR
      rw [List.take_of_length_le (by omega)] at h
      exact ⟨rfl, h, unhide HBE⟩
end Go.Proofs.Ythmgkabpcjkieaa
namespace Go.Proofs.Ythmgkabpcjkieaa
open Go.RowKit
set_option linter.unusedVariables false

theorem infoH_b : (Try.prog.info? 113).map (fun i => (i.zero, i.size, i.bytes)) = some (some (.int .i64 0), 1, 8) := by kernel_rfl
theorem cellsH_b (w : World) (cs : List Value) (t : TypeId) (j : Nat) (u : Value) (h : cs[j]? = some u) : (w.alloc (Obj.cells cs.toArray t)).cell? ((⟨w.heap.size, 0, none⟩ : Addr).add j) = some u := by
  rw [Addr.add_mid, cell_of_row _ w.heap.size (0 + j) cs.toArray t (0, 0) (heap_alloc_new w _)]
  simpa using h
def hval_b (h : Nat) : Value := .int .i64 h
set_option maxRecDepth 100000 in
set_option maxHeartbeats 400000 in
theorem ranked_b (S : TS) (b B : Nat) (hbB : b < B) : ∀ (t : Tr) (w : World) (v : Value) (done : List Nat) (part : Nat), TM 121 w b S → Rep S.nd t part → (∀ h ∈ t.hs, h < 21) → B ≤ w.heap.size →
    w.ownsRow B 113 1 v done.length (done.map hval_b) → done.length + t.hs.length ≤ 1000 →
    Calls Try.prog 80 #[.pointer (some ⟨b, 0, none⟩), v, .int .i64 part] w fun e w' =>
      ∃ v', e = .returned v' ∧ w'.ownsRow B 113 1 v' (done ++ t.hs).length ((done ++ t.hs).map hval_b) ∧ Below B w w'
  | .nil, w, v, done, part, hT, hrep, hh, hB, hown, hlen => by
    obtain rfl : part = 0 := hrep
    have HO := hide hown
    clear hown hT hh
    go_enter Try.func80, Try.ntmps80
    go_wp2_with fail
    go_ret
    exact ⟨v, rfl, by simpa [Tr.hs] using unhide HO, Below.refl _ _⟩
  | .node h l r, w, v, done, part, hT, hrep, hh, hB, hown, hlen => by
    obtain ⟨rfl, h0, hl, hr⟩ := hrep
    have HO := hide hown
    have HT := hide hT
    have HL := hide hl
    have HR := hide hr
    have hlen' : done.length + (l.hs.length + 1 + r.hs.length) ≤ 1000 := by simp [Tr.hs] at hlen; omega
    have h21 := hh part (by simp [Tr.hs])
    have HHL := hide (fun a (ha : a ∈ l.hs) => hh a (by simp [Tr.hs, ha]))
    have HHR := hide (fun a (ha : a ∈ r.hs) => hh a (by simp [Tr.hs, ha]))
    have h21' : (part : Int) < 21 := by omega
    have h0' : ¬ ((part : Int) = 0) := by omega
    have HLEN := hide hlen'
    obtain ⟨-, -, -, -, n4, -⟩ := nd_cells (hT.nd part h21)
    obtain ⟨i0, hi, hz0, hz1, hz2⟩ := info_parts infoH_b
    clear hown hT hh hl hr hlen hlen'
    go_enter Try.func80, Try.ntmps80
    go_wp2_with fail
    refine (ranked_b S b B hbB l w v done _ (unhide HT) (unhide HL) (unhide HHL) hB (unhide HO) (by have := unhide HLEN; omega)).mono ?_
    rintro e w1 ⟨v1, rfl, ho1, hb1⟩
    have HO1 := hide ho1
    have HB1 := hide hb1
    have hsz1 := hb1.size
    have hla : (done ++ l.hs).length ≤ 999 := by have := unhide HLEN; rw [List.length_append]; omega
    obtain ⟨-, -, -, -, -, n5, -⟩ := nd_cells ((tm_below (unhide HT) hb1 hbB).nd part h21)
    clear ho1 hb1 n4
    go_wp2_with (at_builtin; go_must (refine wpList_append_own _ rfl _ _ 134 rfl B 113 i0 _ 1 8 Try.underlying134 hi hz0 hz1 hz2 rfl (by decide) v1 (done ++ l.hs).length ((done ++ l.hs).map hval_b) rfl ((unhide HO1).alloc _) ⟨w1.heap.size, 0, none⟩ 1 1 [hval_b part] rfl rfl (cellsH_b w1 _ _) (by simp [Value.oneCell', hval_b]) (by unfold maxLen; omega) (by omega) (by simp at hla ⊢; omega) ?_); intro v2 w2 hown2 hg2 _; have HO2 := hide hown2; have HB2 := hide (((unhide HB1).alloc (Nat.le_trans hB hsz1) _).grown hg2 (by rw [size_made]; omega) (fun k hk => ((unhide HO1).lt k hk).1)); have m5 := (nd_cells ((tm_below (unhide HT) (unhide HB2) hbB).nd part h21)).2.2.2.2.2.1; clear hown2 hg2 n5)
    have hsz2 := (unhide HB2).size
    refine (ranked_b S b B hbB r w2 v2 (done ++ l.hs ++ [part]) _ (tm_below (unhide HT) (unhide HB2) hbB) (unhide HR) (unhide HHR) (by omega) (by simpa [Nat.add_assoc] using unhide HO2) (by have := unhide HLEN; simp; omega)).mono ?_
    rintro e w3 ⟨v3, rfl, ho3, hb3⟩
    have HO3 := hide ho3
    have HB3 := hide ((unhide HB2).trans hb3)
    clear ho3 hb3 m5
    go_wp2_with fail
    go_ret
    exact ⟨v3, rfl, by simpa [Tr.hs] using unhide HO3, unhide HB3⟩
end Go.Proofs.Ythmgkabpcjkieaa
