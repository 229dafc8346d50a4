/-
  The figures of totals and a book, by the model: proved by walking the function.
-/
import Derived.Test.YthmgkabpcjkieaaVj43
namespace Go.Proofs.Ythmgkabpcjkieaa
open Go.RowKit
set_option linter.unusedVariables false

theorem nanOf_nan (W : World) : nanB (nanOf W) = true := nan_drawn _
theorem none_any (w : World) : Calls Try.prog 20 #[] w fun e w' => ∃ y n, e = .returned (.float .f64 y) ∧ nanB y = true ∧ w' = w.drewN n := by
  have h := zero_zero
  have HN := hide (nanOf_nan w)
  go_enter Try.func20, Try.ntmps20
  go_wp2_with fail
  refine (zero_any _).mono ?_
  rintro e w1 ⟨rfl, rfl⟩
  go_wp2_with fail
  refine (zero_any _).mono ?_
  rintro e w1 ⟨rfl, rfl⟩
  go_wp2_with fail
  go_ret
  exact ⟨_, 1, rfl, unhide HN, rfl⟩
theorem priceS_any (n : Int) (w : World) :
    Calls Try.prog 22 #[.int .i64 n] w fun e w' => e = .returned (.float .f64 (qtr n)) ∧ w' = w := by
  have hq := qtr_run n
  go_enter Try.func22, Try.ntmps22
  go_wp2_with fail
  go_ret
  exact ⟨rfl, rfl⟩
/-- The three blocks, and a fourth that holds the figures so far. -/
structure Fs (w W : World) (n3 : Nat) (ts bk zs fs : List Value) : Prop where
  g : Fg w W ts bk zs
  f : Bx W n3 fs
  l : w.heap.size + 3 ≤ n3
  z : n3 < W.heap.size
theorem fs_below {w W V : World} {n3 : Nat} {ts bk zs fs : List Value} (h : Fs w W n3 ts bk zs fs) (hb : Below W.heap.size W V) : Fs w V n3 ts bk zs fs :=
  ⟨fg_below h.g hb, bx_below h.f hb h.z, h.l, Nat.lt_of_lt_of_le h.z hb.size⟩
theorem fs_set {w W : World} {n3 j : Nat} {ts bk zs fs : List Value} {u : Value} (h : Fs w W n3 ts bk zs fs) (hj : j < fs.length) : Fs w (W.setCell ⟨n3, j, none⟩ u) n3 ts bk zs (fs.set j u) := by
  have hl := h.l
  exact ⟨⟨bx_other h.g.t (by omega), bx_other h.g.k (by omega), bx_other h.g.o (by omega), h.g.b.setCell (p := ⟨n3, j, none⟩) (show w.heap.size ≤ n3 by omega) _, by simp only [World.setCell, Array.size_modify]; exact h.g.z⟩, bx_set h.f hj, hl, by simp only [World.setCell, Array.size_modify]; exact h.z⟩
theorem fs_drewN {w W : World} {n3 : Nat} {ts bk zs fs : List Value} (h : Fs w W n3 ts bk zs fs) (n : Nat) : Fs w (W.drewN n) n3 ts bk zs fs := fs_below h (below_drewN' (Below.refl _ _) n)
theorem ofSide_take {l : List Od} {k : Nat} {o : Od} (h : l[k]? = some o) (sd : Int) : sumL (ofSide (l.take (k + 1)) sd) = sumL (ofSide (l.take k) sd) + (if o.side = sd then o.left else 0) := by
  rw [List.take_add_one, h]
  unfold ofSide
  rw [show (some o).toList = [o] from rfl, List.filter_append]
  by_cases e : o.side = sd
  · rw [if_pos e, List.filter_cons_of_pos (by simpa using e), List.filter_nil, sumL_snoc]
  · rw [if_neg e, List.filter_cons_of_neg (by simpa using e), List.filter_nil, List.append_nil]; omega
theorem okF_sides {next : Int} {l : List Od} (h : okS next l = true) : ∀ o ∈ l, o.side = 1 ∨ o.side = 2 := by
  simp only [okS, Bool.and_eq_true, decide_eq_true_eq] at h
  obtain ⟨⟨⟨_, h2⟩, h3⟩, _⟩ := h
  intro o ho
  have := allR_sides h3 o ho
  simp [ordB, betB] at this
  omega
theorem hd_none {s : Bool} {l : List Od} {sd : Int} (hr : Rising l) (h : ∀ o ∈ l, o.side ≠ sd) : hdF (quOf s (ofSide l sd)) = false := by
  rcases front_head (s := s) (sd := sd) hr with ⟨h1, _⟩ | ⟨i, o, h1, hf⟩
  · simp [hdF, h1]
  · exact absurd hf.2.1 (h o (List.mem_of_getElem? hf.1))
theorem hd_some {s : Bool} {l : List Od} {sd : Int} (hr : Rising l) {i : Nat} {o : Od} (h : IsFront s l sd i o) : hdF (quOf s (ofSide l sd)) = true ∧ hdO (quOf s (ofSide l sd)) = o := by
  rcases front_head (s := s) (sd := sd) hr with ⟨h1, hn⟩ | ⟨j, o', h1, hf⟩
  · exact absurd h.2.1 (hn o (List.mem_of_getElem? h.1))
  · obtain ⟨_, rfl⟩ := front_unique h hf
    simp [hdF, hdO, h1]
set_option maxRecDepth 100000 in
set_option maxHeartbeats 6400000 in
theorem specFig_ok (ta tb tc td te tf tg th next : Int) (v : Value) (l : List Od) (w : World) (hr : RdR Od.vs 6 w v l) (hg : ∀ c ∈ l, c.tag.size ≤ maxLen) (hok : okS next l = true) (hte : 0 ≤ te) (htf : 0 ≤ tf) :
    Calls Try.prog 7 #[.agg #[.int .i64 ta, .int .i64 tb, .int .i64 tc, .int .i64 td, .int .i64 te, .int .i64 tf, .int .i64 tg, .int .i64 th], .agg #[.int .i64 next, v]] w fun e w' => ∃ x m s y, e = .returned (.tuple #[.agg #[.float .f64 x, .float .f64 m, .float .f64 s, .float .f64 y], .int .i64 0]) ∧ HasF (vwO tf te) x ∧ HasF (mdO (quOf true (ofSide l 1)) (quOf false (ofSide l 2))) m ∧ HasF (spO (quOf true (ofSide l 1)) (quOf false (ofSide l 2))) s ∧ HasF (tlO (sumL (ofSide l 1)) (sumL (ofSide l 2))) y ∧ Below w.heap.size w w' := by
  have HR := hide hr
  have HOK := hide (fun W h => specBookOK_any next v l W h hg)
  rw [hok] at HOK
  obtain ⟨h2, hri, hlb⟩ := okF_left hok
  have HLB := hide hlb
  have HRI := hide hri
  have HSD := hide (okF_sides hok)
  obtain ⟨a, cap, rfl, _, _⟩ := hr
  have HM := hide (fg_made w [.int .i64 ta, .int .i64 tb, .int .i64 tc, .int .i64 td, .int .i64 te, .int .i64 tf, .int .i64 tg, .int .i64 th] [.int .i64 next, .slice a l.length cap] [.float .f64 0, .float .f64 0, .float .f64 0, .float .f64 0] 28 26 37)
  have hsf := sflF
  have hq4 := qtr_run tf
  have hte' : ¬ te < 0 := by omega
  have htf' : ¬ tf < 0 := by omega
  clear hg hlb hok hri
  go_enter Try.func7, Try.ntmps7
  go_wp2_with fail
  change Calls _ _ _ (((w.alloc (Obj.cells #[.int .i64 ta, .int .i64 tb, .int .i64 tc, .int .i64 td, .int .i64 te, .int .i64 tf, .int .i64 tg, .int .i64 th] 28)).alloc (Obj.cells #[.int .i64 next, .slice a l.length cap] 26)).alloc (Obj.cells #[.float .f64 0, .float .f64 0, .float .f64 0, .float .f64 0] 37)) _
  generalize (((w.alloc (Obj.cells #[.int .i64 ta, .int .i64 tb, .int .i64 tc, .int .i64 td, .int .i64 te, .int .i64 tf, .int .i64 tg, .int .i64 th] 28)).alloc (Obj.cells #[.int .i64 next, .slice a l.length cap] 26)).alloc (Obj.cells #[.float .f64 0, .float .f64 0, .float .f64 0, .float .f64 0] 37)) = X at HM ⊢
  have HM : Hid (Fg w X [.int .i64 ta, .int .i64 tb, .int .i64 tc, .int .i64 td, .int .i64 te, .int .i64 tf, .int .i64 tg, .int .i64 th] [.int .i64 next, .slice a l.length cap] [.float .f64 0, .float .f64 0, .float .f64 0, .float .f64 0]) := unhide HM
  refine (unhide HOK X (rdR_below (unhide HR) (unhide HM).b (Nat.le_refl _))).mono ?_
  rintro e wr ⟨rfl, hbW⟩
  have HF := hide (fg_below (unhide HM) hbW)
  clear hbW HM HOK
  have HA := hide ((Below.refl wr.heap.size wr).alloc (Nat.le_refl _) (Obj.cells #[.float .f64 0, .float .f64 0, .float .f64 0, .float .f64 0] 37))
  have HFS : Hid (Fs w (wr.alloc (Obj.cells #[.float .f64 0, .float .f64 0, .float .f64 0, .float .f64 0] 37)) wr.heap.size [.int .i64 ta, .int .i64 tb, .int .i64 tc, .int .i64 td, .int .i64 te, .int .i64 tf, .int .i64 tg, .int .i64 th] [.int .i64 next, .slice a l.length cap] [.float .f64 0, .float .f64 0, .float .f64 0, .float .f64 0] [.float .f64 0, .float .f64 0, .float .f64 0, .float .f64 0]) := ⟨fg_below (unhide HF) (unhide HA), bx_made wr [.float .f64 0, .float .f64 0, .float .f64 0, .float .f64 0] 37, (unhide HF).z, by simp⟩
  have c5 := bx_cell (unhide HFS).g.t 5 rfl
  have c4 := bx_cell (unhide HFS).g.t 4 rfl
  have k4 : wr.cell? ⟨w.heap.size, 4, none⟩ = some (.int .i64 te) := bx_cell (unhide HF).t 4 rfl
  have k5 : wr.cell? ⟨w.heap.size, 5, none⟩ = some (.int .i64 tf) := bx_cell (unhide HF).t 5 rfl
  have k1 : wr.cell? ⟨w.heap.size + 1, 1, none⟩ = some (.slice a l.length cap) := bx_cell (unhide HF).k 1 rfl
  have b1 := bx_cell (unhide HFS).g.k 1 rfl
  obtain ⟨x1, m1, r1, z1⟩ := divH _ _ _ _ (wr.alloc (Obj.cells #[.float .f64 0, .float .f64 0, .float .f64 0, .float .f64 0] 37)) (has_some (qtr tf)) (has_some (floatOfInt .f64 te))
  have Z1 : Hid (HasF (vwO tf te) x1) := z1
  clear z1
  go_wp2_with fail
  have HFS1 : Hid (Fs w (((wr.alloc (Obj.cells #[.float .f64 0, .float .f64 0, .float .f64 0, .float .f64 0] 37)).drewN m1).setCell ⟨wr.heap.size, 0, none⟩ (.float .f64 x1)) wr.heap.size [.int .i64 ta, .int .i64 tb, .int .i64 tc, .int .i64 td, .int .i64 te, .int .i64 tf, .int .i64 tg, .int .i64 th] [.int .i64 next, .slice a l.length cap] [.float .f64 0, .float .f64 0, .float .f64 0, .float .f64 0] [.float .f64 x1, .float .f64 0, .float .f64 0, .float .f64 0]) := fs_set (j := 0) (u := .float .f64 x1) (fs_drewN (unhide HFS) m1) (by simp)
  generalize ((wr.alloc (Obj.cells #[.float .f64 0, .float .f64 0, .float .f64 0, .float .f64 0] 37)).drewN m1).setCell ⟨wr.heap.size, 0, none⟩ (.float .f64 x1) = V1 at HFS1 ⊢
  clear HFS HA c4 c5 b1 k1 k4 k5 r1 HF
  generalize wr.heap.size = n3 at HFS1 ⊢
  refine (l03Front_any _ l 1 V1 (rdR_below (unhide HR) (unhide HFS1).g.b (Nat.le_refl _)) (unhide HRI) (by omega)).mono ?_
  rintro e V2 ⟨kb, rfl, hfb, hg2⟩
  have HFS2 := hide (fs_below (unhide HFS1) (gr_below' hg2 (fun g h => by cases h) (Nat.le_refl _)))
  have HFB := hide (frPre_end hfb)
  clear hfb hg2 HFS1
  have b1 : V2.cell? ⟨w.heap.size + 1, 1, none⟩ = some (.slice a l.length cap) := bx_cell (unhide HFS2).g.k 1 rfl
  go_wp2_with fail
  refine (l03Front_any _ l 2 V2 (rdR_below (unhide HR) (unhide HFS2).g.b (Nat.le_refl _)) (unhide HRI) (by omega)).mono ?_
  rintro e V3 ⟨kc, rfl, hfb, hg2⟩
  have HFS3 := hide (fs_below (unhide HFS2) (gr_below' hg2 (fun g h => by cases h) (Nat.le_refl _)))
  have HFC := hide (frPre_end hfb)
  clear hfb hg2 HFS2 b1
  have hl3 := (unhide HFS3).l
  have b1 : V3.cell? ⟨w.heap.size + 1, 1, none⟩ = some (.slice a l.length cap) := bx_cell (unhide HFS3).g.k 1 rfl
  have y1 : V3.cell? ⟨n3, 1, none⟩ = some (.float .f64 0) := bx_cell (unhide HFS3).f 1 rfl
  have q1 : V3.frozen? ⟨n3, 1, none⟩ = false := bx_free (unhide HFS3).f 1 (by simp)
  have y2 : V3.cell? ⟨n3, 2, none⟩ = some (.float .f64 0) := bx_cell (unhide HFS3).f 2 rfl
  have q2 : V3.frozen? ⟨n3, 2, none⟩ = false := bx_free (unhide HFS3).f 2 (by simp)
  have h10 := one_zero
  have HTAIL : Hid (∀ (W : World) (m s : Nat), Fs w W n3 [.int .i64 ta, .int .i64 tb, .int .i64 tc, .int .i64 td, .int .i64 te, .int .i64 tf, .int .i64 tg, .int .i64 th] [.int .i64 next, .slice a l.length cap] [.float .f64 0, .float .f64 0, .float .f64 0, .float .f64 0] [.float .f64 x1, .float .f64 m, .float .f64 s, .float .f64 0] → True) := fun _ _ _ _ => trivial
  rcases unhide HFB with ⟨rfl, hno⟩ | ⟨i1, o1, rfl, hi1, hf1⟩
  · have HNO : Hid (¬ (hdF (quOf true (ofSide l 1)) = true ∧ hdF (quOf false (ofSide l 2)) = true)) := fun h => by rw [hd_none (unhide HRI) hno] at h; exact absurd h.1 (by decide)
    clear hno HFB
    rcases unhide HFC with ⟨rfl, _⟩ | ⟨i2, o2, rfl, hi2, _⟩
    · clear HFC
      have hi0 : ∀ i : Nat, ¬ (i : Int) < 0 := fun i => by omega
      go_wp2_with fail
      refine (none_any _).mono ?_
      rintro e V4 ⟨ym, mm, rfl, hym, rfl⟩
      have HYM := hide hym
      clear hym
      go_wp2_with fail
      refine (zero_any _).mono ?_
      rintro e V4 ⟨rfl, rfl⟩
      go_wp2_with fail
      have HFS4 : Hid (Fs w (((V3.drewN mm).setCell ⟨n3, 1, none⟩ (.float .f64 ym)).setCell ⟨n3, 2, none⟩ (.float .f64 9218868437227405312)) n3 [.int .i64 ta, .int .i64 tb, .int .i64 tc, .int .i64 td, .int .i64 te, .int .i64 tf, .int .i64 tg, .int .i64 th] [.int .i64 next, .slice a l.length cap] [.float .f64 0, .float .f64 0, .float .f64 0, .float .f64 0] [.float .f64 x1, .float .f64 ym, .float .f64 9218868437227405312, .float .f64 0]) := fs_set (j := 2) (u := .float .f64 9218868437227405312) (fs_set (j := 1) (u := .float .f64 ym) (fs_drewN (unhide HFS3) mm) (by simp)) (by simp)
      generalize ((V3.drewN mm).setCell ⟨n3, 1, none⟩ (.float .f64 ym)).setCell ⟨n3, 2, none⟩ (.float .f64 9218868437227405312) = W at HFS4 ⊢
      have HMD : Hid (HasF (mdO (quOf true (ofSide l 1)) (quOf false (ofSide l 2))) ym) := by
        have : mdO (quOf true (ofSide l 1)) (quOf false (ofSide l 2)) = none := if_neg (unhide HNO)
        have h : HasF (mdO (quOf true (ofSide l 1)) (quOf false (ofSide l 2))) ym := by rw [this]; exact ⟨fun r h => by simp at h, fun _ => unhide HYM⟩
        exact h
      have HSP : Hid (HasF (spO (quOf true (ofSide l 1)) (quOf false (ofSide l 2))) 9218868437227405312) := by
        have : spO (quOf true (ofSide l 1)) (quOf false (ofSide l 2)) = some 9218868437227405312 := if_neg (unhide HNO)
        have h : HasF (spO (quOf true (ofSide l 1)) (quOf false (ofSide l 2))) 9218868437227405312 := by rw [this]; exact has_some _
        exact h
      generalize 9218868437227405312 = ys at HFS4 HSP
      clear HNO HYM HFS3 b1 y1 q1 y2 q2 h10 HTAIL hi0
      have hcell : ∀ (k : Nat) (c : Od), l[k]? = some c → ∃ b9 o9, a = some ⟨b9, o9, none⟩ ∧ W.rangeAt b9 (o9 + k * 6) c.vs := by
        intro k c hk
        obtain ⟨a', cap', ea, _, hcc⟩ := unhide HR
        obtain ⟨b9, o9, h1, h2, h3⟩ := hcc (by intro h; rw [h] at hk; simp at hk)
        have ea' : a = a' := by
          have := ea
          simp only [Value.slice.injEq, true_and] at this
          exact this.1
        exact ⟨b9, o9, ea'.trans h1, range_below (h3 k c hk) (unhide HFS4).g.b h2⟩
      have HC := hide hcell
      clear hcell
      have b1 : W.cell? ⟨w.heap.size + 1, 1, none⟩ = some (.slice a l.length cap) := bx_cell (unhide HFS4).g.k 1 rfl
      have HBD : Hid (∀ k sd, 0 ≤ sumL (ofSide (l.take k) sd) ∧ sumL (ofSide (l.take k) sd) ≤ 20000000) := fun k sd => by
        have hb := sumL_bound (ofSide (l.take k) sd) (fun o ho => unhide HLB o (List.mem_of_mem_take (List.mem_filter.1 ho).1))
        have hn : (ofSide (l.take k) sd).length ≤ 20 := Nat.le_trans (List.length_filter_le _ _) (Nat.le_trans (List.length_take_le' _ _) h2)
        omega
      go_loopw [13, 14, 15] (fun bv sv iv wq => ∃ k : Nat, k ≤ l.length ∧ bv = .int .i64 (sumL (ofSide (l.take k) 1)) ∧ sv = .int .i64 (sumL (ofSide (l.take k) 2)) ∧ iv = .int .i64 k ∧ wq = W) (fun _ _ iv _ => l.length - (intOf iv).toNat)
      case atStart => exact ⟨0, Nat.zero_le _, rfl, rfl, rfl, rfl⟩
      case round =>
        obtain ⟨k, hk, rfl, rfl, rfl, rfl⟩ := hrel
        have q1 := unhide HBD k 1
        have q2 := unhide HBD k 2
        by_cases hlt : k < l.length
        · obtain ⟨c, hkc⟩ : ∃ c, l[k]? = some c := ⟨_, List.getElem?_eq_getElem hlt⟩
          obtain ⟨b', off', ea, hcl⟩ := unhide HC k c hkc
          have hlt' : (k : Int) < l.length := by omega
          have hsd := unhide HSD c (List.mem_of_getElem? hkc)
          have HS1 := hide (ofSide_take hkc 1)
          have HS2 := hide (ofSide_take hkc 2)
          have p1 := unhide HBD (k + 1) 1
          have p2 := unhide HBD (k + 1) 2
          have hcl0 := unhide HLB c (List.mem_of_getElem? hkc)
          rw [unhide HS1] at p1
          rw [unhide HS2] at p2
          obtain ⟨-, g1, -, g3, -, -⟩ := od_cells hcl
          subst ea
          clear hcl hkc
          generalize sumL (ofSide (l.take k) 1) = A at q1 p1 HS1
          generalize sumL (ofSide (l.take k) 2) = B at q2 p2 HS2
          obtain ⟨q1a, q1b⟩ := q1
          obtain ⟨q2a, q2b⟩ := q2
          obtain ⟨hc0, hc1⟩ := hcl0
          by_cases hs : c.side = 1
          · have hs' : (c.side == 1) = true := by rw [hs]; rfl
            have HN1 : Hid (sumL (ofSide (l.take (k + 1)) 1) = A + c.left) := by
              have h := unhide HS1
              rw [if_pos hs] at h
              exact h
            have HN2 : Hid (sumL (ofSide (l.take (k + 1)) 2) = B) := by
              have h := unhide HS2
              rw [if_neg (by omega), Int.add_zero] at h
              exact h
            clear HS1 HS2 p1 p2 hsd hs
            go_wp2_with fail
            go_roundw
            case rel => exact ⟨k + 1, by omega, by rw [unhide HN1], by rw [unhide HN2], by go_num, trivial⟩
            case measure => simp [intOf]; omega
          · have hs' : (c.side == 1) = false := by rw [beq_eq_false_iff_ne]; exact hs
            have HN1 : Hid (sumL (ofSide (l.take (k + 1)) 1) = A) := by
              have h := unhide HS1
              rw [if_neg hs, Int.add_zero] at h
              exact h
            have HN2 : Hid (sumL (ofSide (l.take (k + 1)) 2) = B + c.left) := by
              have h := unhide HS2
              rw [if_pos (by omega)] at h
              exact h
            clear HS1 HS2 p1 p2 hsd hs
            go_wp2_with fail
            go_roundw
            case rel => exact ⟨k + 1, by omega, by rw [unhide HN1], by rw [unhide HN2], by go_num, trivial⟩
            case measure => simp [intOf]; omega
        · have hnl : ¬ (k : Int) < l.length := by omega
          have HK1 : Hid (sumL (ofSide (l.take k) 1) = sumL (ofSide l 1) ∧ sumL (ofSide (l.take k) 2) = sumL (ofSide l 2)) := by rw [List.take_of_length_le (by omega)]; exact ⟨rfl, rfl⟩
          generalize sumL (ofSide (l.take k) 1) = A at q1 HK1
          generalize sumL (ofSide (l.take k) 2) = B at q2 HK1
          obtain ⟨q1a, q1b⟩ := q1
          obtain ⟨q2a, q2b⟩ := q2
          obtain ⟨y4, k4, r4, z4⟩ := divH _ _ _ _ wr (has_some (floatOfInt .f64 (A - B))) (has_some (floatOfInt .f64 (A + B)))
          have Z4 : Hid (HasF (tlO (sumL (ofSide l 1)) (sumL (ofSide l 2))) y4) := by
            have h : HasF (tlO (sumL (ofSide l 1)) (sumL (ofSide l 2))) y4 := by rw [← (unhide HK1).1, ← (unhide HK1).2]; exact z4
            exact h
          have HFS5 : Hid (Fs w ((wr.drewN k4).setCell ⟨n3, 3, none⟩ (.float .f64 y4)) n3 [.int .i64 ta, .int .i64 tb, .int .i64 tc, .int .i64 td, .int .i64 te, .int .i64 tf, .int .i64 tg, .int .i64 th] [.int .i64 next, .slice a l.length cap] [.float .f64 0, .float .f64 0, .float .f64 0, .float .f64 0] [.float .f64 x1, .float .f64 ym, .float .f64 ys, .float .f64 y4]) := fs_set (j := 3) (u := .float .f64 y4) (fs_drewN (unhide HFS4) k4) (by simp)
          have f3 : wr.cell? ⟨n3, 3, none⟩ = some (.float .f64 0) := bx_cell (unhide HFS4).f 3 rfl
          have q3 : wr.frozen? ⟨n3, 3, none⟩ = false := bx_free (unhide HFS4).f 3 (by simp)
          have w0 : ((wr.drewN k4).setCell ⟨n3, 3, none⟩ (.float .f64 y4)).cell? ⟨n3, 0, none⟩ = some (.float .f64 x1) := bx_cell (unhide HFS5).f 0 rfl
          have w1 : ((wr.drewN k4).setCell ⟨n3, 3, none⟩ (.float .f64 y4)).cell? ⟨n3, 1, none⟩ = some (.float .f64 ym) := bx_cell (unhide HFS5).f 1 rfl
          have w2 : ((wr.drewN k4).setCell ⟨n3, 3, none⟩ (.float .f64 y4)).cell? ⟨n3, 2, none⟩ = some (.float .f64 ys) := bx_cell (unhide HFS5).f 2 rfl
          have w3 : ((wr.drewN k4).setCell ⟨n3, 3, none⟩ (.float .f64 y4)).cell? ⟨n3, 3, none⟩ = some (.float .f64 y4) := bx_cell (unhide HFS5).f 3 rfl
          have v0 : ((wr.drewN k4).setCell ⟨n3, 3, none⟩ (.float .f64 y4)).cell? ⟨w.heap.size + 1 + 1, 0, none⟩ = some (.float .f64 0) := bx_cell (unhide HFS5).g.o 0 rfl
          have t0 : ((wr.drewN k4).setCell ⟨n3, 3, none⟩ (.float .f64 y4)).frozen? ⟨w.heap.size + 1 + 1, 0, none⟩ = false := bx_free (unhide HFS5).g.o 0 (by decide)
          have v1 : ((wr.drewN k4).setCell ⟨n3, 3, none⟩ (.float .f64 y4)).cell? ⟨w.heap.size + 1 + 1, 1, none⟩ = some (.float .f64 0) := bx_cell (unhide HFS5).g.o 1 rfl
          have t1 : ((wr.drewN k4).setCell ⟨n3, 3, none⟩ (.float .f64 y4)).frozen? ⟨w.heap.size + 1 + 1, 1, none⟩ = false := bx_free (unhide HFS5).g.o 1 (by decide)
          have v2 : ((wr.drewN k4).setCell ⟨n3, 3, none⟩ (.float .f64 y4)).cell? ⟨w.heap.size + 1 + 1, 2, none⟩ = some (.float .f64 0) := bx_cell (unhide HFS5).g.o 2 rfl
          have t2 : ((wr.drewN k4).setCell ⟨n3, 3, none⟩ (.float .f64 y4)).frozen? ⟨w.heap.size + 1 + 1, 2, none⟩ = false := bx_free (unhide HFS5).g.o 2 (by decide)
          have v3 : ((wr.drewN k4).setCell ⟨n3, 3, none⟩ (.float .f64 y4)).cell? ⟨w.heap.size + 1 + 1, 3, none⟩ = some (.float .f64 0) := bx_cell (unhide HFS5).g.o 3 rfl
          have t3 : ((wr.drewN k4).setCell ⟨n3, 3, none⟩ (.float .f64 y4)).frozen? ⟨w.heap.size + 1 + 1, 3, none⟩ = false := bx_free (unhide HFS5).g.o 3 (by decide)
          have HR8 := hide (bx_setCells (us := [.float .f64 x1, .float .f64 ym, .float .f64 ys, .float .f64 y4]) (unhide HFS5).g.o rfl)
          have HB8 := hide (below_setCells (w.heap.size + 1 + 1) (by omega) [.float .f64 x1, .float .f64 ym, .float .f64 ys, .float .f64 y4] 0 ((wr.drewN k4).setCell ⟨n3, 3, none⟩ (.float .f64 y4)) (unhide HFS5).g.b)
          clear z4 HK1
          go_wp2_with fail
          change bodyPost _ _ _ _ _ (((wr.drewN k4).setCell ⟨n3, 3, none⟩ (.float .f64 y4)).setCells (w.heap.size + 1 + 1) 0 [.float .f64 x1, .float .f64 ym, .float .f64 ys, .float .f64 y4])
          generalize ((wr.drewN k4).setCell ⟨n3, 3, none⟩ (.float .f64 y4)).setCells (w.heap.size + 1 + 1) 0 [.float .f64 x1, .float .f64 ym, .float .f64 ys, .float .f64 y4] = WE at HR8 HB8 ⊢
          have d0 : WE.cell? ⟨w.heap.size + 1 + 1, 0, none⟩ = some (.float .f64 x1) := bx_cell (unhide HR8) 0 rfl
          have d1 : WE.cell? ⟨w.heap.size + 1 + 1, 1, none⟩ = some (.float .f64 ym) := bx_cell (unhide HR8) 1 rfl
          have d2 : WE.cell? ⟨w.heap.size + 1 + 1, 2, none⟩ = some (.float .f64 ys) := bx_cell (unhide HR8) 2 rfl
          have d3 : WE.cell? ⟨w.heap.size + 1 + 1, 3, none⟩ = some (.float .f64 y4) := bx_cell (unhide HR8) 3 rfl
          refine bodyPost_ret (by simp [results, Try.results7, go_sem, d0, d1, d2, d3]; try rfl) rfl ?_
          exact ⟨x1, ym, ys, y4, rfl, unhide Z1, unhide HMD, unhide HSP, unhide Z4, unhide HB8⟩
    · clear HFC
      have hi0 : ∀ i : Nat, ¬ (i : Int) < 0 := fun i => by omega
      go_wp2_with fail
      refine (none_any _).mono ?_
      rintro e V4 ⟨ym, mm, rfl, hym, rfl⟩
      have HYM := hide hym
      clear hym
      go_wp2_with fail
      refine (zero_any _).mono ?_
      rintro e V4 ⟨rfl, rfl⟩
      go_wp2_with fail
      have HFS4 : Hid (Fs w (((V3.drewN mm).setCell ⟨n3, 1, none⟩ (.float .f64 ym)).setCell ⟨n3, 2, none⟩ (.float .f64 9218868437227405312)) n3 [.int .i64 ta, .int .i64 tb, .int .i64 tc, .int .i64 td, .int .i64 te, .int .i64 tf, .int .i64 tg, .int .i64 th] [.int .i64 next, .slice a l.length cap] [.float .f64 0, .float .f64 0, .float .f64 0, .float .f64 0] [.float .f64 x1, .float .f64 ym, .float .f64 9218868437227405312, .float .f64 0]) := fs_set (j := 2) (u := .float .f64 9218868437227405312) (fs_set (j := 1) (u := .float .f64 ym) (fs_drewN (unhide HFS3) mm) (by simp)) (by simp)
      generalize ((V3.drewN mm).setCell ⟨n3, 1, none⟩ (.float .f64 ym)).setCell ⟨n3, 2, none⟩ (.float .f64 9218868437227405312) = W at HFS4 ⊢
      have HMD : Hid (HasF (mdO (quOf true (ofSide l 1)) (quOf false (ofSide l 2))) ym) := by
        have : mdO (quOf true (ofSide l 1)) (quOf false (ofSide l 2)) = none := if_neg (unhide HNO)
        have h : HasF (mdO (quOf true (ofSide l 1)) (quOf false (ofSide l 2))) ym := by rw [this]; exact ⟨fun r h => by simp at h, fun _ => unhide HYM⟩
        exact h
      have HSP : Hid (HasF (spO (quOf true (ofSide l 1)) (quOf false (ofSide l 2))) 9218868437227405312) := by
        have : spO (quOf true (ofSide l 1)) (quOf false (ofSide l 2)) = some 9218868437227405312 := if_neg (unhide HNO)
        have h : HasF (spO (quOf true (ofSide l 1)) (quOf false (ofSide l 2))) 9218868437227405312 := by rw [this]; exact has_some _
        exact h
      generalize 9218868437227405312 = ys at HFS4 HSP
      clear HNO HYM HFS3 b1 y1 q1 y2 q2 h10 HTAIL hi0
      have hcell : ∀ (k : Nat) (c : Od), l[k]? = some c → ∃ b9 o9, a = some ⟨b9, o9, none⟩ ∧ W.rangeAt b9 (o9 + k * 6) c.vs := by
        intro k c hk
        obtain ⟨a', cap', ea, _, hcc⟩ := unhide HR
        obtain ⟨b9, o9, h1, h2, h3⟩ := hcc (by intro h; rw [h] at hk; simp at hk)
        have ea' : a = a' := by
          have := ea
          simp only [Value.slice.injEq, true_and] at this
          exact this.1
        exact ⟨b9, o9, ea'.trans h1, range_below (h3 k c hk) (unhide HFS4).g.b h2⟩
      have HC := hide hcell
      clear hcell
      have b1 : W.cell? ⟨w.heap.size + 1, 1, none⟩ = some (.slice a l.length cap) := bx_cell (unhide HFS4).g.k 1 rfl
      have HBD : Hid (∀ k sd, 0 ≤ sumL (ofSide (l.take k) sd) ∧ sumL (ofSide (l.take k) sd) ≤ 20000000) := fun k sd => by
        have hb := sumL_bound (ofSide (l.take k) sd) (fun o ho => unhide HLB o (List.mem_of_mem_take (List.mem_filter.1 ho).1))
        have hn : (ofSide (l.take k) sd).length ≤ 20 := Nat.le_trans (List.length_filter_le _ _) (Nat.le_trans (List.length_take_le' _ _) h2)
        omega
      go_loopw [13, 14, 15] (fun bv sv iv wq => ∃ k : Nat, k ≤ l.length ∧ bv = .int .i64 (sumL (ofSide (l.take k) 1)) ∧ sv = .int .i64 (sumL (ofSide (l.take k) 2)) ∧ iv = .int .i64 k ∧ wq = W) (fun _ _ iv _ => l.length - (intOf iv).toNat)
      case atStart => exact ⟨0, Nat.zero_le _, rfl, rfl, rfl, rfl⟩
      case round =>
        obtain ⟨k, hk, rfl, rfl, rfl, rfl⟩ := hrel
        have q1 := unhide HBD k 1
        have q2 := unhide HBD k 2
        by_cases hlt : k < l.length
        · obtain ⟨c, hkc⟩ : ∃ c, l[k]? = some c := ⟨_, List.getElem?_eq_getElem hlt⟩
          obtain ⟨b', off', ea, hcl⟩ := unhide HC k c hkc
          have hlt' : (k : Int) < l.length := by omega
          have hsd := unhide HSD c (List.mem_of_getElem? hkc)
          have HS1 := hide (ofSide_take hkc 1)
          have HS2 := hide (ofSide_take hkc 2)
          have p1 := unhide HBD (k + 1) 1
          have p2 := unhide HBD (k + 1) 2
          have hcl0 := unhide HLB c (List.mem_of_getElem? hkc)
          rw [unhide HS1] at p1
          rw [unhide HS2] at p2
          obtain ⟨-, g1, -, g3, -, -⟩ := od_cells hcl
          subst ea
          clear hcl hkc
          generalize sumL (ofSide (l.take k) 1) = A at q1 p1 HS1
          generalize sumL (ofSide (l.take k) 2) = B at q2 p2 HS2
          obtain ⟨q1a, q1b⟩ := q1
          obtain ⟨q2a, q2b⟩ := q2
          obtain ⟨hc0, hc1⟩ := hcl0
          by_cases hs : c.side = 1
          · have hs' : (c.side == 1) = true := by rw [hs]; rfl
            have HN1 : Hid (sumL (ofSide (l.take (k + 1)) 1) = A + c.left) := by
              have h := unhide HS1
              rw [if_pos hs] at h
              exact h
            have HN2 : Hid (sumL (ofSide (l.take (k + 1)) 2) = B) := by
              have h := unhide HS2
              rw [if_neg (by omega), Int.add_zero] at h
              exact h
            clear HS1 HS2 p1 p2 hsd hs
            go_wp2_with fail
            go_roundw
            case rel => exact ⟨k + 1, by omega, by rw [unhide HN1], by rw [unhide HN2], by go_num, trivial⟩
            case measure => simp [intOf]; omega
          · have hs' : (c.side == 1) = false := by rw [beq_eq_false_iff_ne]; exact hs
            have HN1 : Hid (sumL (ofSide (l.take (k + 1)) 1) = A) := by
              have h := unhide HS1
              rw [if_neg hs, Int.add_zero] at h
              exact h
            have HN2 : Hid (sumL (ofSide (l.take (k + 1)) 2) = B + c.left) := by
              have h := unhide HS2
              rw [if_pos (by omega)] at h
              exact h
            clear HS1 HS2 p1 p2 hsd hs
            go_wp2_with fail
            go_roundw
            case rel => exact ⟨k + 1, by omega, by rw [unhide HN1], by rw [unhide HN2], by go_num, trivial⟩
            case measure => simp [intOf]; omega
        · have hnl : ¬ (k : Int) < l.length := by omega
          have HK1 : Hid (sumL (ofSide (l.take k) 1) = sumL (ofSide l 1) ∧ sumL (ofSide (l.take k) 2) = sumL (ofSide l 2)) := by rw [List.take_of_length_le (by omega)]; exact ⟨rfl, rfl⟩
          generalize sumL (ofSide (l.take k) 1) = A at q1 HK1
          generalize sumL (ofSide (l.take k) 2) = B at q2 HK1
          obtain ⟨q1a, q1b⟩ := q1
          obtain ⟨q2a, q2b⟩ := q2
          obtain ⟨y4, k4, r4, z4⟩ := divH _ _ _ _ wr (has_some (floatOfInt .f64 (A - B))) (has_some (floatOfInt .f64 (A + B)))
          have Z4 : Hid (HasF (tlO (sumL (ofSide l 1)) (sumL (ofSide l 2))) y4) := by
            have h : HasF (tlO (sumL (ofSide l 1)) (sumL (ofSide l 2))) y4 := by rw [← (unhide HK1).1, ← (unhide HK1).2]; exact z4
            exact h
          have HFS5 : Hid (Fs w ((wr.drewN k4).setCell ⟨n3, 3, none⟩ (.float .f64 y4)) n3 [.int .i64 ta, .int .i64 tb, .int .i64 tc, .int .i64 td, .int .i64 te, .int .i64 tf, .int .i64 tg, .int .i64 th] [.int .i64 next, .slice a l.length cap] [.float .f64 0, .float .f64 0, .float .f64 0, .float .f64 0] [.float .f64 x1, .float .f64 ym, .float .f64 ys, .float .f64 y4]) := fs_set (j := 3) (u := .float .f64 y4) (fs_drewN (unhide HFS4) k4) (by simp)
          have f3 : wr.cell? ⟨n3, 3, none⟩ = some (.float .f64 0) := bx_cell (unhide HFS4).f 3 rfl
          have q3 : wr.frozen? ⟨n3, 3, none⟩ = false := bx_free (unhide HFS4).f 3 (by simp)
          have w0 : ((wr.drewN k4).setCell ⟨n3, 3, none⟩ (.float .f64 y4)).cell? ⟨n3, 0, none⟩ = some (.float .f64 x1) := bx_cell (unhide HFS5).f 0 rfl
          have w1 : ((wr.drewN k4).setCell ⟨n3, 3, none⟩ (.float .f64 y4)).cell? ⟨n3, 1, none⟩ = some (.float .f64 ym) := bx_cell (unhide HFS5).f 1 rfl
          have w2 : ((wr.drewN k4).setCell ⟨n3, 3, none⟩ (.float .f64 y4)).cell? ⟨n3, 2, none⟩ = some (.float .f64 ys) := bx_cell (unhide HFS5).f 2 rfl
          have w3 : ((wr.drewN k4).setCell ⟨n3, 3, none⟩ (.float .f64 y4)).cell? ⟨n3, 3, none⟩ = some (.float .f64 y4) := bx_cell (unhide HFS5).f 3 rfl
          have v0 : ((wr.drewN k4).setCell ⟨n3, 3, none⟩ (.float .f64 y4)).cell? ⟨w.heap.size + 1 + 1, 0, none⟩ = some (.float .f64 0) := bx_cell (unhide HFS5).g.o 0 rfl
          have t0 : ((wr.drewN k4).setCell ⟨n3, 3, none⟩ (.float .f64 y4)).frozen? ⟨w.heap.size + 1 + 1, 0, none⟩ = false := bx_free (unhide HFS5).g.o 0 (by decide)
          have v1 : ((wr.drewN k4).setCell ⟨n3, 3, none⟩ (.float .f64 y4)).cell? ⟨w.heap.size + 1 + 1, 1, none⟩ = some (.float .f64 0) := bx_cell (unhide HFS5).g.o 1 rfl
          have t1 : ((wr.drewN k4).setCell ⟨n3, 3, none⟩ (.float .f64 y4)).frozen? ⟨w.heap.size + 1 + 1, 1, none⟩ = false := bx_free (unhide HFS5).g.o 1 (by decide)
          have v2 : ((wr.drewN k4).setCell ⟨n3, 3, none⟩ (.float .f64 y4)).cell? ⟨w.heap.size + 1 + 1, 2, none⟩ = some (.float .f64 0) := bx_cell (unhide HFS5).g.o 2 rfl
          have t2 : ((wr.drewN k4).setCell ⟨n3, 3, none⟩ (.float .f64 y4)).frozen? ⟨w.heap.size + 1 + 1, 2, none⟩ = false := bx_free (unhide HFS5).g.o 2 (by decide)
          have v3 : ((wr.drewN k4).setCell ⟨n3, 3, none⟩ (.float .f64 y4)).cell? ⟨w.heap.size + 1 + 1, 3, none⟩ = some (.float .f64 0) := bx_cell (unhide HFS5).g.o 3 rfl
          have t3 : ((wr.drewN k4).setCell ⟨n3, 3, none⟩ (.float .f64 y4)).frozen? ⟨w.heap.size + 1 + 1, 3, none⟩ = false := bx_free (unhide HFS5).g.o 3 (by decide)
          have HR8 := hide (bx_setCells (us := [.float .f64 x1, .float .f64 ym, .float .f64 ys, .float .f64 y4]) (unhide HFS5).g.o rfl)
          have HB8 := hide (below_setCells (w.heap.size + 1 + 1) (by omega) [.float .f64 x1, .float .f64 ym, .float .f64 ys, .float .f64 y4] 0 ((wr.drewN k4).setCell ⟨n3, 3, none⟩ (.float .f64 y4)) (unhide HFS5).g.b)
          clear z4 HK1
          go_wp2_with fail
          change bodyPost _ _ _ _ _ (((wr.drewN k4).setCell ⟨n3, 3, none⟩ (.float .f64 y4)).setCells (w.heap.size + 1 + 1) 0 [.float .f64 x1, .float .f64 ym, .float .f64 ys, .float .f64 y4])
          generalize ((wr.drewN k4).setCell ⟨n3, 3, none⟩ (.float .f64 y4)).setCells (w.heap.size + 1 + 1) 0 [.float .f64 x1, .float .f64 ym, .float .f64 ys, .float .f64 y4] = WE at HR8 HB8 ⊢
          have d0 : WE.cell? ⟨w.heap.size + 1 + 1, 0, none⟩ = some (.float .f64 x1) := bx_cell (unhide HR8) 0 rfl
          have d1 : WE.cell? ⟨w.heap.size + 1 + 1, 1, none⟩ = some (.float .f64 ym) := bx_cell (unhide HR8) 1 rfl
          have d2 : WE.cell? ⟨w.heap.size + 1 + 1, 2, none⟩ = some (.float .f64 ys) := bx_cell (unhide HR8) 2 rfl
          have d3 : WE.cell? ⟨w.heap.size + 1 + 1, 3, none⟩ = some (.float .f64 y4) := bx_cell (unhide HR8) 3 rfl
          refine bodyPost_ret (by simp [results, Try.results7, go_sem, d0, d1, d2, d3]; try rfl) rfl ?_
          exact ⟨x1, ym, ys, y4, rfl, unhide Z1, unhide HMD, unhide HSP, unhide Z4, unhide HB8⟩
  · clear HFB
    rcases unhide HFC with ⟨rfl, hno⟩ | ⟨i2, o2, rfl, hi2, hf2⟩
    · have HNO : Hid (¬ (hdF (quOf true (ofSide l 1)) = true ∧ hdF (quOf false (ofSide l 2)) = true)) := fun h => by rw [hd_none (unhide HRI) hno] at h; exact absurd h.2 (by decide)
      clear hno HFC hf1
      have hi0 : ∀ i : Nat, ¬ (i : Int) < 0 := fun i => by omega
      go_wp2_with fail
      refine (none_any _).mono ?_
      rintro e V4 ⟨ym, mm, rfl, hym, rfl⟩
      have HYM := hide hym
      clear hym
      go_wp2_with fail
      refine (zero_any _).mono ?_
      rintro e V4 ⟨rfl, rfl⟩
      go_wp2_with fail
      have HFS4 : Hid (Fs w (((V3.drewN mm).setCell ⟨n3, 1, none⟩ (.float .f64 ym)).setCell ⟨n3, 2, none⟩ (.float .f64 9218868437227405312)) n3 [.int .i64 ta, .int .i64 tb, .int .i64 tc, .int .i64 td, .int .i64 te, .int .i64 tf, .int .i64 tg, .int .i64 th] [.int .i64 next, .slice a l.length cap] [.float .f64 0, .float .f64 0, .float .f64 0, .float .f64 0] [.float .f64 x1, .float .f64 ym, .float .f64 9218868437227405312, .float .f64 0]) := fs_set (j := 2) (u := .float .f64 9218868437227405312) (fs_set (j := 1) (u := .float .f64 ym) (fs_drewN (unhide HFS3) mm) (by simp)) (by simp)
      generalize ((V3.drewN mm).setCell ⟨n3, 1, none⟩ (.float .f64 ym)).setCell ⟨n3, 2, none⟩ (.float .f64 9218868437227405312) = W at HFS4 ⊢
      have HMD : Hid (HasF (mdO (quOf true (ofSide l 1)) (quOf false (ofSide l 2))) ym) := by
        have : mdO (quOf true (ofSide l 1)) (quOf false (ofSide l 2)) = none := if_neg (unhide HNO)
        have h : HasF (mdO (quOf true (ofSide l 1)) (quOf false (ofSide l 2))) ym := by rw [this]; exact ⟨fun r h => by simp at h, fun _ => unhide HYM⟩
        exact h
      have HSP : Hid (HasF (spO (quOf true (ofSide l 1)) (quOf false (ofSide l 2))) 9218868437227405312) := by
        have : spO (quOf true (ofSide l 1)) (quOf false (ofSide l 2)) = some 9218868437227405312 := if_neg (unhide HNO)
        have h : HasF (spO (quOf true (ofSide l 1)) (quOf false (ofSide l 2))) 9218868437227405312 := by rw [this]; exact has_some _
        exact h
      generalize 9218868437227405312 = ys at HFS4 HSP
      clear HNO HYM HFS3 b1 y1 q1 y2 q2 h10 HTAIL hi0
      have hcell : ∀ (k : Nat) (c : Od), l[k]? = some c → ∃ b9 o9, a = some ⟨b9, o9, none⟩ ∧ W.rangeAt b9 (o9 + k * 6) c.vs := by
        intro k c hk
        obtain ⟨a', cap', ea, _, hcc⟩ := unhide HR
        obtain ⟨b9, o9, h1, h2, h3⟩ := hcc (by intro h; rw [h] at hk; simp at hk)
        have ea' : a = a' := by
          have := ea
          simp only [Value.slice.injEq, true_and] at this
          exact this.1
        exact ⟨b9, o9, ea'.trans h1, range_below (h3 k c hk) (unhide HFS4).g.b h2⟩
      have HC := hide hcell
      clear hcell
      have b1 : W.cell? ⟨w.heap.size + 1, 1, none⟩ = some (.slice a l.length cap) := bx_cell (unhide HFS4).g.k 1 rfl
      have HBD : Hid (∀ k sd, 0 ≤ sumL (ofSide (l.take k) sd) ∧ sumL (ofSide (l.take k) sd) ≤ 20000000) := fun k sd => by
        have hb := sumL_bound (ofSide (l.take k) sd) (fun o ho => unhide HLB o (List.mem_of_mem_take (List.mem_filter.1 ho).1))
        have hn : (ofSide (l.take k) sd).length ≤ 20 := Nat.le_trans (List.length_filter_le _ _) (Nat.le_trans (List.length_take_le' _ _) h2)
        omega
      go_loopw [13, 14, 15] (fun bv sv iv wq => ∃ k : Nat, k ≤ l.length ∧ bv = .int .i64 (sumL (ofSide (l.take k) 1)) ∧ sv = .int .i64 (sumL (ofSide (l.take k) 2)) ∧ iv = .int .i64 k ∧ wq = W) (fun _ _ iv _ => l.length - (intOf iv).toNat)
      case atStart => exact ⟨0, Nat.zero_le _, rfl, rfl, rfl, rfl⟩
      case round =>
        obtain ⟨k, hk, rfl, rfl, rfl, rfl⟩ := hrel
        have q1 := unhide HBD k 1
        have q2 := unhide HBD k 2
        by_cases hlt : k < l.length
        · obtain ⟨c, hkc⟩ : ∃ c, l[k]? = some c := ⟨_, List.getElem?_eq_getElem hlt⟩
          obtain ⟨b', off', ea, hcl⟩ := unhide HC k c hkc
          have hlt' : (k : Int) < l.length := by omega
          have hsd := unhide HSD c (List.mem_of_getElem? hkc)
          have HS1 := hide (ofSide_take hkc 1)
          have HS2 := hide (ofSide_take hkc 2)
          have p1 := unhide HBD (k + 1) 1
          have p2 := unhide HBD (k + 1) 2
          have hcl0 := unhide HLB c (List.mem_of_getElem? hkc)
          rw [unhide HS1] at p1
          rw [unhide HS2] at p2
          obtain ⟨-, g1, -, g3, -, -⟩ := od_cells hcl
          subst ea
          clear hcl hkc
          generalize sumL (ofSide (l.take k) 1) = A at q1 p1 HS1
          generalize sumL (ofSide (l.take k) 2) = B at q2 p2 HS2
          obtain ⟨q1a, q1b⟩ := q1
          obtain ⟨q2a, q2b⟩ := q2
          obtain ⟨hc0, hc1⟩ := hcl0
          by_cases hs : c.side = 1
          · have hs' : (c.side == 1) = true := by rw [hs]; rfl
            have HN1 : Hid (sumL (ofSide (l.take (k + 1)) 1) = A + c.left) := by
              have h := unhide HS1
              rw [if_pos hs] at h
              exact h
            have HN2 : Hid (sumL (ofSide (l.take (k + 1)) 2) = B) := by
              have h := unhide HS2
              rw [if_neg (by omega), Int.add_zero] at h
              exact h
            clear HS1 HS2 p1 p2 hsd hs
            go_wp2_with fail
            go_roundw
            case rel => exact ⟨k + 1, by omega, by rw [unhide HN1], by rw [unhide HN2], by go_num, trivial⟩
            case measure => simp [intOf]; omega
          · have hs' : (c.side == 1) = false := by rw [beq_eq_false_iff_ne]; exact hs
            have HN1 : Hid (sumL (ofSide (l.take (k + 1)) 1) = A) := by
              have h := unhide HS1
              rw [if_neg hs, Int.add_zero] at h
              exact h
            have HN2 : Hid (sumL (ofSide (l.take (k + 1)) 2) = B + c.left) := by
              have h := unhide HS2
              rw [if_pos (by omega)] at h
              exact h
            clear HS1 HS2 p1 p2 hsd hs
            go_wp2_with fail
            go_roundw
            case rel => exact ⟨k + 1, by omega, by rw [unhide HN1], by rw [unhide HN2], by go_num, trivial⟩
            case measure => simp [intOf]; omega
        · have hnl : ¬ (k : Int) < l.length := by omega
          have HK1 : Hid (sumL (ofSide (l.take k) 1) = sumL (ofSide l 1) ∧ sumL (ofSide (l.take k) 2) = sumL (ofSide l 2)) := by rw [List.take_of_length_le (by omega)]; exact ⟨rfl, rfl⟩
          generalize sumL (ofSide (l.take k) 1) = A at q1 HK1
          generalize sumL (ofSide (l.take k) 2) = B at q2 HK1
          obtain ⟨q1a, q1b⟩ := q1
          obtain ⟨q2a, q2b⟩ := q2
          obtain ⟨y4, k4, r4, z4⟩ := divH _ _ _ _ wr (has_some (floatOfInt .f64 (A - B))) (has_some (floatOfInt .f64 (A + B)))
          have Z4 : Hid (HasF (tlO (sumL (ofSide l 1)) (sumL (ofSide l 2))) y4) := by
            have h : HasF (tlO (sumL (ofSide l 1)) (sumL (ofSide l 2))) y4 := by rw [← (unhide HK1).1, ← (unhide HK1).2]; exact z4
            exact h
          have HFS5 : Hid (Fs w ((wr.drewN k4).setCell ⟨n3, 3, none⟩ (.float .f64 y4)) n3 [.int .i64 ta, .int .i64 tb, .int .i64 tc, .int .i64 td, .int .i64 te, .int .i64 tf, .int .i64 tg, .int .i64 th] [.int .i64 next, .slice a l.length cap] [.float .f64 0, .float .f64 0, .float .f64 0, .float .f64 0] [.float .f64 x1, .float .f64 ym, .float .f64 ys, .float .f64 y4]) := fs_set (j := 3) (u := .float .f64 y4) (fs_drewN (unhide HFS4) k4) (by simp)
          have f3 : wr.cell? ⟨n3, 3, none⟩ = some (.float .f64 0) := bx_cell (unhide HFS4).f 3 rfl
          have q3 : wr.frozen? ⟨n3, 3, none⟩ = false := bx_free (unhide HFS4).f 3 (by simp)
          have w0 : ((wr.drewN k4).setCell ⟨n3, 3, none⟩ (.float .f64 y4)).cell? ⟨n3, 0, none⟩ = some (.float .f64 x1) := bx_cell (unhide HFS5).f 0 rfl
          have w1 : ((wr.drewN k4).setCell ⟨n3, 3, none⟩ (.float .f64 y4)).cell? ⟨n3, 1, none⟩ = some (.float .f64 ym) := bx_cell (unhide HFS5).f 1 rfl
          have w2 : ((wr.drewN k4).setCell ⟨n3, 3, none⟩ (.float .f64 y4)).cell? ⟨n3, 2, none⟩ = some (.float .f64 ys) := bx_cell (unhide HFS5).f 2 rfl
          have w3 : ((wr.drewN k4).setCell ⟨n3, 3, none⟩ (.float .f64 y4)).cell? ⟨n3, 3, none⟩ = some (.float .f64 y4) := bx_cell (unhide HFS5).f 3 rfl
          have v0 : ((wr.drewN k4).setCell ⟨n3, 3, none⟩ (.float .f64 y4)).cell? ⟨w.heap.size + 1 + 1, 0, none⟩ = some (.float .f64 0) := bx_cell (unhide HFS5).g.o 0 rfl
          have t0 : ((wr.drewN k4).setCell ⟨n3, 3, none⟩ (.float .f64 y4)).frozen? ⟨w.heap.size + 1 + 1, 0, none⟩ = false := bx_free (unhide HFS5).g.o 0 (by decide)
          have v1 : ((wr.drewN k4).setCell ⟨n3, 3, none⟩ (.float .f64 y4)).cell? ⟨w.heap.size + 1 + 1, 1, none⟩ = some (.float .f64 0) := bx_cell (unhide HFS5).g.o 1 rfl
          have t1 : ((wr.drewN k4).setCell ⟨n3, 3, none⟩ (.float .f64 y4)).frozen? ⟨w.heap.size + 1 + 1, 1, none⟩ = false := bx_free (unhide HFS5).g.o 1 (by decide)
          have v2 : ((wr.drewN k4).setCell ⟨n3, 3, none⟩ (.float .f64 y4)).cell? ⟨w.heap.size + 1 + 1, 2, none⟩ = some (.float .f64 0) := bx_cell (unhide HFS5).g.o 2 rfl
          have t2 : ((wr.drewN k4).setCell ⟨n3, 3, none⟩ (.float .f64 y4)).frozen? ⟨w.heap.size + 1 + 1, 2, none⟩ = false := bx_free (unhide HFS5).g.o 2 (by decide)
          have v3 : ((wr.drewN k4).setCell ⟨n3, 3, none⟩ (.float .f64 y4)).cell? ⟨w.heap.size + 1 + 1, 3, none⟩ = some (.float .f64 0) := bx_cell (unhide HFS5).g.o 3 rfl
          have t3 : ((wr.drewN k4).setCell ⟨n3, 3, none⟩ (.float .f64 y4)).frozen? ⟨w.heap.size + 1 + 1, 3, none⟩ = false := bx_free (unhide HFS5).g.o 3 (by decide)
          have HR8 := hide (bx_setCells (us := [.float .f64 x1, .float .f64 ym, .float .f64 ys, .float .f64 y4]) (unhide HFS5).g.o rfl)
          have HB8 := hide (below_setCells (w.heap.size + 1 + 1) (by omega) [.float .f64 x1, .float .f64 ym, .float .f64 ys, .float .f64 y4] 0 ((wr.drewN k4).setCell ⟨n3, 3, none⟩ (.float .f64 y4)) (unhide HFS5).g.b)
          clear z4 HK1
          go_wp2_with fail
          change bodyPost _ _ _ _ _ (((wr.drewN k4).setCell ⟨n3, 3, none⟩ (.float .f64 y4)).setCells (w.heap.size + 1 + 1) 0 [.float .f64 x1, .float .f64 ym, .float .f64 ys, .float .f64 y4])
          generalize ((wr.drewN k4).setCell ⟨n3, 3, none⟩ (.float .f64 y4)).setCells (w.heap.size + 1 + 1) 0 [.float .f64 x1, .float .f64 ym, .float .f64 ys, .float .f64 y4] = WE at HR8 HB8 ⊢
          have d0 : WE.cell? ⟨w.heap.size + 1 + 1, 0, none⟩ = some (.float .f64 x1) := bx_cell (unhide HR8) 0 rfl
          have d1 : WE.cell? ⟨w.heap.size + 1 + 1, 1, none⟩ = some (.float .f64 ym) := bx_cell (unhide HR8) 1 rfl
          have d2 : WE.cell? ⟨w.heap.size + 1 + 1, 2, none⟩ = some (.float .f64 ys) := bx_cell (unhide HR8) 2 rfl
          have d3 : WE.cell? ⟨w.heap.size + 1 + 1, 3, none⟩ = some (.float .f64 y4) := bx_cell (unhide HR8) 3 rfl
          refine bodyPost_ret (by simp [results, Try.results7, go_sem, d0, d1, d2, d3]; try rfl) rfl ?_
          exact ⟨x1, ym, ys, y4, rfl, unhide Z1, unhide HMD, unhide HSP, unhide Z4, unhide HB8⟩
    · clear HFC
      have hf1' : IsFront true l 1 i1 o1 := hf1
      have hf2' : IsFront false l 2 i2 o2 := hf2
      obtain ⟨e1f, e1o⟩ := hd_some (unhide HRI) hf1'
      obtain ⟨e2f, e2o⟩ := hd_some (unhide HRI) hf2'
      clear hf1' hf2'
      have hc1 := hf1.1
      have hc2 := hf2.1
      obtain ⟨a', cap', ea, _, hcc⟩ := unhide HR
      obtain ⟨bb, off, eb, hbb, hrow⟩ := hcc (by intro h; rw [h] at hi1; simp at hi1)
      obtain ⟨rfl, rfl⟩ : a = a' ∧ cap = cap' := by simpa using ea
      subst eb
      obtain ⟨-, -, g1, -, -, -⟩ := od_cells (range_below (hrow i1 o1 hc1) (unhide HFS3).g.b hbb)
      obtain ⟨-, -, g2, -, -, -⟩ := od_cells (range_below (hrow i2 o2 hc2) (unhide HFS3).g.b hbb)
      have hi1' : (i1 : Int) < l.length := by omega
      have hi2' : (i2 : Int) < l.length := by omega
      have hi1n : ¬ (i1 : Int) < 0 := by omega
      have hi2n : ¬ (i2 : Int) < 0 := by omega
      have HE1 : Hid (mdO (quOf true (ofSide l 1)) (quOf false (ofSide l 2)) = (FloatKind.f64.format.add (qtr o1.ticks) (qtr o2.ticks)).bind fun a => FloatKind.f64.format.div a 4611686018427387904) := by
        have : mdO (quOf true (ofSide l 1)) (quOf false (ofSide l 2)) = (FloatKind.f64.format.add (qtr o1.ticks) (qtr o2.ticks)).bind fun a => FloatKind.f64.format.div a 4611686018427387904 := by unfold mdO; rw [e1o, e2o]; exact if_pos ⟨e1f, e2f⟩
        exact this
      have HE2 : Hid (spO (quOf true (ofSide l 1)) (quOf false (ofSide l 2)) = FloatKind.f64.format.sub (qtr o2.ticks) (qtr o1.ticks)) := by
        have : spO (quOf true (ofSide l 1)) (quOf false (ofSide l 2)) = FloatKind.f64.format.sub (qtr o2.ticks) (qtr o1.ticks) := by unfold spO; rw [e1o, e2o]; exact if_pos ⟨e1f, e2f⟩
        exact this
      clear hf1 hf2 e1f e1o e2f e2o hc1 hc2 hcc hrow ea
      obtain ⟨u1, k1, r1, z1⟩ := addH _ _ _ _ V3 (has_some (qtr o1.ticks)) (has_some (qtr o2.ticks))
      obtain ⟨u2, k2, r2, z2⟩ := divH _ _ u1 4611686018427387904 (V3.drewN k1) z1 (has_some _)
      obtain ⟨u3, k3, r3, z3⟩ := subH _ _ _ _ ((V3.drewN (k1 + k2)).setCell ⟨n3, 1, none⟩ (.float .f64 u2)) (has_some (qtr o2.ticks)) (has_some (qtr o1.ticks))
      have HMD : Hid (HasF (mdO (quOf true (ofSide l 1)) (quOf false (ofSide l 2))) u2) := by
        have h : HasF (mdO (quOf true (ofSide l 1)) (quOf false (ofSide l 2))) u2 := by rw [unhide HE1]; exact z2
        exact h
      have HSP : Hid (HasF (spO (quOf true (ofSide l 1)) (quOf false (ofSide l 2))) u3) := by
        have h : HasF (spO (quOf true (ofSide l 1)) (quOf false (ofSide l 2))) u3 := by rw [unhide HE2]; exact z3
        exact h
      clear z1 z2 z3 HE1 HE2
      go_wp2_with fail
      refine (priceS_any _ _).mono ?_
      rintro e V3 ⟨rfl, rfl⟩
      go_wp2_with fail
      refine (priceS_any _ _).mono ?_
      rintro e V3 ⟨rfl, rfl⟩
      go_wp2_with fail
      have HFS4 : Hid (Fs w ((((V3.drewN (k1 + k2)).setCell ⟨n3, 1, none⟩ (.float .f64 u2)).drewN k3).setCell ⟨n3, 2, none⟩ (.float .f64 u3)) n3 [.int .i64 ta, .int .i64 tb, .int .i64 tc, .int .i64 td, .int .i64 te, .int .i64 tf, .int .i64 tg, .int .i64 th] [.int .i64 next, .slice (some ⟨bb, off, none⟩) l.length cap] [.float .f64 0, .float .f64 0, .float .f64 0, .float .f64 0] [.float .f64 x1, .float .f64 u2, .float .f64 u3, .float .f64 0]) := fs_set (j := 2) (u := .float .f64 u3) (fs_drewN (fs_set (j := 1) (u := .float .f64 u2) (fs_drewN (unhide HFS3) (k1 + k2)) (by simp)) k3) (by simp)
      generalize ((((V3.drewN (k1 + k2)).setCell ⟨n3, 1, none⟩ (.float .f64 u2)).drewN k3).setCell ⟨n3, 2, none⟩ (.float .f64 u3)) = W at HFS4 ⊢
      generalize u2 = ym at HFS4 HMD
      generalize u3 = ys at HFS4 HSP
      clear HFS3 b1 y1 q1 y2 q2 h10 HTAIL g1 g2 r1 r2 r3
      have hcell : ∀ (k : Nat) (c : Od), l[k]? = some c → ∃ b9 o9, (some (⟨bb, off, none⟩ : Addr)) = some ⟨b9, o9, none⟩ ∧ W.rangeAt b9 (o9 + k * 6) c.vs := by
        intro k c hk
        obtain ⟨a', cap', ea, _, hcc⟩ := unhide HR
        obtain ⟨b9, o9, h1, h2, h3⟩ := hcc (by intro h; rw [h] at hk; simp at hk)
        have ea' : (some (⟨bb, off, none⟩ : Addr)) = a' := by
          have := ea
          simp only [Value.slice.injEq, true_and] at this
          exact this.1
        exact ⟨b9, o9, ea'.trans h1, range_below (h3 k c hk) (unhide HFS4).g.b h2⟩
      have HC := hide hcell
      clear hcell
      have b1 : W.cell? ⟨w.heap.size + 1, 1, none⟩ = some (.slice (some (⟨bb, off, none⟩ : Addr)) l.length cap) := bx_cell (unhide HFS4).g.k 1 rfl
      have HBD : Hid (∀ k sd, 0 ≤ sumL (ofSide (l.take k) sd) ∧ sumL (ofSide (l.take k) sd) ≤ 20000000) := fun k sd => by
        have hb := sumL_bound (ofSide (l.take k) sd) (fun o ho => unhide HLB o (List.mem_of_mem_take (List.mem_filter.1 ho).1))
        have hn : (ofSide (l.take k) sd).length ≤ 20 := Nat.le_trans (List.length_filter_le _ _) (Nat.le_trans (List.length_take_le' _ _) h2)
        omega
      go_loopw [13, 14, 15] (fun bv sv iv wq => ∃ k : Nat, k ≤ l.length ∧ bv = .int .i64 (sumL (ofSide (l.take k) 1)) ∧ sv = .int .i64 (sumL (ofSide (l.take k) 2)) ∧ iv = .int .i64 k ∧ wq = W) (fun _ _ iv _ => l.length - (intOf iv).toNat)
      case atStart => exact ⟨0, Nat.zero_le _, rfl, rfl, rfl, rfl⟩
      case round =>
        obtain ⟨k, hk, rfl, rfl, rfl, rfl⟩ := hrel
        have q1 := unhide HBD k 1
        have q2 := unhide HBD k 2
        by_cases hlt : k < l.length
        · obtain ⟨c, hkc⟩ : ∃ c, l[k]? = some c := ⟨_, List.getElem?_eq_getElem hlt⟩
          obtain ⟨b', off', ea, hcl⟩ := unhide HC k c hkc
          have hlt' : (k : Int) < l.length := by omega
          have hsd := unhide HSD c (List.mem_of_getElem? hkc)
          have HS1 := hide (ofSide_take hkc 1)
          have HS2 := hide (ofSide_take hkc 2)
          have p1 := unhide HBD (k + 1) 1
          have p2 := unhide HBD (k + 1) 2
          have hcl0 := unhide HLB c (List.mem_of_getElem? hkc)
          rw [unhide HS1] at p1
          rw [unhide HS2] at p2
          obtain ⟨-, g1, -, g3, -, -⟩ := od_cells hcl
          obtain ⟨rfl, rfl⟩ : bb = b' ∧ off = off' := by simpa using ea
          clear hcl hkc
          generalize sumL (ofSide (l.take k) 1) = A at q1 p1 HS1
          generalize sumL (ofSide (l.take k) 2) = B at q2 p2 HS2
          obtain ⟨q1a, q1b⟩ := q1
          obtain ⟨q2a, q2b⟩ := q2
          obtain ⟨hc0, hc1⟩ := hcl0
          by_cases hs : c.side = 1
          · have hs' : (c.side == 1) = true := by rw [hs]; rfl
            have HN1 : Hid (sumL (ofSide (l.take (k + 1)) 1) = A + c.left) := by
              have h := unhide HS1
              rw [if_pos hs] at h
              exact h
            have HN2 : Hid (sumL (ofSide (l.take (k + 1)) 2) = B) := by
              have h := unhide HS2
              rw [if_neg (by omega), Int.add_zero] at h
              exact h
            clear HS1 HS2 p1 p2 hsd hs
            go_wp2_with fail
            go_roundw
            case rel => exact ⟨k + 1, by omega, by rw [unhide HN1], by rw [unhide HN2], by go_num, trivial⟩
            case measure => simp [intOf]; omega
          · have hs' : (c.side == 1) = false := by rw [beq_eq_false_iff_ne]; exact hs
            have HN1 : Hid (sumL (ofSide (l.take (k + 1)) 1) = A) := by
              have h := unhide HS1
              rw [if_neg hs, Int.add_zero] at h
              exact h
            have HN2 : Hid (sumL (ofSide (l.take (k + 1)) 2) = B + c.left) := by
              have h := unhide HS2
              rw [if_pos (by omega)] at h
              exact h
            clear HS1 HS2 p1 p2 hsd hs
            go_wp2_with fail
            go_roundw
            case rel => exact ⟨k + 1, by omega, by rw [unhide HN1], by rw [unhide HN2], by go_num, trivial⟩
            case measure => simp [intOf]; omega
        · have hnl : ¬ (k : Int) < l.length := by omega
          have HK1 : Hid (sumL (ofSide (l.take k) 1) = sumL (ofSide l 1) ∧ sumL (ofSide (l.take k) 2) = sumL (ofSide l 2)) := by rw [List.take_of_length_le (by omega)]; exact ⟨rfl, rfl⟩
          generalize sumL (ofSide (l.take k) 1) = A at q1 HK1
          generalize sumL (ofSide (l.take k) 2) = B at q2 HK1
          obtain ⟨q1a, q1b⟩ := q1
          obtain ⟨q2a, q2b⟩ := q2
          obtain ⟨y4, k4, r4, z4⟩ := divH _ _ _ _ wr (has_some (floatOfInt .f64 (A - B))) (has_some (floatOfInt .f64 (A + B)))
          have Z4 : Hid (HasF (tlO (sumL (ofSide l 1)) (sumL (ofSide l 2))) y4) := by
            have h : HasF (tlO (sumL (ofSide l 1)) (sumL (ofSide l 2))) y4 := by rw [← (unhide HK1).1, ← (unhide HK1).2]; exact z4
            exact h
          have HFS5 : Hid (Fs w ((wr.drewN k4).setCell ⟨n3, 3, none⟩ (.float .f64 y4)) n3 [.int .i64 ta, .int .i64 tb, .int .i64 tc, .int .i64 td, .int .i64 te, .int .i64 tf, .int .i64 tg, .int .i64 th] [.int .i64 next, .slice (some (⟨bb, off, none⟩ : Addr)) l.length cap] [.float .f64 0, .float .f64 0, .float .f64 0, .float .f64 0] [.float .f64 x1, .float .f64 ym, .float .f64 ys, .float .f64 y4]) := fs_set (j := 3) (u := .float .f64 y4) (fs_drewN (unhide HFS4) k4) (by simp)
          have f3 : wr.cell? ⟨n3, 3, none⟩ = some (.float .f64 0) := bx_cell (unhide HFS4).f 3 rfl
          have q3 : wr.frozen? ⟨n3, 3, none⟩ = false := bx_free (unhide HFS4).f 3 (by simp)
          have w0 : ((wr.drewN k4).setCell ⟨n3, 3, none⟩ (.float .f64 y4)).cell? ⟨n3, 0, none⟩ = some (.float .f64 x1) := bx_cell (unhide HFS5).f 0 rfl
          have w1 : ((wr.drewN k4).setCell ⟨n3, 3, none⟩ (.float .f64 y4)).cell? ⟨n3, 1, none⟩ = some (.float .f64 ym) := bx_cell (unhide HFS5).f 1 rfl
          have w2 : ((wr.drewN k4).setCell ⟨n3, 3, none⟩ (.float .f64 y4)).cell? ⟨n3, 2, none⟩ = some (.float .f64 ys) := bx_cell (unhide HFS5).f 2 rfl
          have w3 : ((wr.drewN k4).setCell ⟨n3, 3, none⟩ (.float .f64 y4)).cell? ⟨n3, 3, none⟩ = some (.float .f64 y4) := bx_cell (unhide HFS5).f 3 rfl
          have v0 : ((wr.drewN k4).setCell ⟨n3, 3, none⟩ (.float .f64 y4)).cell? ⟨w.heap.size + 1 + 1, 0, none⟩ = some (.float .f64 0) := bx_cell (unhide HFS5).g.o 0 rfl
          have t0 : ((wr.drewN k4).setCell ⟨n3, 3, none⟩ (.float .f64 y4)).frozen? ⟨w.heap.size + 1 + 1, 0, none⟩ = false := bx_free (unhide HFS5).g.o 0 (by decide)
          have v1 : ((wr.drewN k4).setCell ⟨n3, 3, none⟩ (.float .f64 y4)).cell? ⟨w.heap.size + 1 + 1, 1, none⟩ = some (.float .f64 0) := bx_cell (unhide HFS5).g.o 1 rfl
          have t1 : ((wr.drewN k4).setCell ⟨n3, 3, none⟩ (.float .f64 y4)).frozen? ⟨w.heap.size + 1 + 1, 1, none⟩ = false := bx_free (unhide HFS5).g.o 1 (by decide)
          have v2 : ((wr.drewN k4).setCell ⟨n3, 3, none⟩ (.float .f64 y4)).cell? ⟨w.heap.size + 1 + 1, 2, none⟩ = some (.float .f64 0) := bx_cell (unhide HFS5).g.o 2 rfl
          have t2 : ((wr.drewN k4).setCell ⟨n3, 3, none⟩ (.float .f64 y4)).frozen? ⟨w.heap.size + 1 + 1, 2, none⟩ = false := bx_free (unhide HFS5).g.o 2 (by decide)
          have v3 : ((wr.drewN k4).setCell ⟨n3, 3, none⟩ (.float .f64 y4)).cell? ⟨w.heap.size + 1 + 1, 3, none⟩ = some (.float .f64 0) := bx_cell (unhide HFS5).g.o 3 rfl
          have t3 : ((wr.drewN k4).setCell ⟨n3, 3, none⟩ (.float .f64 y4)).frozen? ⟨w.heap.size + 1 + 1, 3, none⟩ = false := bx_free (unhide HFS5).g.o 3 (by decide)
          have HR8 := hide (bx_setCells (us := [.float .f64 x1, .float .f64 ym, .float .f64 ys, .float .f64 y4]) (unhide HFS5).g.o rfl)
          have HB8 := hide (below_setCells (w.heap.size + 1 + 1) (by omega) [.float .f64 x1, .float .f64 ym, .float .f64 ys, .float .f64 y4] 0 ((wr.drewN k4).setCell ⟨n3, 3, none⟩ (.float .f64 y4)) (unhide HFS5).g.b)
          clear z4 HK1
          go_wp2_with fail
          change bodyPost _ _ _ _ _ (((wr.drewN k4).setCell ⟨n3, 3, none⟩ (.float .f64 y4)).setCells (w.heap.size + 1 + 1) 0 [.float .f64 x1, .float .f64 ym, .float .f64 ys, .float .f64 y4])
          generalize ((wr.drewN k4).setCell ⟨n3, 3, none⟩ (.float .f64 y4)).setCells (w.heap.size + 1 + 1) 0 [.float .f64 x1, .float .f64 ym, .float .f64 ys, .float .f64 y4] = WE at HR8 HB8 ⊢
          have d0 : WE.cell? ⟨w.heap.size + 1 + 1, 0, none⟩ = some (.float .f64 x1) := bx_cell (unhide HR8) 0 rfl
          have d1 : WE.cell? ⟨w.heap.size + 1 + 1, 1, none⟩ = some (.float .f64 ym) := bx_cell (unhide HR8) 1 rfl
          have d2 : WE.cell? ⟨w.heap.size + 1 + 1, 2, none⟩ = some (.float .f64 ys) := bx_cell (unhide HR8) 2 rfl
          have d3 : WE.cell? ⟨w.heap.size + 1 + 1, 3, none⟩ = some (.float .f64 y4) := bx_cell (unhide HR8) 3 rfl
          refine bodyPost_ret (by simp [results, Try.results7, go_sem, d0, d1, d2, d3]; try rfl) rfl ?_
          exact ⟨x1, ym, ys, y4, rfl, unhide Z1, unhide HMD, unhide HSP, unhide Z4, unhide HB8⟩
end Go.Proofs.Ythmgkabpcjkieaa
