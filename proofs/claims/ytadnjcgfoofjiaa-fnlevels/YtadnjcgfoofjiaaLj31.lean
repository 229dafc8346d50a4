/-
  The front of a book, by the program and by the model: proved by walking both functions. (what walks the functions of the model or of the laws)
-/
import Derived.Test.YtadnjcgfoofjiaaLj30
namespace Go.Proofs.Ytadnjcgfoofjiaa
open Go.RowKit
set_option linter.unusedVariables false

set_option maxRecDepth 100000 in
set_option maxHeartbeats 800000 in
theorem implFront_any (next : Int) (v : Value) (l : List Od) (sd : Int) (w : World) (hr : RdR Od.vs 6 w v l) (hg : ∀ c ∈ l, c.tag.size ≤ maxLen) :
    Calls Try.prog 11 #[.agg #[.int .i64 next, v], .int .i64 sd] w fun e w' => e = .returned (frRes next l sd) ∧ Below w.heap.size w w' := by
  have HR := hide hr
  have HG := hide hg
  obtain ⟨a, cap, rfl, hlen, hc⟩ := hr
  have hcell : ∀ (k : Nat) (c : Od), l[k]? = some c → ∃ b off, a = some ⟨b, off, none⟩ ∧ b < w.heap.size ∧ w.rangeAt b (off + k * 6) c.vs := by
    intro k c hk
    obtain ⟨b, off, h1, h2, h3⟩ := hc (by intro h; rw [h] at hk; simp at hk)
    exact ⟨b, off, h1, h2, h3 k c hk⟩
  have HC := hide hcell
  clear hcell hc hg
  have hs1 : (w.alloc (Obj.cells #[.int .i64 next, .slice a l.length cap] 25)).heap.size = w.heap.size + 1 := size_made _ _
  have hs2 : ((w.alloc (Obj.cells #[.int .i64 next, .slice a l.length cap] 25)).alloc (Obj.cells #[.int .i64 0, .int .i64 0, .int .i64 0, .int .i64 0, .int .i64 0, .string ⟨#[]⟩] 33)).heap.size = w.heap.size + 1 + 1 := by rw [size_made, hs1]
  have b1 := range_below (cells_made w [.int .i64 next, .slice a l.length cap] 25) ((Below.refl (w.alloc (Obj.cells #[.int .i64 next, .slice a l.length cap] 25)).heap.size _).alloc (Nat.le_refl _) (Obj.cells #[.int .i64 0, .int .i64 0, .int .i64 0, .int .i64 0, .int .i64 0, .string ⟨#[]⟩] 33)) (by rw [size_made]; omega)
  have t1 := there_block (n := 6) (heap_alloc_new (w.alloc (Obj.cells #[.int .i64 next, .slice a l.length cap] 25)) (Obj.cells #[.int .i64 0, .int .i64 0, .int .i64 0, .int .i64 0, .int .i64 0, .string ⟨#[]⟩] 33)) (by simp)
  rw [hs1] at t1
  have HB0 : Hid (Below w.heap.size w ((w.alloc (Obj.cells #[.int .i64 next, .slice a l.length cap] 25)).alloc (Obj.cells #[.int .i64 0, .int .i64 0, .int .i64 0, .int .i64 0, .int .i64 0, .string ⟨#[]⟩] 33))) := ((Below.refl _ _).alloc (Nat.le_refl _) _).alloc (by rw [hs1]; omega) _
  have HX : Hid (World.rangeAt ((w.alloc (Obj.cells #[.int .i64 next, .slice a l.length cap] 25)).alloc (Obj.cells #[.int .i64 0, .int .i64 0, .int .i64 0, .int .i64 0, .int .i64 0, .string ⟨#[]⟩] 33)) w.heap.size 0 [.int .i64 next, .slice a l.length cap] ∧ World.there ((w.alloc (Obj.cells #[.int .i64 next, .slice a l.length cap] 25)).alloc (Obj.cells #[.int .i64 0, .int .i64 0, .int .i64 0, .int .i64 0, .int .i64 0, .string ⟨#[]⟩] 33)) (w.heap.size + 1) 0 6) := ⟨b1, t1⟩
  have HS2 := hide hs2
  clear hs1 hs2 b1 t1
  go_enter Try.func11, Try.ntmps11
  go_wp2_with fail
  generalize ((w.alloc (Obj.cells #[.int .i64 next, .slice a l.length cap] 25)).alloc (Obj.cells #[.int .i64 0, .int .i64 0, .int .i64 0, .int .i64 0, .int .i64 0, .string ⟨#[]⟩] 33)) = W2 at HB0 HX HS2 ⊢
  refine (implBookOK_any next _ l W2 (rdR_below (unhide HR) (unhide HB0) (Nat.le_refl _)) (unhide HG)).mono ?_
  rw [okI_eq]
  rintro e w3 ⟨rfl, hb3⟩
  have HB3 := hide ((unhide HB0).trans (hb3.mono (unhide HB0).size))
  have HTH3 := hide (there_below (unhide HX).2 hb3 (by rw [unhide HS2]; omega))
  have c0 : w3.cell? ⟨w.heap.size, 0, none⟩ = some (.int .i64 next) := range_below (unhide HX).1 hb3 (by rw [unhide HS2]; omega) 0 _ rfl
  have c1 : w3.cell? ⟨w.heap.size, 1, none⟩ = some (.slice a l.length cap) := range_below (unhide HX).1 hb3 (by rw [unhide HS2]; omega) 1 _ rfl
  have hsz3 : w.heap.size + 2 ≤ w3.heap.size := by have := hb3.size; rw [unhide HS2] at this; omega
  clear hb3
  cases hok : okS next l
  · have HF : Hid (frRes next l sd = .tuple #[zOdv, .int .i64 1]) := by show _ = _; rw [frRes, hok]; rfl
    clear hok
    obtain ⟨⟨x0, y0, z0⟩, ⟨x1, y1, z1⟩, ⟨x2, y2, z2⟩, ⟨x3, y3, z3⟩, ⟨x4, y4, z4⟩, x5, y5, z5⟩ := there6 (unhide HTH3)
    have r6 : World.rangeAt ((((((w3.setCell ⟨w.heap.size + 1, 0, none⟩ (.int .i64 0)).setCell ⟨w.heap.size + 1, 1, none⟩ (.int .i64 0)).setCell ⟨w.heap.size + 1, 2, none⟩ (.int .i64 0)).setCell ⟨w.heap.size + 1, 3, none⟩ (.int .i64 0)).setCell ⟨w.heap.size + 1, 4, none⟩ (.int .i64 0)).setCell ⟨w.heap.size + 1, 5, none⟩ (.string ⟨#[]⟩)) (w.heap.size + 1) 0 [.int .i64 0, .int .i64 0, .int .i64 0, .int .i64 0, .int .i64 0, .string ⟨#[]⟩] := set6_range (unhide HTH3)
    have HB6 : Hid (Below w.heap.size w ((((((w3.setCell ⟨w.heap.size + 1, 0, none⟩ (.int .i64 0)).setCell ⟨w.heap.size + 1, 1, none⟩ (.int .i64 0)).setCell ⟨w.heap.size + 1, 2, none⟩ (.int .i64 0)).setCell ⟨w.heap.size + 1, 3, none⟩ (.int .i64 0)).setCell ⟨w.heap.size + 1, 4, none⟩ (.int .i64 0)).setCell ⟨w.heap.size + 1, 5, none⟩ (.string ⟨#[]⟩))) := set6_below (unhide HB3) (by omega)
    go_wp2_with fail
    generalize ((((((w3.setCell ⟨w.heap.size + 1, 0, none⟩ (.int .i64 0)).setCell ⟨w.heap.size + 1, 1, none⟩ (.int .i64 0)).setCell ⟨w.heap.size + 1, 2, none⟩ (.int .i64 0)).setCell ⟨w.heap.size + 1, 3, none⟩ (.int .i64 0)).setCell ⟨w.heap.size + 1, 4, none⟩ (.int .i64 0)).setCell ⟨w.heap.size + 1, 5, none⟩ (.string ⟨#[]⟩)) = W6 at r6 HB6 ⊢
    have d0 : W6.cell? ⟨w.heap.size + 1, 0, none⟩ = some (.int .i64 0) := r6 0 _ rfl
    have d1 : W6.cell? ⟨w.heap.size + 1, 1, none⟩ = some (.int .i64 0) := r6 1 _ rfl
    have d2 : W6.cell? ⟨w.heap.size + 1, 2, none⟩ = some (.int .i64 0) := r6 2 _ rfl
    have d3 : W6.cell? ⟨w.heap.size + 1, 3, none⟩ = some (.int .i64 0) := r6 3 _ rfl
    have d4 : W6.cell? ⟨w.heap.size + 1, 4, none⟩ = some (.int .i64 0) := r6 4 _ rfl
    have d5 : W6.cell? ⟨w.heap.size + 1, 5, none⟩ = some (.string ⟨#[]⟩) := r6 5 _ rfl
    try simp only [Exit.inBlock, Exit.then]
    refine bodyPost_ret (by simp [results, Try.results11, go_sem, d0, d1, d2, d3, d4, d5]; try rfl) rfl ?_
    exact ⟨by rw [unhide HF]; rfl, unhide HB6⟩
  obtain ⟨hn, hri, hlb⟩ := okS_left hok
  have HOK := hide hok
  have HRI := hide hri
  have HLB := hide hlb
  have HR3 := hide (rdR_below (unhide HR) (unhide HB3) (Nat.le_refl _))
  clear hok hri hlb
  have HQ : Hid (∀ (fv : Value) (w5 : World), True) := fun _ _ => trivial
  have HSIDE : Hid (∃ s : Bool, s = decide (sd = 1)) := ⟨_, rfl⟩
  generalize hq : quOf (decide (sd = 1)) (ofSide l sd) = q
  have HQ2 := hide hq
  clear hq HQ HSIDE
  by_cases hs1 : sd = 1
  · subst hs1
    go_wp2_with fail
    refine (sideOf_buy next _ l w3 (unhide HR3) hn (unhide HLB)).mono ?_
    rintro e w4 ⟨b, rfl, ht, hle, hb4⟩
    have HT4 := hide ht
    have HB4 := hide ((unhide HB3).trans (hb4.mono (unhide HB3).size))
    have HTH4 := hide (there_below (unhide HTH3) hb4 (by omega))
    have hsz4 : w.heap.size + 2 ≤ w4.heap.size := Nat.le_trans hsz3 hb4.size
    have nq : (ofSide l 1).length ≤ 20 := Nat.le_trans (List.length_filter_le _ _) hn
    clear ht hle hb4 c0 c1
    unfold side_b
    have hfl := field0_b b w4
    go_wp2_with fail
    refine (front_b b 1 (ofSide l 1) w4 (unhide HT4) nq).mono ?_
    rintro e w5 ⟨rfl, hb5⟩
    have hqq : quOf true (ofSide l 1) = q := by rw [← unhide HQ2]; simp
    rw [hqq, frOf_eq]
    have HQQ : Hid (quOf (decide ((1 : Int) = 1)) (ofSide l 1) = q) := hqq
    have HB5 := hide ((unhide HB4).trans (hb5.mono (unhide HB4).size))
    have HTH5 := hide (there_below (unhide HTH4) hb5 (by omega))
    have hsz5 : w.heap.size + 2 ≤ w5.heap.size := Nat.le_trans hsz4 hb5.size
    generalize hx : hdO q = x
    generalize hf : hdF q = f1
    have HXF : Hid (hdO q = x ∧ hdF q = f1) := ⟨hx, hf⟩
    clear hb5 hx hf hqq
    have HW6 : Hid (World.there (w5.alloc (Obj.cells #[.int .i64 x.id, .int .i64 x.side, .int .i64 x.ticks, .int .i64 x.left, .int .i64 x.life, .string x.tag] 33)) (w.heap.size + 1) 0 6 ∧ Below w.heap.size w (w5.alloc (Obj.cells #[.int .i64 x.id, .int .i64 x.side, .int .i64 x.ticks, .int .i64 x.left, .int .i64 x.life, .string x.tag] 33)) ∧ World.rangeAt (w5.alloc (Obj.cells #[.int .i64 x.id, .int .i64 x.side, .int .i64 x.ticks, .int .i64 x.left, .int .i64 x.life, .string x.tag] 33)) w5.heap.size 0 x.vs) :=
      ⟨there_below (unhide HTH5) ((Below.refl w5.heap.size w5).alloc (Nat.le_refl _) _) (by omega), (unhide HB5).alloc (unhide HB5).size _, cells_made w5 x.vs _⟩
    cases f1
    · have HF : Hid (frRes next l 1 = .tuple #[zOdv, .int .i64 6]) := by
        show _ = _
        rw [frRes, if_pos (unhide HOK), unhide HQQ]
        have := (unhide HXF).2
        unfold hdF at this
        cases hh : q.head? with
        | none => rfl
        | some o => rw [hh] at this; cases this
      obtain ⟨⟨x0, y0, z0⟩, ⟨x1, y1, z1⟩, ⟨x2, y2, z2⟩, ⟨x3, y3, z3⟩, ⟨x4, y4, z4⟩, x5, y5, z5⟩ := there6 (unhide HW6).1
      have r6 : World.rangeAt (((((((w5.alloc (Obj.cells #[.int .i64 x.id, .int .i64 x.side, .int .i64 x.ticks, .int .i64 x.left, .int .i64 x.life, .string x.tag] 33)).setCell ⟨w.heap.size + 1, 0, none⟩ (.int .i64 0)).setCell ⟨w.heap.size + 1, 1, none⟩ (.int .i64 0)).setCell ⟨w.heap.size + 1, 2, none⟩ (.int .i64 0)).setCell ⟨w.heap.size + 1, 3, none⟩ (.int .i64 0)).setCell ⟨w.heap.size + 1, 4, none⟩ (.int .i64 0)).setCell ⟨w.heap.size + 1, 5, none⟩ (.string ⟨#[]⟩)) (w.heap.size + 1) 0 [.int .i64 0, .int .i64 0, .int .i64 0, .int .i64 0, .int .i64 0, .string ⟨#[]⟩] := set6_range (unhide HW6).1
      have HB6 : Hid (Below w.heap.size w (((((((w5.alloc (Obj.cells #[.int .i64 x.id, .int .i64 x.side, .int .i64 x.ticks, .int .i64 x.left, .int .i64 x.life, .string x.tag] 33)).setCell ⟨w.heap.size + 1, 0, none⟩ (.int .i64 0)).setCell ⟨w.heap.size + 1, 1, none⟩ (.int .i64 0)).setCell ⟨w.heap.size + 1, 2, none⟩ (.int .i64 0)).setCell ⟨w.heap.size + 1, 3, none⟩ (.int .i64 0)).setCell ⟨w.heap.size + 1, 4, none⟩ (.int .i64 0)).setCell ⟨w.heap.size + 1, 5, none⟩ (.string ⟨#[]⟩))) := set6_below (unhide HW6).2.1 (by omega)
      have HR6 := hide r6
      clear r6
      go_wp2_with fail
      generalize (((((((w5.alloc (Obj.cells #[.int .i64 x.id, .int .i64 x.side, .int .i64 x.ticks, .int .i64 x.left, .int .i64 x.life, .string x.tag] 33)).setCell ⟨w.heap.size + 1, 0, none⟩ (.int .i64 0)).setCell ⟨w.heap.size + 1, 1, none⟩ (.int .i64 0)).setCell ⟨w.heap.size + 1, 2, none⟩ (.int .i64 0)).setCell ⟨w.heap.size + 1, 3, none⟩ (.int .i64 0)).setCell ⟨w.heap.size + 1, 4, none⟩ (.int .i64 0)).setCell ⟨w.heap.size + 1, 5, none⟩ (.string ⟨#[]⟩)) = W6 at HR6 HB6 ⊢
      have d0 : W6.cell? ⟨w.heap.size + 1, 0, none⟩ = some (.int .i64 0) := unhide HR6 0 _ rfl
      have d1 : W6.cell? ⟨w.heap.size + 1, 1, none⟩ = some (.int .i64 0) := unhide HR6 1 _ rfl
      have d2 : W6.cell? ⟨w.heap.size + 1, 2, none⟩ = some (.int .i64 0) := unhide HR6 2 _ rfl
      have d3 : W6.cell? ⟨w.heap.size + 1, 3, none⟩ = some (.int .i64 0) := unhide HR6 3 _ rfl
      have d4 : W6.cell? ⟨w.heap.size + 1, 4, none⟩ = some (.int .i64 0) := unhide HR6 4 _ rfl
      have d5 : W6.cell? ⟨w.heap.size + 1, 5, none⟩ = some (.string ⟨#[]⟩) := unhide HR6 5 _ rfl
      try simp only [Exit.inBlock, Exit.then]
      refine bodyPost_ret (by simp [results, Try.results11, go_sem, d0, d1, d2, d3, d4, d5]; try rfl) rfl ?_
      exact ⟨by rw [unhide HF]; rfl, unhide HB6⟩
    · have HF : Hid (frRes next l 1 = .tuple #[x.val, .int .i64 0]) := by
        show _ = _
        rw [frRes, if_pos (unhide HOK), unhide HQQ]
        have h1 := (unhide HXF).1
        have h2 := (unhide HXF).2
        unfold hdF at h2
        unfold hdO at h1
        cases hh : q.head? with
        | none => rw [hh] at h2; cases h2
        | some o => rw [hh] at h1; simp at h1; rw [h1]
      obtain ⟨⟨x0, y0, z0⟩, ⟨x1, y1, z1⟩, ⟨x2, y2, z2⟩, ⟨x3, y3, z3⟩, ⟨x4, y4, z4⟩, x5, y5, z5⟩ := there6 (unhide HW6).1
      have r6 : World.rangeAt (((((((w5.alloc (Obj.cells #[.int .i64 x.id, .int .i64 x.side, .int .i64 x.ticks, .int .i64 x.left, .int .i64 x.life, .string x.tag] 33)).setCell ⟨w.heap.size + 1, 0, none⟩ (.int .i64 x.id)).setCell ⟨w.heap.size + 1, 1, none⟩ (.int .i64 x.side)).setCell ⟨w.heap.size + 1, 2, none⟩ (.int .i64 x.ticks)).setCell ⟨w.heap.size + 1, 3, none⟩ (.int .i64 x.left)).setCell ⟨w.heap.size + 1, 4, none⟩ (.int .i64 x.life)).setCell ⟨w.heap.size + 1, 5, none⟩ (.string x.tag)) (w.heap.size + 1) 0 [.int .i64 x.id, .int .i64 x.side, .int .i64 x.ticks, .int .i64 x.left, .int .i64 x.life, .string x.tag] := set6_range (unhide HW6).1
      have HB6 : Hid (Below w.heap.size w (((((((w5.alloc (Obj.cells #[.int .i64 x.id, .int .i64 x.side, .int .i64 x.ticks, .int .i64 x.left, .int .i64 x.life, .string x.tag] 33)).setCell ⟨w.heap.size + 1, 0, none⟩ (.int .i64 x.id)).setCell ⟨w.heap.size + 1, 1, none⟩ (.int .i64 x.side)).setCell ⟨w.heap.size + 1, 2, none⟩ (.int .i64 x.ticks)).setCell ⟨w.heap.size + 1, 3, none⟩ (.int .i64 x.left)).setCell ⟨w.heap.size + 1, 4, none⟩ (.int .i64 x.life)).setCell ⟨w.heap.size + 1, 5, none⟩ (.string x.tag))) := set6_below (unhide HW6).2.1 (by omega)
      have HR6 := hide r6
      clear r6
      go_wp2_with fail
      generalize (((((((w5.alloc (Obj.cells #[.int .i64 x.id, .int .i64 x.side, .int .i64 x.ticks, .int .i64 x.left, .int .i64 x.life, .string x.tag] 33)).setCell ⟨w.heap.size + 1, 0, none⟩ (.int .i64 x.id)).setCell ⟨w.heap.size + 1, 1, none⟩ (.int .i64 x.side)).setCell ⟨w.heap.size + 1, 2, none⟩ (.int .i64 x.ticks)).setCell ⟨w.heap.size + 1, 3, none⟩ (.int .i64 x.left)).setCell ⟨w.heap.size + 1, 4, none⟩ (.int .i64 x.life)).setCell ⟨w.heap.size + 1, 5, none⟩ (.string x.tag)) = W6 at HR6 HB6 ⊢
      have d0 : W6.cell? ⟨w.heap.size + 1, 0, none⟩ = some (.int .i64 x.id) := unhide HR6 0 _ rfl
      have d1 : W6.cell? ⟨w.heap.size + 1, 1, none⟩ = some (.int .i64 x.side) := unhide HR6 1 _ rfl
      have d2 : W6.cell? ⟨w.heap.size + 1, 2, none⟩ = some (.int .i64 x.ticks) := unhide HR6 2 _ rfl
      have d3 : W6.cell? ⟨w.heap.size + 1, 3, none⟩ = some (.int .i64 x.left) := unhide HR6 3 _ rfl
      have d4 : W6.cell? ⟨w.heap.size + 1, 4, none⟩ = some (.int .i64 x.life) := unhide HR6 4 _ rfl
      have d5 : W6.cell? ⟨w.heap.size + 1, 5, none⟩ = some (.string x.tag) := unhide HR6 5 _ rfl
      try simp only [Exit.inBlock, Exit.then]
      refine bodyPost_ret (by simp [results, Try.results11, go_sem, d0, d1, d2, d3, d4, d5]; try rfl) rfl ?_
      exact ⟨by rw [unhide HF]; rfl, unhide HB6⟩
  · go_wp2_with fail
    refine (sideOf_sell next sd hs1 _ l w3 (unhide HR3) hn (unhide HLB)).mono ?_
    rintro e w4 ⟨b, rfl, ht, hle, hb4⟩
    have HT4 := hide ht
    have HB4 := hide ((unhide HB3).trans (hb4.mono (unhide HB3).size))
    have HTH4 := hide (there_below (unhide HTH3) hb4 (by omega))
    have hsz4 : w.heap.size + 2 ≤ w4.heap.size := Nat.le_trans hsz3 hb4.size
    have nq : (ofSide l sd).length ≤ 20 := Nat.le_trans (List.length_filter_le _ _) hn
    clear ht hle hb4 c0 c1
    unfold side_s
    have hfl := field0_s b w4
    go_wp2_with fail
    refine (front_s b sd (ofSide l sd) w4 (unhide HT4) nq).mono ?_
    rintro e w5 ⟨rfl, hb5⟩
    have hqq : quOf false (ofSide l sd) = q := by rw [← unhide HQ2]; simp [hs1]
    rw [hqq, frOf_eq]
    have HQQ : Hid (quOf (decide (sd = 1)) (ofSide l sd) = q) := unhide HQ2
    have HB5 := hide ((unhide HB4).trans (hb5.mono (unhide HB4).size))
    have HTH5 := hide (there_below (unhide HTH4) hb5 (by omega))
    have hsz5 : w.heap.size + 2 ≤ w5.heap.size := Nat.le_trans hsz4 hb5.size
    generalize hx : hdO q = x
    generalize hf : hdF q = f1
    have HXF : Hid (hdO q = x ∧ hdF q = f1) := ⟨hx, hf⟩
    clear hb5 hx hf hqq
    have HW6 : Hid (World.there (w5.alloc (Obj.cells #[.int .i64 x.id, .int .i64 x.side, .int .i64 x.ticks, .int .i64 x.left, .int .i64 x.life, .string x.tag] 33)) (w.heap.size + 1) 0 6 ∧ Below w.heap.size w (w5.alloc (Obj.cells #[.int .i64 x.id, .int .i64 x.side, .int .i64 x.ticks, .int .i64 x.left, .int .i64 x.life, .string x.tag] 33)) ∧ World.rangeAt (w5.alloc (Obj.cells #[.int .i64 x.id, .int .i64 x.side, .int .i64 x.ticks, .int .i64 x.left, .int .i64 x.life, .string x.tag] 33)) w5.heap.size 0 x.vs) :=
      ⟨there_below (unhide HTH5) ((Below.refl w5.heap.size w5).alloc (Nat.le_refl _) _) (by omega), (unhide HB5).alloc (unhide HB5).size _, cells_made w5 x.vs _⟩
    cases f1
    · have HF : Hid (frRes next l sd = .tuple #[zOdv, .int .i64 6]) := by
        show _ = _
        rw [frRes, if_pos (unhide HOK), unhide HQQ]
        have := (unhide HXF).2
        unfold hdF at this
        cases hh : q.head? with
        | none => rfl
        | some o => rw [hh] at this; cases this
      obtain ⟨⟨x0, y0, z0⟩, ⟨x1, y1, z1⟩, ⟨x2, y2, z2⟩, ⟨x3, y3, z3⟩, ⟨x4, y4, z4⟩, x5, y5, z5⟩ := there6 (unhide HW6).1
      have r6 : World.rangeAt (((((((w5.alloc (Obj.cells #[.int .i64 x.id, .int .i64 x.side, .int .i64 x.ticks, .int .i64 x.left, .int .i64 x.life, .string x.tag] 33)).setCell ⟨w.heap.size + 1, 0, none⟩ (.int .i64 0)).setCell ⟨w.heap.size + 1, 1, none⟩ (.int .i64 0)).setCell ⟨w.heap.size + 1, 2, none⟩ (.int .i64 0)).setCell ⟨w.heap.size + 1, 3, none⟩ (.int .i64 0)).setCell ⟨w.heap.size + 1, 4, none⟩ (.int .i64 0)).setCell ⟨w.heap.size + 1, 5, none⟩ (.string ⟨#[]⟩)) (w.heap.size + 1) 0 [.int .i64 0, .int .i64 0, .int .i64 0, .int .i64 0, .int .i64 0, .string ⟨#[]⟩] := set6_range (unhide HW6).1
      have HB6 : Hid (Below w.heap.size w (((((((w5.alloc (Obj.cells #[.int .i64 x.id, .int .i64 x.side, .int .i64 x.ticks, .int .i64 x.left, .int .i64 x.life, .string x.tag] 33)).setCell ⟨w.heap.size + 1, 0, none⟩ (.int .i64 0)).setCell ⟨w.heap.size + 1, 1, none⟩ (.int .i64 0)).setCell ⟨w.heap.size + 1, 2, none⟩ (.int .i64 0)).setCell ⟨w.heap.size + 1, 3, none⟩ (.int .i64 0)).setCell ⟨w.heap.size + 1, 4, none⟩ (.int .i64 0)).setCell ⟨w.heap.size + 1, 5, none⟩ (.string ⟨#[]⟩))) := set6_below (unhide HW6).2.1 (by omega)
      have HR6 := hide r6
      clear r6
      go_wp2_with fail
      generalize (((((((w5.alloc (Obj.cells #[.int .i64 x.id, .int .i64 x.side, .int .i64 x.ticks, .int .i64 x.left, .int .i64 x.life, .string x.tag] 33)).setCell ⟨w.heap.size + 1, 0, none⟩ (.int .i64 0)).setCell ⟨w.heap.size + 1, 1, none⟩ (.int .i64 0)).setCell ⟨w.heap.size + 1, 2, none⟩ (.int .i64 0)).setCell ⟨w.heap.size + 1, 3, none⟩ (.int .i64 0)).setCell ⟨w.heap.size + 1, 4, none⟩ (.int .i64 0)).setCell ⟨w.heap.size + 1, 5, none⟩ (.string ⟨#[]⟩)) = W6 at HR6 HB6 ⊢
      have d0 : W6.cell? ⟨w.heap.size + 1, 0, none⟩ = some (.int .i64 0) := unhide HR6 0 _ rfl
      have d1 : W6.cell? ⟨w.heap.size + 1, 1, none⟩ = some (.int .i64 0) := unhide HR6 1 _ rfl
      have d2 : W6.cell? ⟨w.heap.size + 1, 2, none⟩ = some (.int .i64 0) := unhide HR6 2 _ rfl
      have d3 : W6.cell? ⟨w.heap.size + 1, 3, none⟩ = some (.int .i64 0) := unhide HR6 3 _ rfl
      have d4 : W6.cell? ⟨w.heap.size + 1, 4, none⟩ = some (.int .i64 0) := unhide HR6 4 _ rfl
      have d5 : W6.cell? ⟨w.heap.size + 1, 5, none⟩ = some (.string ⟨#[]⟩) := unhide HR6 5 _ rfl
      try simp only [Exit.inBlock, Exit.then]
      refine bodyPost_ret (by simp [results, Try.results11, go_sem, d0, d1, d2, d3, d4, d5]; try rfl) rfl ?_
      exact ⟨by rw [unhide HF]; rfl, unhide HB6⟩
    · have HF : Hid (frRes next l sd = .tuple #[x.val, .int .i64 0]) := by
        show _ = _
        rw [frRes, if_pos (unhide HOK), unhide HQQ]
        have h1 := (unhide HXF).1
        have h2 := (unhide HXF).2
        unfold hdF at h2
        unfold hdO at h1
        cases hh : q.head? with
        | none => rw [hh] at h2; cases h2
        | some o => rw [hh] at h1; simp at h1; rw [h1]
      obtain ⟨⟨x0, y0, z0⟩, ⟨x1, y1, z1⟩, ⟨x2, y2, z2⟩, ⟨x3, y3, z3⟩, ⟨x4, y4, z4⟩, x5, y5, z5⟩ := there6 (unhide HW6).1
      have r6 : World.rangeAt (((((((w5.alloc (Obj.cells #[.int .i64 x.id, .int .i64 x.side, .int .i64 x.ticks, .int .i64 x.left, .int .i64 x.life, .string x.tag] 33)).setCell ⟨w.heap.size + 1, 0, none⟩ (.int .i64 x.id)).setCell ⟨w.heap.size + 1, 1, none⟩ (.int .i64 x.side)).setCell ⟨w.heap.size + 1, 2, none⟩ (.int .i64 x.ticks)).setCell ⟨w.heap.size + 1, 3, none⟩ (.int .i64 x.left)).setCell ⟨w.heap.size + 1, 4, none⟩ (.int .i64 x.life)).setCell ⟨w.heap.size + 1, 5, none⟩ (.string x.tag)) (w.heap.size + 1) 0 [.int .i64 x.id, .int .i64 x.side, .int .i64 x.ticks, .int .i64 x.left, .int .i64 x.life, .string x.tag] := set6_range (unhide HW6).1
      have HB6 : Hid (Below w.heap.size w (((((((w5.alloc (Obj.cells #[.int .i64 x.id, .int .i64 x.side, .int .i64 x.ticks, .int .i64 x.left, .int .i64 x.life, .string x.tag] 33)).setCell ⟨w.heap.size + 1, 0, none⟩ (.int .i64 x.id)).setCell ⟨w.heap.size + 1, 1, none⟩ (.int .i64 x.side)).setCell ⟨w.heap.size + 1, 2, none⟩ (.int .i64 x.ticks)).setCell ⟨w.heap.size + 1, 3, none⟩ (.int .i64 x.left)).setCell ⟨w.heap.size + 1, 4, none⟩ (.int .i64 x.life)).setCell ⟨w.heap.size + 1, 5, none⟩ (.string x.tag))) := set6_below (unhide HW6).2.1 (by omega)
      have HR6 := hide r6
      clear r6
      go_wp2_with fail
      generalize (((((((w5.alloc (Obj.cells #[.int .i64 x.id, .int .i64 x.side, .int .i64 x.ticks, .int .i64 x.left, .int .i64 x.life, .string x.tag] 33)).setCell ⟨w.heap.size + 1, 0, none⟩ (.int .i64 x.id)).setCell ⟨w.heap.size + 1, 1, none⟩ (.int .i64 x.side)).setCell ⟨w.heap.size + 1, 2, none⟩ (.int .i64 x.ticks)).setCell ⟨w.heap.size + 1, 3, none⟩ (.int .i64 x.left)).setCell ⟨w.heap.size + 1, 4, none⟩ (.int .i64 x.life)).setCell ⟨w.heap.size + 1, 5, none⟩ (.string x.tag)) = W6 at HR6 HB6 ⊢
      have d0 : W6.cell? ⟨w.heap.size + 1, 0, none⟩ = some (.int .i64 x.id) := unhide HR6 0 _ rfl
      have d1 : W6.cell? ⟨w.heap.size + 1, 1, none⟩ = some (.int .i64 x.side) := unhide HR6 1 _ rfl
      have d2 : W6.cell? ⟨w.heap.size + 1, 2, none⟩ = some (.int .i64 x.ticks) := unhide HR6 2 _ rfl
      have d3 : W6.cell? ⟨w.heap.size + 1, 3, none⟩ = some (.int .i64 x.left) := unhide HR6 3 _ rfl
      have d4 : W6.cell? ⟨w.heap.size + 1, 4, none⟩ = some (.int .i64 x.life) := unhide HR6 4 _ rfl
      have d5 : W6.cell? ⟨w.heap.size + 1, 5, none⟩ = some (.string x.tag) := unhide HR6 5 _ rfl
      try simp only [Exit.inBlock, Exit.then]
      refine bodyPost_ret (by simp [results, Try.results11, go_sem, d0, d1, d2, d3, d4, d5]; try rfl) rfl ?_
      exact ⟨by rw [unhide HF]; rfl, unhide HB6⟩
end Go.Proofs.Ytadnjcgfoofjiaa
