/-
  The front of a book, by the model: proved by walking the function; and the exact law of Front.
-/
import Derived.Test.YtfpbpjhnafjcoaaSpecBw
import Derived.Test.YtfpbpjhnafjcoaaSpecWw
import Derived.Test.YtfpbpjhnafjcoaaFrontW
import Derived.Test.YtfpbpjhnafjcoaaBookO
namespace Go.Proofs.Ytfpbpjhnafjcoaa
open Go.RowKit
set_option linter.unusedVariables false

set_option maxRecDepth 100000 in
set_option maxHeartbeats 800000 in
theorem specFront_any (next : Int) (v : Value) (l : List Od) (sd : Int) (w : World) (hr : RdR Od.vs 6 w v l) (hg : ∀ c ∈ l, c.tag.size ≤ maxLen) :
    Calls Try.prog 26 #[.agg #[.int .i64 next, v], .int .i64 sd] w fun e w' => e = .returned (frRes next l sd) ∧ Below w.heap.size w w' := by
  have HR := hide hr
  have HG := hide hg
  obtain ⟨a, cap, rfl, hlen, hc⟩ := hr
  have hcell : ∀ (k : Nat) (c : Od), l[k]? = some c → ∃ b off, a = some ⟨b, off, none⟩ ∧ b < w.heap.size ∧ w.rangeAt b (off + k * 6) c.vs := by
    intro k c hk
    obtain ⟨b, off, h1, h2, h3⟩ := hc (by intro h; rw [h] at hk; simp at hk)
    exact ⟨b, off, h1, h2, h3 k c hk⟩
  have HC := hide hcell
  clear hcell hc hg
  have hs1 : (w.alloc (Obj.cells #[.int .i64 next, .slice a l.length cap] 47)).heap.size = w.heap.size + 1 := size_made _ _
  have hs2 : ((w.alloc (Obj.cells #[.int .i64 next, .slice a l.length cap] 47)).alloc (Obj.cells #[.int .i64 0, .int .i64 0, .int .i64 0, .int .i64 0, .int .i64 0, .string ⟨#[]⟩] 52)).heap.size = w.heap.size + 1 + 1 := by rw [size_made, hs1]
  have b1 := range_below (cells_made w [.int .i64 next, .slice a l.length cap] 47) ((Below.refl (w.alloc (Obj.cells #[.int .i64 next, .slice a l.length cap] 47)).heap.size _).alloc (Nat.le_refl _) (Obj.cells #[.int .i64 0, .int .i64 0, .int .i64 0, .int .i64 0, .int .i64 0, .string ⟨#[]⟩] 52)) (by rw [size_made]; omega)
  have t1 := there_block (n := 6) (heap_alloc_new (w.alloc (Obj.cells #[.int .i64 next, .slice a l.length cap] 47)) (Obj.cells #[.int .i64 0, .int .i64 0, .int .i64 0, .int .i64 0, .int .i64 0, .string ⟨#[]⟩] 52)) (by simp)
  rw [hs1] at t1
  have HB0 : Hid (Below w.heap.size w ((w.alloc (Obj.cells #[.int .i64 next, .slice a l.length cap] 47)).alloc (Obj.cells #[.int .i64 0, .int .i64 0, .int .i64 0, .int .i64 0, .int .i64 0, .string ⟨#[]⟩] 52))) := ((Below.refl _ _).alloc (Nat.le_refl _) _).alloc (by rw [hs1]; omega) _
  have HX : Hid (World.rangeAt ((w.alloc (Obj.cells #[.int .i64 next, .slice a l.length cap] 47)).alloc (Obj.cells #[.int .i64 0, .int .i64 0, .int .i64 0, .int .i64 0, .int .i64 0, .string ⟨#[]⟩] 52)) w.heap.size 0 [.int .i64 next, .slice a l.length cap] ∧ World.there ((w.alloc (Obj.cells #[.int .i64 next, .slice a l.length cap] 47)).alloc (Obj.cells #[.int .i64 0, .int .i64 0, .int .i64 0, .int .i64 0, .int .i64 0, .string ⟨#[]⟩] 52)) (w.heap.size + 1) 0 6) := ⟨b1, t1⟩
  have HS2 := hide hs2
  clear hs1 hs2 b1 t1
  go_enter Try.func26, Try.ntmps26
  go_wp2_with fail
  generalize ((w.alloc (Obj.cells #[.int .i64 next, .slice a l.length cap] 47)).alloc (Obj.cells #[.int .i64 0, .int .i64 0, .int .i64 0, .int .i64 0, .int .i64 0, .string ⟨#[]⟩] 52)) = W2 at HB0 HX HS2 ⊢
  refine (specBookOK_any next _ l W2 (rdR_below (unhide HR) (unhide HB0) (Nat.le_refl _)) (unhide HG)).mono ?_
  rintro e w3 ⟨rfl, hb3⟩
  have HB3 := hide ((unhide HB0).trans (hb3.mono (unhide HB0).size))
  have HTH3 := hide (there_below (unhide HX).2 hb3 (by rw [unhide HS2]; omega))
  have c1 : w3.cell? ⟨w.heap.size, 1, none⟩ = some (.slice a l.length cap) := range_below (unhide HX).1 hb3 (by rw [unhide HS2]; omega) 1 _ rfl
  have hsz3 : w.heap.size + 2 ≤ w3.heap.size := by have := hb3.size; rw [unhide HS2] at this; omega
  clear hb3
  cases hok : okS next l
  · have HF : Hid (frRes next l sd = .tuple #[zOdv, .int .i64 1]) := by show _ = _; rw [frRes, hok]; rfl
    clear hok
    obtain ⟨⟨x0, y0, z0⟩, ⟨x1, y1, z1⟩, ⟨x2, y2, z2⟩, ⟨x3, y3, z3⟩, ⟨x4, y4, z4⟩, x5, y5, z5⟩ := there6 (unhide HTH3)
    have HR6 : Hid (World.rangeAt ((((((w3.setCell ⟨w.heap.size + 1, 0, none⟩ (.int .i64 0)).setCell ⟨w.heap.size + 1, 1, none⟩ (.int .i64 0)).setCell ⟨w.heap.size + 1, 2, none⟩ (.int .i64 0)).setCell ⟨w.heap.size + 1, 3, none⟩ (.int .i64 0)).setCell ⟨w.heap.size + 1, 4, none⟩ (.int .i64 0)).setCell ⟨w.heap.size + 1, 5, none⟩ (.string ⟨#[]⟩)) (w.heap.size + 1) 0 [.int .i64 0, .int .i64 0, .int .i64 0, .int .i64 0, .int .i64 0, .string ⟨#[]⟩]) := set6_range (unhide HTH3)
    have HB6 : Hid (Below w.heap.size w ((((((w3.setCell ⟨w.heap.size + 1, 0, none⟩ (.int .i64 0)).setCell ⟨w.heap.size + 1, 1, none⟩ (.int .i64 0)).setCell ⟨w.heap.size + 1, 2, none⟩ (.int .i64 0)).setCell ⟨w.heap.size + 1, 3, none⟩ (.int .i64 0)).setCell ⟨w.heap.size + 1, 4, none⟩ (.int .i64 0)).setCell ⟨w.heap.size + 1, 5, none⟩ (.string ⟨#[]⟩))) := set6_below (unhide HB3) (by omega)
    go_wp2_with fail
    generalize ((((((w3.setCell ⟨w.heap.size + 1, 0, none⟩ (.int .i64 0)).setCell ⟨w.heap.size + 1, 1, none⟩ (.int .i64 0)).setCell ⟨w.heap.size + 1, 2, none⟩ (.int .i64 0)).setCell ⟨w.heap.size + 1, 3, none⟩ (.int .i64 0)).setCell ⟨w.heap.size + 1, 4, none⟩ (.int .i64 0)).setCell ⟨w.heap.size + 1, 5, none⟩ (.string ⟨#[]⟩)) = W6 at HR6 HB6 ⊢
    have d0 : W6.cell? ⟨w.heap.size + 1, 0, none⟩ = some (.int .i64 0) := unhide HR6 0 _ rfl
    have d1 : W6.cell? ⟨w.heap.size + 1, 1, none⟩ = some (.int .i64 0) := unhide HR6 1 _ rfl
    have d2 : W6.cell? ⟨w.heap.size + 1, 2, none⟩ = some (.int .i64 0) := unhide HR6 2 _ rfl
    have d3 : W6.cell? ⟨w.heap.size + 1, 3, none⟩ = some (.int .i64 0) := unhide HR6 3 _ rfl
    have d4 : W6.cell? ⟨w.heap.size + 1, 4, none⟩ = some (.int .i64 0) := unhide HR6 4 _ rfl
    have d5 : W6.cell? ⟨w.heap.size + 1, 5, none⟩ = some (.string ⟨#[]⟩) := unhide HR6 5 _ rfl
    try simp only [Exit.inBlock, Exit.then]
    refine bodyPost_ret (by simp [results, Try.results26, go_sem, d0, d1, d2, d3, d4, d5]; try rfl) rfl ?_
    exact ⟨by rw [unhide HF]; rfl, unhide HB6⟩
  obtain ⟨hn, hri, -⟩ := okS_left hok
  have HOK := hide hok
  have HRI := hide hri
  have HR3 := hide (rdR_below (unhide HR) (unhide HB3) (Nat.le_refl _))
  clear hok hri
  go_wp2_with fail
  refine (l03Front_any _ l sd w3 (unhide HR3) (unhide HRI) (by omega)).mono ?_
  rintro e w4 ⟨k, rfl, hf, hg4⟩
  have HF1 := hide hf
  have c1' : w4.cell? ⟨w.heap.size, 1, none⟩ = some (.slice a l.length cap) := hg4.cell c1 (by simp)
  have HTH4 := hide (there_grown (unhide HTH3) hg4 (by omega) (by simp))
  have HB4 := hide ((unhide HB3).trans ((gr_below' hg4 (fun g hg => by cases hg) (Nat.le_refl _)).mono (unhide HB3).size))
  clear hf hg4 c1
  rcases frPre_end (unhide HF1) with ⟨rfl, hno⟩ | ⟨i, o, rfl, hi, hfo⟩
  · have HF : Hid (frRes next l sd = .tuple #[zOdv, .int .i64 6]) := by
      show _ = _
      rw [frRes, if_pos (unhide HOK)]
      rcases front_head (s := decide (sd = 1)) (sd := sd) (unhide HRI) with ⟨h1, _⟩ | ⟨j, o', h1, hf'⟩
      · rw [h1]
      · exact absurd hf'.2.1 (hno o' (List.mem_of_getElem? hf'.1))
    clear hno
    obtain ⟨⟨x0, y0, z0⟩, ⟨x1, y1, z1⟩, ⟨x2, y2, z2⟩, ⟨x3, y3, z3⟩, ⟨x4, y4, z4⟩, x5, y5, z5⟩ := there6 (unhide HTH4)
    have HR6 : Hid (World.rangeAt ((((((w4.setCell ⟨w.heap.size + 1, 0, none⟩ (.int .i64 0)).setCell ⟨w.heap.size + 1, 1, none⟩ (.int .i64 0)).setCell ⟨w.heap.size + 1, 2, none⟩ (.int .i64 0)).setCell ⟨w.heap.size + 1, 3, none⟩ (.int .i64 0)).setCell ⟨w.heap.size + 1, 4, none⟩ (.int .i64 0)).setCell ⟨w.heap.size + 1, 5, none⟩ (.string ⟨#[]⟩)) (w.heap.size + 1) 0 [.int .i64 0, .int .i64 0, .int .i64 0, .int .i64 0, .int .i64 0, .string ⟨#[]⟩]) := set6_range (unhide HTH4)
    have HB6 : Hid (Below w.heap.size w ((((((w4.setCell ⟨w.heap.size + 1, 0, none⟩ (.int .i64 0)).setCell ⟨w.heap.size + 1, 1, none⟩ (.int .i64 0)).setCell ⟨w.heap.size + 1, 2, none⟩ (.int .i64 0)).setCell ⟨w.heap.size + 1, 3, none⟩ (.int .i64 0)).setCell ⟨w.heap.size + 1, 4, none⟩ (.int .i64 0)).setCell ⟨w.heap.size + 1, 5, none⟩ (.string ⟨#[]⟩))) := set6_below (unhide HB4) (by omega)
    go_wp2_with fail
    generalize ((((((w4.setCell ⟨w.heap.size + 1, 0, none⟩ (.int .i64 0)).setCell ⟨w.heap.size + 1, 1, none⟩ (.int .i64 0)).setCell ⟨w.heap.size + 1, 2, none⟩ (.int .i64 0)).setCell ⟨w.heap.size + 1, 3, none⟩ (.int .i64 0)).setCell ⟨w.heap.size + 1, 4, none⟩ (.int .i64 0)).setCell ⟨w.heap.size + 1, 5, none⟩ (.string ⟨#[]⟩)) = W6 at HR6 HB6 ⊢
    have d0 : W6.cell? ⟨w.heap.size + 1, 0, none⟩ = some (.int .i64 0) := unhide HR6 0 _ rfl
    have d1 : W6.cell? ⟨w.heap.size + 1, 1, none⟩ = some (.int .i64 0) := unhide HR6 1 _ rfl
    have d2 : W6.cell? ⟨w.heap.size + 1, 2, none⟩ = some (.int .i64 0) := unhide HR6 2 _ rfl
    have d3 : W6.cell? ⟨w.heap.size + 1, 3, none⟩ = some (.int .i64 0) := unhide HR6 3 _ rfl
    have d4 : W6.cell? ⟨w.heap.size + 1, 4, none⟩ = some (.int .i64 0) := unhide HR6 4 _ rfl
    have d5 : W6.cell? ⟨w.heap.size + 1, 5, none⟩ = some (.string ⟨#[]⟩) := unhide HR6 5 _ rfl
    try simp only [Exit.inBlock, Exit.then]
    refine bodyPost_ret (by simp [results, Try.results26, go_sem, d0, d1, d2, d3, d4, d5]; try rfl) rfl ?_
    exact ⟨by rw [unhide HF]; rfl, unhide HB6⟩
  · have HF : Hid (frRes next l sd = .tuple #[o.val, .int .i64 0]) := by
      show _ = _
      rw [frRes, if_pos (unhide HOK)]
      rcases front_head (s := decide (sd = 1)) (sd := sd) (unhide HRI) with ⟨_, hno⟩ | ⟨j, o', h1, hf'⟩
      · exact absurd hfo.2.1 (hno o (List.mem_of_getElem? hfo.1))
      · rw [h1, (front_unique hf' hfo).2]
    obtain ⟨b, off, rfl, hb, hco⟩ := unhide HC i o hfo.1
    obtain ⟨g0, g1, g2, g3, g4, g5⟩ := od_cells (range_below hco (unhide HB4) hb)
    have hi' : (i : Int) < l.length := by omega
    have hi0 : ¬ ((i : Int) < 0) := by omega
    clear hfo hco hb
    obtain ⟨⟨x0, y0, z0⟩, ⟨x1, y1, z1⟩, ⟨x2, y2, z2⟩, ⟨x3, y3, z3⟩, ⟨x4, y4, z4⟩, x5, y5, z5⟩ := there6 (unhide HTH4)
    have HR6 : Hid (World.rangeAt ((((((w4.setCell ⟨w.heap.size + 1, 0, none⟩ (.int .i64 o.id)).setCell ⟨w.heap.size + 1, 1, none⟩ (.int .i64 o.side)).setCell ⟨w.heap.size + 1, 2, none⟩ (.int .i64 o.ticks)).setCell ⟨w.heap.size + 1, 3, none⟩ (.int .i64 o.left)).setCell ⟨w.heap.size + 1, 4, none⟩ (.int .i64 o.life)).setCell ⟨w.heap.size + 1, 5, none⟩ (.string o.tag)) (w.heap.size + 1) 0 [.int .i64 o.id, .int .i64 o.side, .int .i64 o.ticks, .int .i64 o.left, .int .i64 o.life, .string o.tag]) := set6_range (unhide HTH4)
    have HB6 : Hid (Below w.heap.size w ((((((w4.setCell ⟨w.heap.size + 1, 0, none⟩ (.int .i64 o.id)).setCell ⟨w.heap.size + 1, 1, none⟩ (.int .i64 o.side)).setCell ⟨w.heap.size + 1, 2, none⟩ (.int .i64 o.ticks)).setCell ⟨w.heap.size + 1, 3, none⟩ (.int .i64 o.left)).setCell ⟨w.heap.size + 1, 4, none⟩ (.int .i64 o.life)).setCell ⟨w.heap.size + 1, 5, none⟩ (.string o.tag))) := set6_below (unhide HB4) (by omega)
    go_wp2_with fail
    generalize ((((((w4.setCell ⟨w.heap.size + 1, 0, none⟩ (.int .i64 o.id)).setCell ⟨w.heap.size + 1, 1, none⟩ (.int .i64 o.side)).setCell ⟨w.heap.size + 1, 2, none⟩ (.int .i64 o.ticks)).setCell ⟨w.heap.size + 1, 3, none⟩ (.int .i64 o.left)).setCell ⟨w.heap.size + 1, 4, none⟩ (.int .i64 o.life)).setCell ⟨w.heap.size + 1, 5, none⟩ (.string o.tag)) = W6 at HR6 HB6 ⊢
    have d0 : W6.cell? ⟨w.heap.size + 1, 0, none⟩ = some (.int .i64 o.id) := unhide HR6 0 _ rfl
    have d1 : W6.cell? ⟨w.heap.size + 1, 1, none⟩ = some (.int .i64 o.side) := unhide HR6 1 _ rfl
    have d2 : W6.cell? ⟨w.heap.size + 1, 2, none⟩ = some (.int .i64 o.ticks) := unhide HR6 2 _ rfl
    have d3 : W6.cell? ⟨w.heap.size + 1, 3, none⟩ = some (.int .i64 o.left) := unhide HR6 3 _ rfl
    have d4 : W6.cell? ⟨w.heap.size + 1, 4, none⟩ = some (.int .i64 o.life) := unhide HR6 4 _ rfl
    have d5 : W6.cell? ⟨w.heap.size + 1, 5, none⟩ = some (.string o.tag) := unhide HR6 5 _ rfl
    try simp only [Exit.inBlock, Exit.then]
    refine bodyPost_ret (by simp [results, Try.results26, go_sem, d0, d1, d2, d3, d4, d5]; try rfl) rfl ?_
    exact ⟨by rw [unhide HF]; rfl, unhide HB6⟩
end Go.Proofs.Ytfpbpjhnafjcoaa
