/-
  The order with which a taker trades next, by the model: proved by walking the function.
-/
import Derived.Test.YthmgkabpcjkieaaVj27
namespace Go.Proofs.Ythmgkabpcjkieaa
open Go.RowKit
set_option linter.unusedVariables false

theorem nex_stop {l : List Od} {t : Od} (h : t.left = 0) : NexS l t (-1) := .inl ⟨rfl, .inl h⟩
theorem nex_none {l : List Od} {t : Od} (h : frontO l (othS t.side) = none) : NexS l t (-1) := .inl ⟨rfl, .inr (.inl h)⟩
theorem nex_no {l : List Od} {t o : Od} (h : frontO l (othS t.side) = some o) (hc : crossS t.side t.ticks o = false) : NexS l t (-1) := .inl ⟨rfl, .inr (.inr ⟨o, h, hc⟩)⟩
set_option maxRecDepth 100000 in
set_option maxHeartbeats 1600000 in
theorem l04Next_any (v : Value) (l : List Od) (t : Od) (w : World) (hr : RdR Od.vs 6 w v l) (hri : Rising l) (hn : l.length ≤ 1000) (hsd : t.side = 1 ∨ t.side = 2) :
    Calls Try.prog 74 #[v, .agg #[.int .i64 t.id, .int .i64 t.side, .int .i64 t.ticks, .int .i64 t.left, .int .i64 t.life, .string t.tag]] w fun e w' => ∃ k : Int, e = .returned (.int .i64 k) ∧ NexS l t k ∧ Below w.heap.size w w' := by
  have HR := hide hr
  obtain ⟨a, cap, rfl, hlen, hc⟩ := hr
  have hcell : ∀ (k : Nat) (c : Od), l[k]? = some c → ∃ b off, a = some ⟨b, off, none⟩ ∧ b < w.heap.size ∧ w.rangeAt b (off + k * 6) c.vs := by
    intro k c hk
    obtain ⟨b, off, h1, h2, h3⟩ := hc (by intro h; rw [h] at hk; simp at hk)
    exact ⟨b, off, h1, h2, h3 k c hk⟩
  have HC := hide hcell
  have HRI := hide hri
  have HOT := hide (oth_of hsd)
  have hs1 : 1 ≤ t.side := by omega
  have hs2 : t.side ≤ 2 := by omega
  have HB1 : Hid (Below w.heap.size w (w.alloc (Obj.cells #[.int .i64 t.id, .int .i64 t.side, .int .i64 t.ticks, .int .i64 t.left, .int .i64 t.life, .string t.tag] 61))) := (Below.refl _ _).alloc (Nat.le_refl _) _
  have HX : Hid (World.rangeAt (w.alloc (Obj.cells #[.int .i64 t.id, .int .i64 t.side, .int .i64 t.ticks, .int .i64 t.left, .int .i64 t.life, .string t.tag] 61)) w.heap.size 0 t.vs ∧ w.heap.size < (w.alloc (Obj.cells #[.int .i64 t.id, .int .i64 t.side, .int .i64 t.ticks, .int .i64 t.left, .int .i64 t.life, .string t.tag] 61)).heap.size) := ⟨cells_made w t.vs _, by rw [size_made]; omega⟩
  clear hcell hc hri hsd
  go_enter Try.func74, Try.ntmps74
  go_wp2_with fail
  generalize (w.alloc (Obj.cells #[.int .i64 t.id, .int .i64 t.side, .int .i64 t.ticks, .int .i64 t.left, .int .i64 t.life, .string t.tag] 61)) = W1 at HB1 HX ⊢
  refine (l03Front_any _ l _ W1 (rdR_below (unhide HR) (unhide HB1) (Nat.le_refl _)) (unhide HRI) hn).mono ?_
  rintro e w2 ⟨k, rfl, hf, hg2⟩
  have HF := hide (front_pre (unhide HRI) hf)
  have HB2 := hide ((unhide HB1).trans ((gr_below' hg2 (fun g hg => by cases hg) (Nat.le_refl _)).mono (unhide HB1).size))
  have HX2 := hide (range_grown (unhide HX).1 hg2 (unhide HX).2 (by simp))
  have hlt2 : w.heap.size < w2.heap.size := Nat.lt_of_lt_of_le (unhide HX).2 hg2.size
  have HC2 : Hid (∀ (k : Nat) (c : Od), l[k]? = some c → ∃ b off, a = some ⟨b, off, none⟩ ∧ b < w2.heap.size ∧ w2.rangeAt b (off + k * 6) c.vs) := fun k c hk => by
    obtain ⟨b, off, h1, h2, h3⟩ := unhide HC k c hk
    exact ⟨b, off, h1, by omega, range_below h3 (unhide HB2) h2⟩
  obtain ⟨t0, t1, t2, t3, t4, t5⟩ := od_cells (unhide HX2)
  clear hf hg2 hs1 hs2
  by_cases h0 : t.left = 0
  · have HN := hide (nex_stop (l := l) h0)
    have b0 : (t.left == 0) = true := by simpa using h0
    clear h0
    go_wp2_with fail
    go_quiet (fail)
    go_wp2_with fail
    go_ret
    exact ⟨_, rfl, unhide HN, below_drewN' (unhide HB2) _⟩
  have b0 : (t.left == 0) = false := by simpa using h0
  rcases unhide HF with ⟨rfl, hno⟩ | ⟨i, o, rfl, hi, hio, hfo⟩
  · have HN := hide (nex_none (l := l) (t := t) (by rw [← unhide HOT]; exact hno))
    clear hno h0
    go_wp2_with fail
    go_quiet (fail)
    go_wp2_with fail
    go_ret
    exact ⟨_, rfl, unhide HN, below_drewN' (unhide HB2) _⟩
  have HFO : Hid (frontO l (othS t.side) = some o) := by rw [← unhide HOT]; exact hfo
  have HIO := hide hio
  obtain ⟨b, off, rfl, hb, hcl⟩ := unhide HC2 i o hio
  have HL0 := hide h0
  have HCEL : Hid (∀ w', w2.grownBy w' none → w'.rangeAt w.heap.size 0 t.vs ∧ w'.rangeAt b (off + i * 6) o.vs) := fun w' h' => ⟨range_grown (unhide HX2) h' hlt2 (by simp), range_grown hcl h' hb (by simp)⟩
  have hlti : (i : Int) < l.length := by omega
  have hi0 : ¬ ((i : Int) < 0) := by omega
  have hi0' : decide ((i : Int) < 0) = false := by simp
  clear hfo hio hcl h0 HF HOT
  go_wp2_with fail
  refine wp_region_grow (W := w2) (by kernel_rfl) (by kernel_rfl) (World.grownBy.refl _ _) ?_
  iterate 16 (
    refine quiet_op (v := ?_) ?_ ?_ ?_
    rotate_left
    · rfl
    · intro w' hw'
      obtain ⟨c0, c1, c2, c3, c4, c5⟩ := od_cells (unhide HCEL w' hw').1
      obtain ⟨d0, d1, d2, d3, d4, d5⟩ := od_cells (unhide HCEL w' hw').2
      go_simp
      try rfl
    intro K hK
    go_simp
    refine hK _ ?_
    clear hK K)
  refine quiet_op (v := .bool (crossS t.side t.ticks o)) ?_ ?_ ?_
  · rfl
  · intro w' hw'
    go_simp
    refine (l04Crosses_any t.side t.ticks o _).mono ?_
    rintro e w3 ⟨rfl, hg3⟩
    exact ⟨rfl, hw'.trans (below_gr hg3 (Nat.le_refl _))⟩
  intro K hK
  go_simp
  refine hK _ ?_
  clear hK K
  cases hcr : crossS t.side t.ticks o
  · have HN := hide (nex_no (unhide HFO) hcr)
    iterate 2 (
      refine quiet_op (v := ?_) ?_ ?_ ?_
      rotate_left
      · rfl
      · intro w' hw'
        go_simp
        try rfl
      intro K hK
      go_simp
      refine hK _ ?_
      clear hK K)
    refine wpQuiet_nil ?_
    intro w3 hg3
    have HB3 := hide ((unhide HB2).grown hg3 (unhide HB2).size (fun g hg => by cases hg))
    clear hg3
    go_wp2_with fail
    go_ret
    exact ⟨_, rfl, unhide HN, unhide HB3⟩
  · have HN : Hid (NexS l t i) := .inr ⟨i, o, rfl, hi, unhide HIO, unhide HFO, hcr, unhide HL0⟩
    iterate 2 (
      refine quiet_op (v := ?_) ?_ ?_ ?_
      rotate_left
      · rfl
      · intro w' hw'
        go_simp
        try rfl
      intro K hK
      go_simp
      refine hK _ ?_
      clear hK K)
    refine wpQuiet_nil ?_
    intro w3 hg3
    have HB3 := hide ((unhide HB2).grown hg3 (unhide HB2).size (fun g hg => by cases hg))
    clear hg3
    go_wp2_with fail
    go_ret
    exact ⟨_, rfl, unhide HN, unhide HB3⟩
end Go.Proofs.Ythmgkabpcjkieaa
