/-
  A book that came in, opened: its number, and its slice of orders, which reads as a row of orders.
-/
import Derived.Test.YteljmhgpffekgaaFj08
import Derived.Deep.Slices
import Derived.ChangeArms
import Derived.OpenShut
namespace Go.Proofs.Yteljmhgpffekgaa
open Go.RowKit Go.ChangeShapes Go.WideShapes Go.Deep
set_option linter.unusedVariables false

/-- What is told of an order that came in. -/
structure Od.ok (c : Od) : Prop where
  id : (Lit.int .i64 c.id).wf = true
  side : (Lit.int .i64 c.side).wf = true
  ticks : (Lit.int .i64 c.ticks).wf = true
  left : (Lit.int .i64 c.left).wf = true
  life : (Lit.int .i64 c.life).wf = true
  tag : c.tag.size ≤ maxLen

section
variable {H : Type} {enc : TypeId × Value → H} {w : World} {base : Nat} {spare : Nat → Bool} {held : Bool}

theorem list6 {cs : List Value} (h : cs.length = 6) : ∃ v0 v1 v2 v3 v4 v5, cs = [v0, v1, v2, v3, v4, v5] :=
  match cs, h with
  | [v0, v1, v2, v3, v4, v5], _ => ⟨v0, v1, v2, v3, v4, v5, rfl⟩
theorem od_opened {fuel : Nat} {cs : List Value} {x : DataW H × List MemPlace} (h : DataW.trod enc Try.prog w base spare held fuel 129 cs = some x) : ∃ c : Od, cs = c.vs ∧ c.ok := by
  obtain ⟨xs, n, _, _, hlen, hxl, hf⟩ := DataW.trod_struct Try.underlying129 h
  have hl6 : cs.length = 6 := hlen.trans (by kernel_rfl)
  have k3 : Try.prog.cellsOf 3 = 1 := by kernel_rfl
  have k9 : Try.prog.cellsOf 9 = 1 := by kernel_rfl
  have hx : ∀ i, i < 6 → ∃ y, xs[i]? = some y := fun i hi => ⟨_, List.getElem?_eq_getElem (by rw [hxl]; exact hi)⟩
  obtain ⟨y0, e0⟩ := hx 0 (by omega)
  obtain ⟨y1, e1⟩ := hx 1 (by omega)
  obtain ⟨y2, e2⟩ := hx 2 (by omega)
  obtain ⟨y3, e3⟩ := hx 3 (by omega)
  obtain ⟨y4, e4⟩ := hx 4 (by omega)
  obtain ⟨y5, e5⟩ := hx 5 (by omega)
  have f0 : DataW.trod enc Try.prog w base spare held n 3 ((cs.drop 0).take (Try.prog.cellsOf 3)) = some y0 := (hf 0 _ rfl).trans e0
  have f1 : DataW.trod enc Try.prog w base spare held n 3 ((cs.drop 1).take (Try.prog.cellsOf 3)) = some y1 := (hf 1 _ rfl).trans e1
  have f2 : DataW.trod enc Try.prog w base spare held n 3 ((cs.drop 2).take (Try.prog.cellsOf 3)) = some y2 := (hf 2 _ rfl).trans e2
  have f3 : DataW.trod enc Try.prog w base spare held n 3 ((cs.drop 3).take (Try.prog.cellsOf 3)) = some y3 := (hf 3 _ rfl).trans e3
  have f4 : DataW.trod enc Try.prog w base spare held n 3 ((cs.drop 4).take (Try.prog.cellsOf 3)) = some y4 := (hf 4 _ rfl).trans e4
  have f5 : DataW.trod enc Try.prog w base spare held n 9 ((cs.drop 5).take (Try.prog.cellsOf 9)) = some y5 := (hf 5 _ rfl).trans e5
  clear hf hx e0 e1 e2 e3 e4 e5 h hlen
  obtain ⟨v0, v1, v2, v3, v4, v5, rfl⟩ := list6 hl6
  clear hl6
  simp only [k3, k9, List.drop_zero, List.drop_succ_cons, List.take_succ_cons, List.take_zero] at f0 f1 f2 f3 f4 f5
  obtain ⟨n0, c0, _, b0⟩ := DataW.trod_int Try.underlying3 f0
  obtain ⟨n1, c1, _, b1⟩ := DataW.trod_int Try.underlying3 f1
  obtain ⟨n2, c2, _, b2⟩ := DataW.trod_int Try.underlying3 f2
  obtain ⟨n3, c3, _, b3⟩ := DataW.trod_int Try.underlying3 f3
  obtain ⟨n4, c4, _, b4⟩ := DataW.trod_int Try.underlying3 f4
  obtain ⟨n5, c5, _, b5⟩ := DataW.trod_string Try.underlying9 f5
  simp only [List.cons.injEq, and_true] at c0 c1 c2 c3 c4 c5
  subst c0 c1 c2 c3 c4 c5
  exact ⟨⟨n0, n1, n2, n3, n4, n5⟩, rfl, ⟨b0, b1, b2, b3, b4, b5⟩⟩

/-- What the walk is told of a slice of orders that came in. -/
def IsOrders (w : World) (a : Option Addr) (len cap : Nat) : Prop :=
  len ≤ maxLen ∧ (len ≤ 1073741824 → ∃ l : List Od, l.length = len ∧ RdR Od.vs 6 w (.slice a len cap) l ∧ ∀ c ∈ l, c.ok)
theorem orders_opened {fuel : Nat} {cs : List Value} {x : DataW H × List MemPlace} (h : DataW.trod enc Try.prog w base spare held fuel 54 cs = some x) : ∃ a len cap, cs = [.slice a len cap] ∧ IsOrders w a len cap := by
  rcases open_slice Try.underlying54 h with ⟨hcs, _⟩ | ⟨ad, len, cap, m, n, D, Pl, hcs, _, hl, hm, hmm, _, hel⟩
  · exact ⟨none, 0, 0, hcs, Nat.zero_le _, fun _ => ⟨[], rfl, ⟨none, 0, rfl, by simp, fun h => absurd rfl h⟩, by simp⟩⟩
  · refine ⟨some ad, len, cap, hcs, ?_⟩
    have k37 : Try.prog.cellsOf 129 = 6 := by kernel_rfl
    rw [k37] at hel
    have hlm : len ≤ m := by rw [hmm]; split <;> omega
    refine ⟨by omega, fun hb => ?_⟩
    have hc : ∀ i, i < len → ∃ c : Od, c.ok ∧ ∀ j v, c.vs[j]? = some v → w.cell? (ad.add (i * 6 + j)) = some v := by
      intro i hi
      obtain ⟨cs', h1, h2⟩ := hel i (by omega)
      obtain ⟨c, rfl, hok⟩ := od_opened h2
      obtain ⟨_, _, hcell⟩ := World.cells?_some h1
      refine ⟨c, hok, fun j v hv => ?_⟩
      have := hcell j (List.getElem?_eq_some_iff.1 hv).1
      rw [add_add] at this
      rw [this, hv]
    have hb0 : 0 < len → ∃ b off, ad = ⟨b, off, none⟩ ∧ b < w.heap.size := by
      intro hp
      obtain ⟨c, _, h0⟩ := hc 0 hp
      have h0 := h0 0 _ rfl
      obtain ⟨b, off, spot⟩ := ad
      have hspot : spot = none := by simpa [Addr.add] using World.cell?_spot h0
      subst hspot
      exact ⟨b, off, rfl, by have := World.block_lt_of_cell? w _ h0; simpa [Addr.add] using this⟩
    haveI : Inhabited Od := ⟨zOd⟩
    obtain ⟨F, hF⟩ := choose_lt hc
    have hget : ∀ i c, ((List.range len).map F)[i]? = some c → i < len ∧ c = F i := by
      intro i c hi
      have hlt : i < len := by simpa using (List.getElem?_eq_some_iff.1 hi).1
      refine ⟨hlt, ?_⟩
      rw [List.getElem?_map, List.getElem?_range hlt] at hi
      simpa using hi.symm
    refine ⟨(List.range len).map F, by simp, ⟨some ad, cap, by simp, by simpa using hb, fun hne => ?_⟩, fun c hcm => ?_⟩
    · have hp : 0 < len := by
        rcases Nat.eq_zero_or_pos len with h0 | h0
        · subst h0; simp at hne
        · exact h0
      obtain ⟨b, off, rfl, hlt⟩ := hb0 hp
      refine ⟨b, off, rfl, hlt, fun i c hi j v hv => ?_⟩
      obtain ⟨hi', rfl⟩ := hget i c hi
      have := (hF i hi').2 j v hv
      rw [Addr.add_mid] at this
      rw [Nat.add_assoc]; exact this
    · obtain ⟨i, hi⟩ := List.mem_iff_getElem?.1 hcm
      obtain ⟨hi', rfl⟩ := hget i c hi
      exact (hF i hi').1
theorem list_two {cs : List Value} (h : cs.length = 2) : ∃ v0 v1, cs = [v0, v1] := match cs, h with
  | [v0, v1], _ => ⟨v0, v1, rfl⟩
/-- A book that came in. -/
theorem book_opened {fuel : Nat} {cs : List Value} {x : DataW H × List MemPlace} (h : DataW.trod enc Try.prog w base spare held fuel 56 cs = some x) : ∃ n a len cap, cs = [.int .i64 n, .slice a len cap] ∧ (Lit.int .i64 n).wf = true ∧ IsOrders w a len cap := by
  obtain ⟨xs, k, _, _, hlen, hxl, hf⟩ := DataW.trod_struct Try.underlying56 h
  have hl2 : cs.length = 2 := hlen.trans (by kernel_rfl)
  have k3 : Try.prog.cellsOf 3 = 1 := by kernel_rfl
  have k9 : Try.prog.cellsOf 54 = 1 := by kernel_rfl
  have hx : ∀ i, i < 2 → ∃ y, xs[i]? = some y := fun i hi => ⟨_, List.getElem?_eq_getElem (by rw [hxl]; exact hi)⟩
  obtain ⟨y0, e0⟩ := hx 0 (by omega)
  obtain ⟨y1, e1⟩ := hx 1 (by omega)
  have f0 : DataW.trod enc Try.prog w base spare held k 3 ((cs.drop 0).take (Try.prog.cellsOf 3)) = some y0 := (hf 0 _ rfl).trans e0
  have f1 : DataW.trod enc Try.prog w base spare held k 54 ((cs.drop 1).take (Try.prog.cellsOf 54)) = some y1 := (hf 1 _ rfl).trans e1
  obtain ⟨v0, v1, rfl⟩ := list_two hl2
  simp only [k3, k9, List.drop_zero, List.drop_succ_cons, List.take_succ_cons, List.take_zero] at f0 f1
  obtain ⟨n, c0, _, b0⟩ := DataW.trod_int Try.underlying3 f0
  obtain ⟨a, len, cap, c1, ho⟩ := orders_opened f1
  simp only [List.cons.injEq, and_true] at c0 c1
  subst c0 c1
  exact ⟨n, a, len, cap, rfl, b0, ho⟩
end
end Go.Proofs.Yteljmhgpffekgaa
