/-
  The reason why a command is refused, and a code, by the program: proved by walking the function.
-/
import Derived.Test.YtdfihaabhichdaaRj07
import Derived.Test.YtdfihaabhichdaaRj08
import Derived.Test.YtdfihaabhichdaaRj38
import Derived.Deep.Slices
import Derived.ChangeArms
import Derived.OpenShut
namespace Go.Proofs.Ytdfihaabhichdaa
open Go.RowKit
set_option linter.unusedVariables false

set_option maxRecDepth 100000 in
set_option maxHeartbeats 800000 in
theorem implReasonOf_any (next : Int) (vb : Value) (l : List Od) (c : Cm) (w : World) (hr : RdR Od.vs 6 w vb l) (hs : SlOk vb) (hgt : ∀ o ∈ l, o.tag.size ≤ maxLen) (ht : c.g.size ≤ maxLen) :
    Calls Try.prog 9 #[.agg #[.int .i64 next, vb], cmV c] w fun e w' => e = .returned (.tuple #[.int .i64 (reaR next l c), .int .i64 (reaC next l)]) ∧ Below w.heap.size w w' := by
  have HR := hide hr
  have HSL := hide hs
  have HGT := hide hgt
  have HTG := hide ht
  obtain ⟨a, cap, rfl, hlen, hc⟩ := hr
  clear hc hs hgt ht hlen
  generalize hra : reaR next l c = ra
  generalize hrc : reaC next l = rc
  have HRA := hide hra
  have HRC := hide hrc
  clear hra hrc
  have HCA : Hid (okS next l = true → ∀ W : World, RdR Od.vs 6 W (.slice a l.length cap) l → Calls Try.prog 16 #[.agg #[.int .i64 next, .slice a l.length cap], cmV c] W _) := fun hok W hW => refusal_any next _ l c W hW (unhide HSL) (okS_good hok).1 (okS_good hok).2.1 (okS_good hok).2.2 (unhide HTG)
  obtain ⟨kk, s, ty, li, qt, ii, pr, tg⟩ := c
  unfold cmV at HCA ⊢
  simp only at HCA ⊢
  have hs1 : (w.alloc (Obj.cells #[.int .i64 next, .slice a l.length cap] 34)).heap.size = w.heap.size + 1 := size_made _ _
  have hs2 : ((w.alloc (Obj.cells #[.int .i64 next, .slice a l.length cap] 34)).alloc (Obj.cells #[.int .i64 kk, .int .i64 s, .int .i64 ty, .int .i64 li, .int .i64 qt, .int .i64 ii, .float .f64 pr, .string tg] 36)).heap.size = w.heap.size + 1 + 1 := by rw [size_made, hs1]
  have r1 := cells_made w [.int .i64 next, .slice a l.length cap] 34
  have r2 := cells_made (w.alloc (Obj.cells #[.int .i64 next, .slice a l.length cap] 34)) [.int .i64 kk, .int .i64 s, .int .i64 ty, .int .i64 li, .int .i64 qt, .int .i64 ii, .float .f64 pr, .string tg] 36
  rw [hs1] at r2
  have b12 : Below (w.heap.size + 1) (w.alloc (Obj.cells #[.int .i64 next, .slice a l.length cap] 34)) ((w.alloc (Obj.cells #[.int .i64 next, .slice a l.length cap] 34)).alloc (Obj.cells #[.int .i64 kk, .int .i64 s, .int .i64 ty, .int .i64 li, .int .i64 qt, .int .i64 ii, .float .f64 pr, .string tg] 36)) := (Below.refl _ _).alloc (by rw [hs1]; omega) _
  have HB2 : Hid (Below w.heap.size w ((w.alloc (Obj.cells #[.int .i64 next, .slice a l.length cap] 34)).alloc (Obj.cells #[.int .i64 kk, .int .i64 s, .int .i64 ty, .int .i64 li, .int .i64 qt, .int .i64 ii, .float .f64 pr, .string tg] 36))) := ((Below.refl _ _).alloc (Nat.le_refl _) _).alloc (by rw [hs1]; omega) _
  have HX : Hid (_ ∧ _) := ⟨range_below r1 b12 (by omega), r2⟩
  have HLT : Hid (w.heap.size < ((w.alloc (Obj.cells #[.int .i64 next, .slice a l.length cap] 34)).alloc (Obj.cells #[.int .i64 kk, .int .i64 s, .int .i64 ty, .int .i64 li, .int .i64 qt, .int .i64 ii, .float .f64 pr, .string tg] 36)).heap.size ∧ w.heap.size + 1 < ((w.alloc (Obj.cells #[.int .i64 next, .slice a l.length cap] 34)).alloc (Obj.cells #[.int .i64 kk, .int .i64 s, .int .i64 ty, .int .i64 li, .int .i64 qt, .int .i64 ii, .float .f64 pr, .string tg] 36)).heap.size) := ⟨by omega, by omega⟩
  clear hs1 hs2 r1 r2 b12
  go_enter Try.func9, Try.ntmps9
  refine wp_seq_k fun K hK => ?_
  have HK1 := hide hK
  clear hK
  go_wp2_with fail
  refine unhide HK1 _ _ ?_
  clear HK1
  generalize ((w.alloc (Obj.cells #[.int .i64 next, .slice a l.length cap] 34)).alloc (Obj.cells #[.int .i64 kk, .int .i64 s, .int .i64 ty, .int .i64 li, .int .i64 qt, .int .i64 ii, .float .f64 pr, .string tg] 36)) = X2 at HB2 HX HLT ⊢
  have HX : Hid (X2.rangeAt w.heap.size 0 [.int .i64 next, .slice a l.length cap] ∧ X2.rangeAt (w.heap.size + 1) 0 [.int .i64 kk, .int .i64 s, .int .i64 ty, .int .i64 li, .int .i64 qt, .int .i64 ii, .float .f64 pr, .string tg])  := unhide HX
  have k0 : X2.cell? ⟨w.heap.size, 0, none⟩ = some (.int .i64 next) := (unhide HX).1 0 _ rfl
  have k1 : X2.cell? ⟨w.heap.size, 1, none⟩ = some (.slice a l.length cap) := (unhide HX).1 1 _ rfl
  have o0 : X2.cell? ⟨w.heap.size + 1, 0, none⟩ = some (.int .i64 kk) := (unhide HX).2 0 _ rfl
  have o1 : X2.cell? ⟨w.heap.size + 1, 1, none⟩ = some (.int .i64 s) := (unhide HX).2 1 _ rfl
  have o2 : X2.cell? ⟨w.heap.size + 1, 2, none⟩ = some (.int .i64 ty) := (unhide HX).2 2 _ rfl
  have o3 : X2.cell? ⟨w.heap.size + 1, 3, none⟩ = some (.int .i64 li) := (unhide HX).2 3 _ rfl
  have o4 : X2.cell? ⟨w.heap.size + 1, 4, none⟩ = some (.int .i64 qt) := (unhide HX).2 4 _ rfl
  have o5 : X2.cell? ⟨w.heap.size + 1, 5, none⟩ = some (.int .i64 ii) := (unhide HX).2 5 _ rfl
  have o6 : X2.cell? ⟨w.heap.size + 1, 6, none⟩ = some (.float .f64 pr) := (unhide HX).2 6 _ rfl
  have o7 : X2.cell? ⟨w.heap.size + 1, 7, none⟩ = some (.string tg) := (unhide HX).2 7 _ rfl
  go_wp2_with fail
  refine (implBookOK_any next _ l X2 (rdR_below (unhide HR) (unhide HB2) (Nat.le_refl _)) (unhide HGT)).mono ?_
  rw [okI_eq]
  rintro e w3 ⟨rfl, hb3⟩
  have HB3 := hide ((unhide HB2).trans (hb3.mono (unhide HB2).size))
  have HX3 : Hid (_ ∧ _) := ⟨range_below (unhide HX).1 hb3 (unhide HLT).1, range_below (unhide HX).2 hb3 (unhide HLT).2⟩
  clear hb3 k0 k1 o0 o1 o2 o3 o4 o5 o6 o7
  cases hok : okS next l
  · have HK : Hid (0 = ra ∧ 1 = rc) := ⟨by rw [← unhide HRA, reaR, hok]; rfl, by rw [← unhide HRC, reaC, hok]; rfl⟩
    clear hok
    go_wp2_with fail
    go_ret2
    exact ⟨by rw [← (unhide HK).1, ← (unhide HK).2]; rfl, unhide HB3⟩
  have HK : Hid (refR next l ⟨kk, s, ty, li, qt, ii, pr, tg⟩ = ra ∧ 0 = rc) := ⟨by rw [← unhide HRA, reaR, if_pos hok], by rw [← unhide HRC, reaC, if_pos hok]⟩
  have HC3 := hide (unhide HCA hok w3 (rdR_below (unhide HR) (unhide HB3) (Nat.le_refl _)))
  clear hok HCA
  have k0 : w3.cell? ⟨w.heap.size, 0, none⟩ = some (.int .i64 next) := (unhide HX3).1 0 _ rfl
  have k1 : w3.cell? ⟨w.heap.size, 1, none⟩ = some (.slice a l.length cap) := (unhide HX3).1 1 _ rfl
  have o0 : w3.cell? ⟨w.heap.size + 1, 0, none⟩ = some (.int .i64 kk) := (unhide HX3).2 0 _ rfl
  have o1 : w3.cell? ⟨w.heap.size + 1, 1, none⟩ = some (.int .i64 s) := (unhide HX3).2 1 _ rfl
  have o2 : w3.cell? ⟨w.heap.size + 1, 2, none⟩ = some (.int .i64 ty) := (unhide HX3).2 2 _ rfl
  have o3 : w3.cell? ⟨w.heap.size + 1, 3, none⟩ = some (.int .i64 li) := (unhide HX3).2 3 _ rfl
  have o4 : w3.cell? ⟨w.heap.size + 1, 4, none⟩ = some (.int .i64 qt) := (unhide HX3).2 4 _ rfl
  have o5 : w3.cell? ⟨w.heap.size + 1, 5, none⟩ = some (.int .i64 ii) := (unhide HX3).2 5 _ rfl
  have o6 : w3.cell? ⟨w.heap.size + 1, 6, none⟩ = some (.float .f64 pr) := (unhide HX3).2 6 _ rfl
  have o7 : w3.cell? ⟨w.heap.size + 1, 7, none⟩ = some (.string tg) := (unhide HX3).2 7 _ rfl
  go_wp2_with fail
  refine (unhide HC3).mono ?_
  rw [(unhide HK).1]
  rintro e w5 ⟨rfl, hb5⟩
  have HB5 := hide ((unhide HB3).trans (hb5.mono (unhide HB3).size))
  clear hb5
  go_wp2_with fail
  go_ret2
  exact ⟨by rw [← (unhide HK).2]; rfl, unhide HB5⟩
end Go.Proofs.Ytdfihaabhichdaa
namespace Go.Proofs.Ytdfihaabhichdaa
open Go.RowKit Go.ChangeShapes Go.WideShapes Go.Deep
set_option linter.unusedVariables false

/-- What is told of an order that came in. -/
structure Od.ok (c : Od) : Prop where
  id : (Lit.int .i64 c.id).wf = true
  side : (Lit.int .i64 c.side).wf = true
  ticks : (Lit.int .i64 c.ticks).wf = true
  left : (Lit.int .i64 c.left).wf = true
  life : (Lit.int .i64 c.life).wf = true
  tag : c.tag.size ≤ maxLen

section
variable {H : Type} {enc : TypeId × Value → H} {w : World} {base : Nat} {spare : Nat → Bool} {held : Bool}

theorem list6 {cs : List Value} (h : cs.length = 6) : ∃ v0 v1 v2 v3 v4 v5, cs = [v0, v1, v2, v3, v4, v5] :=
  match cs, h with
  | [v0, v1, v2, v3, v4, v5], _ => ⟨v0, v1, v2, v3, v4, v5, rfl⟩
theorem od_opened {fuel : Nat} {cs : List Value} {x : DataW H × List MemPlace} (h : DataW.trod enc Try.prog w base spare held fuel 47 cs = some x) : ∃ c : Od, cs = c.vs ∧ c.ok := by
  obtain ⟨xs, n, _, _, hlen, hxl, hf⟩ := DataW.trod_struct Try.underlying47 h
  have hl6 : cs.length = 6 := hlen.trans (by kernel_rfl)
  have k3 : Try.prog.cellsOf 3 = 1 := by kernel_rfl
  have k9 : Try.prog.cellsOf 9 = 1 := by kernel_rfl
  have hx : ∀ i, i < 6 → ∃ y, xs[i]? = some y := fun i hi => ⟨_, List.getElem?_eq_getElem (by rw [hxl]; exact hi)⟩
  obtain ⟨y0, e0⟩ := hx 0 (by omega)
  obtain ⟨y1, e1⟩ := hx 1 (by omega)
  obtain ⟨y2, e2⟩ := hx 2 (by omega)
  obtain ⟨y3, e3⟩ := hx 3 (by omega)
  obtain ⟨y4, e4⟩ := hx 4 (by omega)
  obtain ⟨y5, e5⟩ := hx 5 (by omega)
  have f0 : DataW.trod enc Try.prog w base spare held n 3 ((cs.drop 0).take (Try.prog.cellsOf 3)) = some y0 := (hf 0 _ rfl).trans e0
  have f1 : DataW.trod enc Try.prog w base spare held n 3 ((cs.drop 1).take (Try.prog.cellsOf 3)) = some y1 := (hf 1 _ rfl).trans e1
  have f2 : DataW.trod enc Try.prog w base spare held n 3 ((cs.drop 2).take (Try.prog.cellsOf 3)) = some y2 := (hf 2 _ rfl).trans e2
  have f3 : DataW.trod enc Try.prog w base spare held n 3 ((cs.drop 3).take (Try.prog.cellsOf 3)) = some y3 := (hf 3 _ rfl).trans e3
  have f4 : DataW.trod enc Try.prog w base spare held n 3 ((cs.drop 4).take (Try.prog.cellsOf 3)) = some y4 := (hf 4 _ rfl).trans e4
  have f5 : DataW.trod enc Try.prog w base spare held n 9 ((cs.drop 5).take (Try.prog.cellsOf 9)) = some y5 := (hf 5 _ rfl).trans e5
  clear hf hx e0 e1 e2 e3 e4 e5 h hlen
  obtain ⟨v0, v1, v2, v3, v4, v5, rfl⟩ := list6 hl6
  clear hl6
  simp only [k3, k9, List.drop_zero, List.drop_succ_cons, List.take_succ_cons, List.take_zero] at f0 f1 f2 f3 f4 f5
  obtain ⟨n0, c0, _, b0⟩ := DataW.trod_int Try.underlying3 f0
  obtain ⟨n1, c1, _, b1⟩ := DataW.trod_int Try.underlying3 f1
  obtain ⟨n2, c2, _, b2⟩ := DataW.trod_int Try.underlying3 f2
  obtain ⟨n3, c3, _, b3⟩ := DataW.trod_int Try.underlying3 f3
  obtain ⟨n4, c4, _, b4⟩ := DataW.trod_int Try.underlying3 f4
  obtain ⟨n5, c5, _, b5⟩ := DataW.trod_string Try.underlying9 f5
  simp only [List.cons.injEq, and_true] at c0 c1 c2 c3 c4 c5
  subst c0 c1 c2 c3 c4 c5
  exact ⟨⟨n0, n1, n2, n3, n4, n5⟩, rfl, ⟨b0, b1, b2, b3, b4, b5⟩⟩

/-- What the walk is told of a slice of orders that came in. -/
def IsOrders (w : World) (a : Option Addr) (len cap : Nat) : Prop :=
  len ≤ maxLen ∧ (len ≤ 1073741824 → ∃ l : List Od, l.length = len ∧ RdR Od.vs 6 w (.slice a len cap) l ∧ ∀ c ∈ l, c.ok)
theorem orders_opened {fuel : Nat} {cs : List Value} {x : DataW H × List MemPlace} (h : DataW.trod enc Try.prog w base spare held fuel 22 cs = some x) : ∃ a len cap, cs = [.slice a len cap] ∧ IsOrders w a len cap := by
  rcases open_slice Try.underlying22 h with ⟨hcs, _⟩ | ⟨ad, len, cap, m, n, D, Pl, hcs, _, hl, hm, hmm, _, hel⟩
  · exact ⟨none, 0, 0, hcs, Nat.zero_le _, fun _ => ⟨[], rfl, ⟨none, 0, rfl, by simp, fun h => absurd rfl h⟩, by simp⟩⟩
  · refine ⟨some ad, len, cap, hcs, ?_⟩
    have k37 : Try.prog.cellsOf 47 = 6 := by kernel_rfl
    rw [k37] at hel
    have hlm : len ≤ m := by rw [hmm]; split <;> omega
    refine ⟨by omega, fun hb => ?_⟩
    have hc : ∀ i, i < len → ∃ c : Od, c.ok ∧ ∀ j v, c.vs[j]? = some v → w.cell? (ad.add (i * 6 + j)) = some v := by
      intro i hi
      obtain ⟨cs', h1, h2⟩ := hel i (by omega)
      obtain ⟨c, rfl, hok⟩ := od_opened h2
      obtain ⟨_, _, hcell⟩ := World.cells?_some h1
      refine ⟨c, hok, fun j v hv => ?_⟩
      have := hcell j (List.getElem?_eq_some_iff.1 hv).1
      rw [add_add] at this
      rw [this, hv]
    have hb0 : 0 < len → ∃ b off, ad = ⟨b, off, none⟩ ∧ b < w.heap.size := by
      intro hp
      obtain ⟨c, _, h0⟩ := hc 0 hp
      have h0 := h0 0 _ rfl
      obtain ⟨b, off, spot⟩ := ad
      have hspot : spot = none := by simpa [Addr.add] using World.cell?_spot h0
      subst hspot
      exact ⟨b, off, rfl, by have := World.block_lt_of_cell? w _ h0; simpa [Addr.add] using this⟩
    haveI : Inhabited Od := ⟨zOd⟩
    obtain ⟨F, hF⟩ := choose_lt hc
    have hget : ∀ i c, ((List.range len).map F)[i]? = some c → i < len ∧ c = F i := by
      intro i c hi
      have hlt : i < len := by simpa using (List.getElem?_eq_some_iff.1 hi).1
      refine ⟨hlt, ?_⟩
      rw [List.getElem?_map, List.getElem?_range hlt] at hi
      simpa using hi.symm
    refine ⟨(List.range len).map F, by simp, ⟨some ad, cap, by simp, by simpa using hb, fun hne => ?_⟩, fun c hcm => ?_⟩
    · have hp : 0 < len := by
        rcases Nat.eq_zero_or_pos len with h0 | h0
        · subst h0; simp at hne
        · exact h0
      obtain ⟨b, off, rfl, hlt⟩ := hb0 hp
      refine ⟨b, off, rfl, hlt, fun i c hi j v hv => ?_⟩
      obtain ⟨hi', rfl⟩ := hget i c hi
      have := (hF i hi').2 j v hv
      rw [Addr.add_mid] at this
      rw [Nat.add_assoc]; exact this
    · obtain ⟨i, hi⟩ := List.mem_iff_getElem?.1 hcm
      obtain ⟨hi', rfl⟩ := hget i c hi
      exact (hF i hi').1
theorem list_two {cs : List Value} (h : cs.length = 2) : ∃ v0 v1, cs = [v0, v1] := match cs, h with
  | [v0, v1], _ => ⟨v0, v1, rfl⟩
/-- A book that came in. -/
theorem book_opened {fuel : Nat} {cs : List Value} {x : DataW H × List MemPlace} (h : DataW.trod enc Try.prog w base spare held fuel 24 cs = some x) : ∃ n a len cap, cs = [.int .i64 n, .slice a len cap] ∧ (Lit.int .i64 n).wf = true ∧ IsOrders w a len cap := by
  obtain ⟨xs, k, _, _, hlen, hxl, hf⟩ := DataW.trod_struct Try.underlying24 h
  have hl2 : cs.length = 2 := hlen.trans (by kernel_rfl)
  have k3 : Try.prog.cellsOf 3 = 1 := by kernel_rfl
  have k9 : Try.prog.cellsOf 22 = 1 := by kernel_rfl
  have hx : ∀ i, i < 2 → ∃ y, xs[i]? = some y := fun i hi => ⟨_, List.getElem?_eq_getElem (by rw [hxl]; exact hi)⟩
  obtain ⟨y0, e0⟩ := hx 0 (by omega)
  obtain ⟨y1, e1⟩ := hx 1 (by omega)
  have f0 : DataW.trod enc Try.prog w base spare held k 3 ((cs.drop 0).take (Try.prog.cellsOf 3)) = some y0 := (hf 0 _ rfl).trans e0
  have f1 : DataW.trod enc Try.prog w base spare held k 22 ((cs.drop 1).take (Try.prog.cellsOf 22)) = some y1 := (hf 1 _ rfl).trans e1
  obtain ⟨v0, v1, rfl⟩ := list_two hl2
  simp only [k3, k9, List.drop_zero, List.drop_succ_cons, List.take_succ_cons, List.take_zero] at f0 f1
  obtain ⟨n, c0, _, b0⟩ := DataW.trod_int Try.underlying3 f0
  obtain ⟨a, len, cap, c1, ho⟩ := orders_opened f1
  simp only [List.cons.injEq, and_true] at c0 c1
  subst c0 c1
  exact ⟨n, a, len, cap, rfl, b0, ho⟩
end
end Go.Proofs.Ytdfihaabhichdaa
namespace Go.Proofs.Ytdfihaabhichdaa
open Go.RowKit Go.ChangeShapes Go.WideShapes Go.Deep
set_option linter.unusedVariables false

set_option maxHeartbeats 400000 in
theorem szCmd_any (c : Cm) (x : Int) (w : World) (h0 : 0 ≤ x) (h1 : x ≤ 1073741824) (hg : c.g.size ≤ maxLen) :
    Calls Try.prog 5 #[.agg #[.int .i64 c.k, .int .i64 c.s, .int .i64 c.t, .int .i64 c.l, .int .i64 c.q, .int .i64 c.i, .float .f64 c.p, .string c.g], .int .i64 x] w fun e w' =>
      ∃ y : Int, e = .returned (.int .i64 y) ∧ -1 ≤ y ∧ y ≤ x ∧ Below w.heap.size w w' := by
  obtain ⟨k, s, t, l, q, i, p, g⟩ := c
  simp only at *
  unfold maxLen at hg
  by_cases h : x < g.size
  · go_enter Try.func5, Try.ntmps5
    go_wp2_with fail
    go_ret
    exact ⟨_, rfl, by omega, by omega, by go_grown⟩
  · go_enter Try.func5, Try.ntmps5
    go_wp2_with fail
    go_ret
    exact ⟨_, rfl, by omega, by omega, by go_grown⟩

/-- What is told of a command that came in. -/
structure Cm.ok (c : Cm) : Prop where
  k : (Lit.int .i64 c.k).wf = true
  s : (Lit.int .i64 c.s).wf = true
  t : (Lit.int .i64 c.t).wf = true
  l : (Lit.int .i64 c.l).wf = true
  q : (Lit.int .i64 c.q).wf = true
  i : (Lit.int .i64 c.i).wf = true
  p : (Lit.float .f64 c.p).wf = true
  g : c.g.size ≤ maxLen

section
variable {H : Type} {enc : TypeId × Value → H} {w : World} {base : Nat} {spare : Nat → Bool} {held : Bool}

theorem trod_flt {P : Program} {t : TypeId} {k : FloatKind} {fuel : Nat} {cs : List Value} {x : DataW H × List MemPlace} (ht : P.underlying t = some (.float k)) (h : DataW.trod enc P w base spare held fuel t cs = some x) :
    ∃ n, cs = [.float k n] ∧ (Lit.float k n).wf = true := by
  cases fuel with
  | zero => simp [DataW.trod] at h
  | succ n =>
    unfold DataW.trod at h
    rw [ht] at h
    split at h <;> simp_all

theorem list8 {cs : List Value} (h : cs.length = 8) : ∃ v0 v1 v2 v3 v4 v5 v6 v7, cs = [v0, v1, v2, v3, v4, v5, v6, v7] :=
  match cs, h with
  | [v0, v1, v2, v3, v4, v5, v6, v7], _ => ⟨v0, v1, v2, v3, v4, v5, v6, v7, rfl⟩
theorem cm_opened {fuel : Nat} {cs : List Value} {x : DataW H × List MemPlace} (h : DataW.trod enc Try.prog w base spare held fuel 27 cs = some x) : ∃ c : Cm, cs = c.vs ∧ c.ok := by
  obtain ⟨xs, n, _, _, hlen, hxl, hf⟩ := DataW.trod_struct Try.underlying27 h
  have hl8 : cs.length = 8 := hlen.trans (by kernel_rfl)
  have k3 : Try.prog.cellsOf 3 = 1 := by kernel_rfl
  have k22 : Try.prog.cellsOf 25 = 1 := by kernel_rfl
  have k9 : Try.prog.cellsOf 9 = 1 := by kernel_rfl
  have hx : ∀ i, i < 8 → ∃ y, xs[i]? = some y := fun i hi => ⟨_, List.getElem?_eq_getElem (by rw [hxl]; exact hi)⟩
  obtain ⟨y0, e0⟩ := hx 0 (by omega)
  obtain ⟨y1, e1⟩ := hx 1 (by omega)
  obtain ⟨y2, e2⟩ := hx 2 (by omega)
  obtain ⟨y3, e3⟩ := hx 3 (by omega)
  obtain ⟨y4, e4⟩ := hx 4 (by omega)
  obtain ⟨y5, e5⟩ := hx 5 (by omega)
  obtain ⟨y6, e6⟩ := hx 6 (by omega)
  obtain ⟨y7, e7⟩ := hx 7 (by omega)
  have f0 : DataW.trod enc Try.prog w base spare held n 3 ((cs.drop 0).take (Try.prog.cellsOf 3)) = some y0 := (hf 0 _ rfl).trans e0
  have f1 : DataW.trod enc Try.prog w base spare held n 3 ((cs.drop 1).take (Try.prog.cellsOf 3)) = some y1 := (hf 1 _ rfl).trans e1
  have f2 : DataW.trod enc Try.prog w base spare held n 3 ((cs.drop 2).take (Try.prog.cellsOf 3)) = some y2 := (hf 2 _ rfl).trans e2
  have f3 : DataW.trod enc Try.prog w base spare held n 3 ((cs.drop 3).take (Try.prog.cellsOf 3)) = some y3 := (hf 3 _ rfl).trans e3
  have f4 : DataW.trod enc Try.prog w base spare held n 3 ((cs.drop 4).take (Try.prog.cellsOf 3)) = some y4 := (hf 4 _ rfl).trans e4
  have f5 : DataW.trod enc Try.prog w base spare held n 3 ((cs.drop 5).take (Try.prog.cellsOf 3)) = some y5 := (hf 5 _ rfl).trans e5
  have f6 : DataW.trod enc Try.prog w base spare held n 25 ((cs.drop 6).take (Try.prog.cellsOf 25)) = some y6 := (hf 6 _ rfl).trans e6
  have f7 : DataW.trod enc Try.prog w base spare held n 9 ((cs.drop 7).take (Try.prog.cellsOf 9)) = some y7 := (hf 7 _ rfl).trans e7
  clear hf hx e0 e1 e2 e3 e4 e5 e6 e7 h hlen
  obtain ⟨v0, v1, v2, v3, v4, v5, v6, v7, rfl⟩ := list8 hl8
  · clear hl8
    simp only [k3, k22, k9, List.drop_zero, List.drop_succ_cons, List.take_succ_cons, List.take_zero] at f0 f1 f2 f3 f4 f5 f6 f7
    obtain ⟨n0, c0, _, b0⟩ := DataW.trod_int Try.underlying3 f0
    obtain ⟨n1, c1, _, b1⟩ := DataW.trod_int Try.underlying3 f1
    obtain ⟨n2, c2, _, b2⟩ := DataW.trod_int Try.underlying3 f2
    obtain ⟨n3, c3, _, b3⟩ := DataW.trod_int Try.underlying3 f3
    obtain ⟨n4, c4, _, b4⟩ := DataW.trod_int Try.underlying3 f4
    obtain ⟨n5, c5, _, b5⟩ := DataW.trod_int Try.underlying3 f5
    obtain ⟨n6, c6, b6⟩ := trod_flt Try.underlying25 f6
    obtain ⟨n7, c7, _, b7⟩ := DataW.trod_string Try.underlying9 f7
    simp only [List.cons.injEq, and_true] at c0 c1 c2 c3 c4 c5 c6 c7
    subst c0 c1 c2 c3 c4 c5 c6 c7
    exact ⟨⟨n0, n1, n2, n3, n4, n5, n6, n7⟩, rfl, ⟨b0, b1, b2, b3, b4, b5, b6, b7⟩⟩
end
end Go.Proofs.Ytdfihaabhichdaa
