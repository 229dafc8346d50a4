/-
  The exact law of EndFrame, walked: it returns true, and nothing that was there is turned.
-/
import Derived.Test.YtelnpobhmjdaoaaEndS
import Derived.Test.YtelnpobhmjdaoaaEqW
import Derived.Test.YtelnpobhmjdaoaaMem
import Derived.OpenShut
namespace Go.Proofs.Ytelnpobhmjdaoaa
open Go.RowKit
set_option linter.unusedVariables false

set_option maxHeartbeats 800000 in
theorem toTot_any (t : Tt) (w : World) : Calls Try.prog 5 #[.agg #[.int .i64 t.a, .int .i64 t.b, .int .i64 t.c, .int .i64 t.d, .int .i64 t.e, .int .i64 t.f, .int .i64 t.g, .int .i64 t.h]] w fun e w' => e = .returned (.agg #[.int .i64 t.a, .int .i64 t.b, .int .i64 t.c, .int .i64 t.d, .int .i64 t.e, .int .i64 t.f, .int .i64 t.g, .int .i64 t.h]) ∧ Below w.heap.size w w' := by
  obtain ⟨n0, n1, n2, n3, n4, n5, n6, n7⟩ := t
  simp only
  go_enter Try.func5, Try.ntmps5
  go_wp2_with fail
  go_returns
  exact ⟨rfl, by go_grown⟩
/-- A row of marks, or nothing at all. -/
def MK (B : Nat) (W : World) (v : Value) (n : Nat) : Prop := (n = 0 ∧ ∃ a c, v = .slice a 0 c) ∨ Own B W v (marks n)
theorem mk_below {B C n : Nat} {W W' : World} {v : Value} (h : MK B W v n) (hb : Below C W W') (hC : W.heap.size ≤ C) : MK B W' v n := h.imp id fun h => own_below h hb hC
theorem mk_drew {B n : Nat} {W : World} {v : Value} (h : MK B W v n) (q : Nat) : MK B (W.drewN q) v n := h.imp id fun h => own_drewN h q
theorem markB {B : Nat} (v : Value) (l : List Int) (w : World) (h : BRow w B v l) (hl : l.length ≤ 1073741824) :
    Calls Try.prog 8 #[v, .int .i64 1] w fun e w' => e = .returned (.int .i64 (1 + l.length)) ∧ MK B w' v l.length ∧ ∃ G, w.grownBy w' G ∧ ∀ g, G = some g → v.ownBlock = some g := by
  by_cases hne : l = []
  · subst hne
    obtain ⟨a, c, rfl⟩ := bRow_form h
    clear h
    show Calls _ _ #[.slice a 0 c, _] _ _
    go_enter Try.func8, Try.ntmps8
    go_wp2
    refine wp_loop_rounds 1 ?_
    rw [rounds_succ]
    go_wp2
    go_ret
    exact ⟨rfl, .inl ⟨rfl, a, c, rfl⟩, none, World.grownBy.refl _ _, fun g hg => by cases hg⟩
  · have hp : 0 < l.length := List.length_pos_iff.2 hne
    refine (mark_own v l w (own_row hp hl h)).mono ?_
    rintro e w' ⟨rfl, ho, g, hg, _, hgr⟩
    exact ⟨rfl, .inr ho, some g, hgr, fun g' h' => by cases h'; exact hg⟩
theorem heldB {B : Nat} (v : Value) (n : Nat) (w : World) (h : MK B w v n) :
    Calls Try.prog 9 #[v, .int .i64 1] w fun e w' => e = .returned (.int .i64 (1 + n)) ∧ ∃ q, w' = w.drewN q := by
  rcases h with ⟨rfl, a, c, rfl⟩ | h
  · go_enter Try.func9, Try.ntmps9
    go_wp2
    refine wp_loop_rounds 1 ?_
    rw [rounds_succ]
    go_wp2
    go_ret
    exact ⟨rfl, 0, rfl⟩
  · exact held_own v n w h
theorem eL_len (t : Tt) (ht : t.ok) (s : Int) : (eL t s).length ≤ 2000 := by
  rw [eL]
  split
  · have h1 : (pay t.ns).length ≤ 80 := Nat.le_trans (pay_len _ ht) (by simp [Tt.ns])
    have h2 := frH_len (m := 69) (p := pay t.ns) (by omega)
    rw [frL, List.length_append]; simp; omega
  · simp
set_option maxRecDepth 100000 in
set_option maxHeartbeats 3200000 in
theorem exactEnd (t : Tt) (ht : t.ok) (s : Int) (w : World) :
    Calls Try.prog 3 #[.agg #[.int .i64 t.a, .int .i64 t.b, .int .i64 t.c, .int .i64 t.d, .int .i64 t.e, .int .i64 t.f, .int .i64 t.g, .int .i64 t.h], .int .i64 s] w fun e w' => e = .returned (.bool true) ∧ Below w.heap.size w w' := by
  have HS := hide (fun W => specEnd_any t ht s W)
  have HI := hide (fun W => implEnd_any t ht s W)
  have HT := hide (fun W => toTot_any t W)
  have hll := eL_len t ht s
  generalize eL t s = L at HS HI hll
  generalize eS t s = S at HS HI
  generalize eC s = C at HS HI
  obtain ⟨n0, n1, n2, n3, n4, n5, n6, n7⟩ := t
  simp only at HS HI HT ⊢
  clear ht
  have hb1 : Below w.heap.size w (w.alloc (Obj.cells #[.int .i64 n0, .int .i64 n1, .int .i64 n2, .int .i64 n3, .int .i64 n4, .int .i64 n5, .int .i64 n6, .int .i64 n7] 23)) := (Below.refl _ _).alloc (Nat.le_refl _) _
  have HB1 := hide hb1
  have HR1 : Hid (World.rangeAt (w.alloc (Obj.cells #[.int .i64 n0, .int .i64 n1, .int .i64 n2, .int .i64 n3, .int .i64 n4, .int .i64 n5, .int .i64 n6, .int .i64 n7] 23)) w.heap.size 0 [.int .i64 n0, .int .i64 n1, .int .i64 n2, .int .i64 n3, .int .i64 n4, .int .i64 n5, .int .i64 n6, .int .i64 n7]) := cells_madeE w [.int .i64 n0, .int .i64 n1, .int .i64 n2, .int .i64 n3, .int .i64 n4, .int .i64 n5, .int .i64 n6, .int .i64 n7] _
  have hs1 : w.heap.size < (w.alloc (Obj.cells #[.int .i64 n0, .int .i64 n1, .int .i64 n2, .int .i64 n3, .int .i64 n4, .int .i64 n5, .int .i64 n6, .int .i64 n7] 23)).heap.size := by rw [size_madeE]; omega
  have hneg : ¬ (1 + (L.length : Int) < 0) := by omega
  clear hb1
  go_enter Try.func3, Try.ntmps3
  refine wp_seq_k fun K hK => ?_
  have HK1 := hide hK
  clear hK
  go_wp2_with fail
  refine unhide HK1 _ _ ?_
  clear HK1
  generalize (w.alloc (Obj.cells #[.int .i64 n0, .int .i64 n1, .int .i64 n2, .int .i64 n3, .int .i64 n4, .int .i64 n5, .int .i64 n6, .int .i64 n7] 23)) = X at HB1 HR1 hs1 ⊢
  have HCELL : Hid (∀ W : World, Below X.heap.size X W → W.cell? ⟨w.heap.size, 0, none⟩ = some (.int .i64 n0) ∧ W.cell? ⟨w.heap.size, 1, none⟩ = some (.int .i64 n1) ∧ W.cell? ⟨w.heap.size, 2, none⟩ = some (.int .i64 n2) ∧ W.cell? ⟨w.heap.size, 3, none⟩ = some (.int .i64 n3) ∧ W.cell? ⟨w.heap.size, 4, none⟩ = some (.int .i64 n4) ∧ W.cell? ⟨w.heap.size, 5, none⟩ = some (.int .i64 n5) ∧ W.cell? ⟨w.heap.size, 6, none⟩ = some (.int .i64 n6) ∧ W.cell? ⟨w.heap.size, 7, none⟩ = some (.int .i64 n7)) := fun W hW =>
    have p := range_below (unhide HR1) hW hs1
    ⟨p 0 _ rfl, p 1 _ rfl, p 2 _ rfl, p 3 _ rfl, p 4 _ rfl, p 5 _ rfl, p 6 _ rfl, p 7 _ rfl⟩
  obtain ⟨z0, z1, z2, z3, z4, z5, z6, z7⟩ := unhide HCELL X (Below.refl _ _)
  go_wp2_with fail
  refine (unhide HT X).mono ?_
  rintro e w2 ⟨rfl, hb2⟩
  have B2 := hide hb2
  clear hb2 z0 z1 z2 z3 z4 z5 z6 z7
  go_wp2_with fail
  refine (unhide HS w2).mono ?_
  rintro e w3 ⟨v0, rfl, ho, hb⟩
  have O0 := hide ho
  have hv0 : Hid (∀ g, v0.ownBlock = some g → g < w3.heap.size) := fun g hg => (ho.lt g hg).2
  have B3 := hide ((unhide B2).trans (hb.mono (unhide B2).size))
  clear ho hb
  obtain ⟨z0, z1, z2, z3, z4, z5, z6, z7⟩ := unhide HCELL w3 (unhide B3)
  go_wp2_with fail
  refine (unhide HT w3).mono ?_
  rintro e w4 ⟨rfl, hb⟩
  have O0 := hide (bRow_below (unhide O0) hb)
  have h34 : w3.heap.size ≤ w4.heap.size := hb.size
  have B4 := hide ((unhide B3).trans (hb.mono (unhide B3).size))
  clear hb z0 z1 z2 z3 z4 z5 z6 z7
  go_wp2_with fail
  refine (unhide HI w4).mono ?_
  rintro e w5 ⟨v1, rfl, ho, hb⟩
  have O1 := hide ho
  have O0 := hide (bRow_below (unhide O0) hb)
  have B5 := hide ((unhide B4).trans (hb.mono (unhide B4).size))
  have hX4 : X.heap.size ≤ w4.heap.size := (unhide B4).size
  clear ho hb
  go_wp2_with fail
  refine (eqBytes_same v1 v0 L w5 (bRow_rd (unhide O1) (by omega)) (bRow_rd (unhide O0) (by omega))).mono ?_
  rintro e w6 ⟨rfl, q6, rfl⟩
  have O1 : Hid (BRow (w5.drewN q6) w4.heap.size v1 L) := unhide O1
  have O0 : Hid (BRow (w5.drewN q6) w2.heap.size v0 L) := unhide O0
  have B6 : Hid (Below X.heap.size X (w5.drewN q6)) := below_drewN' (unhide B5) q6
  generalize (w5.drewN q6) = w6 at O1 O0 B6 ⊢
  go_wp2_with fail
  refine (markB v1 L w6 (unhide O1) (by omega)).mono ?_
  rintro e w7 ⟨rfl, hmk, G, hgr, hG⟩
  have O0 := hide (World.ownsRow.kept (unhide O0) hgr (by cases e : v0.ownBlock with | none => exact .inl rfl | some g => exact .inr fun e2 => by have h1 := unhide hv0 g e; have h2 := ((unhide O1).lt g (hG g e2.symm)).1; omega))
  have B7 := hide ((unhide B6).grown hgr (unhide B6).size (fun g hg => Nat.le_trans hX4 ((unhide O1).lt g (hG g hg)).1))
  have MK7 := hide hmk
  clear hmk hgr hG
  go_wp2_with fail
  refine (heldB v1 L.length w7 (unhide MK7)).mono ?_
  rintro e w8 ⟨rfl, q8, rfl⟩
  have MK8 := hide (mk_drew (unhide MK7) q8)
  have O0 : Hid (BRow (w7.drewN q8) w2.heap.size v0 L) := unhide O0
  have B8 : Hid (Below X.heap.size X (w7.drewN q8)) := below_drewN' (unhide B7) q8
  generalize (w7.drewN q8) = w8 at MK8 O0 B8 ⊢
  obtain ⟨z0, z1, z2, z3, z4, z5, z6, z7⟩ := unhide HCELL w8 (unhide B8)
  go_wp2_with fail
  refine (unhide HT w8).mono ?_
  rintro e w9 ⟨rfl, hb⟩
  have O0 := hide (bRow_below (unhide O0) hb)
  have MK9 := hide (mk_below (unhide MK8) hb (Nat.le_refl _))
  have B9 := hide ((unhide B8).trans (hb.mono (unhide B8).size))
  clear hb z0 z1 z2 z3 z4 z5 z6 z7
  go_wp2_with fail
  refine (unhide HI w9).mono ?_
  rintro e w10 ⟨v2, rfl, ho, hb⟩
  have O2 := hide ho
  have O0 := hide (bRow_below (unhide O0) hb)
  have MK10 := hide (mk_below (unhide MK9) hb (Nat.le_refl _))
  have B10 := hide ((unhide B9).trans (hb.mono (unhide B9).size))
  clear ho hb
  go_wp2_with fail
  refine (eqBytes_same v2 v0 L w10 (bRow_rd (unhide O2) (by omega)) (bRow_rd (unhide O0) (by omega))).mono ?_
  rintro e w11 ⟨rfl, q11, rfl⟩
  have MK11 := hide (mk_drew (unhide MK10) q11)
  have B11 : Hid (Below X.heap.size X (w10.drewN q11)) := below_drewN' (unhide B10) q11
  generalize (w10.drewN q11) = w11 at MK11 B11 ⊢
  go_wp2_with fail
  refine (heldB v1 L.length w11 (unhide MK11)).mono ?_
  rintro e w12 ⟨rfl, q12, rfl⟩
  have B12 : Hid (Below X.heap.size X (w11.drewN q12)) := below_drewN' (unhide B11) q12
  go_wp2_with fail
  go_ret
  exact ⟨rfl, (unhide HB1).trans ((unhide B12).mono (unhide HB1).size)⟩
section
variable {H : Type} {enc : TypeId × Value → H} {w : World} {base : Nat} {spare : Nat → Bool} {held : Bool}
theorem list8t {cs : List Value} (h : cs.length = 8) : ∃ v0 v1 v2 v3 v4 v5 v6 v7, cs = [v0, v1, v2, v3, v4, v5, v6, v7] :=
  match cs, h with
  | [v0, v1, v2, v3, v4, v5, v6, v7], _ => ⟨v0, v1, v2, v3, v4, v5, v6, v7, rfl⟩
theorem tt_opened {fuel : Nat} {cs : List Value} {x : DataW H × List MemPlace} (h : DataW.trod enc Try.prog w base spare held fuel 23 cs = some x) : ∃ t : Tt, cs = t.vs ∧ t.ok := by
  obtain ⟨xs, n, _, _, hlen, hxl, hf⟩ := DataW.trod_struct Try.underlying23 h
  have hl8 : cs.length = 8 := hlen.trans (by kernel_rfl)
  have k3 : Try.prog.cellsOf 3 = 1 := by kernel_rfl
  have hx : ∀ i, i < 8 → ∃ y, xs[i]? = some y := fun i hi => ⟨_, List.getElem?_eq_getElem (by rw [hxl]; exact hi)⟩
  obtain ⟨y0, e0⟩ := hx 0 (by omega)
  obtain ⟨y1, e1⟩ := hx 1 (by omega)
  obtain ⟨y2, e2⟩ := hx 2 (by omega)
  obtain ⟨y3, e3⟩ := hx 3 (by omega)
  obtain ⟨y4, e4⟩ := hx 4 (by omega)
  obtain ⟨y5, e5⟩ := hx 5 (by omega)
  obtain ⟨y6, e6⟩ := hx 6 (by omega)
  obtain ⟨y7, e7⟩ := hx 7 (by omega)
  have f0 : DataW.trod enc Try.prog w base spare held n 3 ((cs.drop 0).take (Try.prog.cellsOf 3)) = some y0 := (hf 0 _ rfl).trans e0
  have f1 : DataW.trod enc Try.prog w base spare held n 3 ((cs.drop 1).take (Try.prog.cellsOf 3)) = some y1 := (hf 1 _ rfl).trans e1
  have f2 : DataW.trod enc Try.prog w base spare held n 3 ((cs.drop 2).take (Try.prog.cellsOf 3)) = some y2 := (hf 2 _ rfl).trans e2
  have f3 : DataW.trod enc Try.prog w base spare held n 3 ((cs.drop 3).take (Try.prog.cellsOf 3)) = some y3 := (hf 3 _ rfl).trans e3
  have f4 : DataW.trod enc Try.prog w base spare held n 3 ((cs.drop 4).take (Try.prog.cellsOf 3)) = some y4 := (hf 4 _ rfl).trans e4
  have f5 : DataW.trod enc Try.prog w base spare held n 3 ((cs.drop 5).take (Try.prog.cellsOf 3)) = some y5 := (hf 5 _ rfl).trans e5
  have f6 : DataW.trod enc Try.prog w base spare held n 3 ((cs.drop 6).take (Try.prog.cellsOf 3)) = some y6 := (hf 6 _ rfl).trans e6
  have f7 : DataW.trod enc Try.prog w base spare held n 3 ((cs.drop 7).take (Try.prog.cellsOf 3)) = some y7 := (hf 7 _ rfl).trans e7
  clear hf hx e0 e1 e2 e3 e4 e5 e6 e7 h hlen
  obtain ⟨v0, v1, v2, v3, v4, v5, v6, v7, rfl⟩ := list8t hl8
  clear hl8
  simp only [k3, List.drop_zero, List.drop_succ_cons, List.take_succ_cons, List.take_zero] at f0 f1 f2 f3 f4 f5 f6 f7
  obtain ⟨n0, c0, _, b0⟩ := DataW.trod_int Try.underlying3 f0
  obtain ⟨n1, c1, _, b1⟩ := DataW.trod_int Try.underlying3 f1
  obtain ⟨n2, c2, _, b2⟩ := DataW.trod_int Try.underlying3 f2
  obtain ⟨n3, c3, _, b3⟩ := DataW.trod_int Try.underlying3 f3
  obtain ⟨n4, c4, _, b4⟩ := DataW.trod_int Try.underlying3 f4
  obtain ⟨n5, c5, _, b5⟩ := DataW.trod_int Try.underlying3 f5
  obtain ⟨n6, c6, _, b6⟩ := DataW.trod_int Try.underlying3 f6
  obtain ⟨n7, c7, _, b7⟩ := DataW.trod_int Try.underlying3 f7
  simp only [List.cons.injEq, and_true] at c0 c1 c2 c3 c4 c5 c6 c7
  subst c0 c1 c2 c3 c4 c5 c6 c7
  refine ⟨⟨n0, n1, n2, n3, n4, n5, n6, n7⟩, rfl, fun m hm => ?_⟩
  simp only [Tt.ns, List.mem_cons, List.not_mem_nil, or_false] at hm
  rcases hm with rfl | rfl | rfl | rfl | rfl | rfl | rfl | rfl
  · exact bounds_i64 b0
  · exact bounds_i64 b1
  · exact bounds_i64 b2
  · exact bounds_i64 b3
  · exact bounds_i64 b4
  · exact bounds_i64 b5
  · exact bounds_i64 b6
  · exact bounds_i64 b7
end
end Go.Proofs.Ytelnpobhmjdaoaa
