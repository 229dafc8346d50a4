/-
  A book drawn out of the source, whole: proved by walking the method.
-/
import Derived.Test.YtadnjcgfoofjiaaLj25
import Derived.Test.YtadnjcgfoofjiaaLj30
import Derived.Test.YtadnjcgfoofjiaaLj38
import Derived.Test.YtadnjcgfoofjiaaLj39
namespace Go.Proofs.Ytadnjcgfoofjiaa
open Go.RowKit
set_option linter.unusedVariables false

/-- The drawn book in its box, its row, and the source. -/
structure BkS (B : Nat) (v : Value) (l : List Int) (w : World) (n : Int) (q : List Od) (vq : Value) (m' : Int) (W : World) : Prop where
  c0 : W.cell? ⟨w.heap.size + 1, 0, none⟩ = some (.int .i64 n)
  c1 : W.cell? ⟨w.heap.size + 1, 1, none⟩ = some vq
  th : W.there (w.heap.size + 1) 0 2
  th0 : W.there w.heap.size 0 2
  row : ORow W (w.heap.size + 2) vq q
  src : Src B W v l m'
  gr : w.grownBy W (some B)
  sz : w.heap.size + 2 ≤ W.heap.size
section
variable {B : Nat} {v : Value} {l : List Int} {w W W' : World} {n : Int} {q : List Od} {vq : Value} {m' m'' : Int}
theorem bkS_grown (h : BkS B v l w n q vq m' W) (hB : B < w.heap.size) (hg : W.grownBy W' (some B)) (hs : Src B W' v l m'') : BkS B v l w n q vq m'' W' where
  c0 := hg.cell h.c0 (fun e => by have := Option.some.inj e; simp at this; omega)
  c1 := hg.cell h.c1 (fun e => by have := Option.some.inj e; simp at this; omega)
  th := there_grown h.th hg (by have := h.sz; omega) (fun e => by have := Option.some.inj e; omega)
  th0 := there_grown h.th0 hg (by have := h.sz; omega) (fun e => by have := Option.some.inj e; omega)
  row := h.row.kept hg (by
    cases hv : vq.ownBlock with
    | none => exact .inl rfl
    | some g => exact .inr (fun e => by have := Option.some.inj e; have := (h.row.lt g hv).1; omega))
  src := hs
  gr := gr_trans h.gr hg
  sz := Nat.le_trans h.sz hg.size
theorem bkS_set (h : BkS B v l w n q vq m' W) (hB : B < w.heap.size) (hv : l ≠ [] → ∃ b', v.ownBlock = some b' ∧ b' < w.heap.size) {p : Nat} (hp : w.heap.size + 2 ≤ p) (hq : vq.ownBlock ≠ some p) (o : Nat) (u : Value) : BkS B v l w n q vq m' (W.setCell ⟨p, o, none⟩ u) where
  c0 := (gr_set W ⟨p, o, none⟩ u).cell h.c0 (fun e => by have := Option.some.inj e; simp at this; omega)
  c1 := (gr_set W ⟨p, o, none⟩ u).cell h.c1 (fun e => by have := Option.some.inj e; simp at this; omega)
  th := there_grown h.th (gr_set W ⟨p, o, none⟩ u) (by have := h.sz; omega) (fun e => by have := Option.some.inj e; simp at this; omega)
  th0 := there_grown h.th0 (gr_set W ⟨p, o, none⟩ u) (by have := h.sz; omega) (fun e => by have := Option.some.inj e; simp at this; omega)
  row := h.row.kept (gr_set W ⟨p, o, none⟩ u) (.inr hq)
  src := srcD_grown h.src (gr_set W ⟨p, o, none⟩ u) (fun e => by have := Option.some.inj e; simp at this; omega) (fun hne e => by
    obtain ⟨b', h1, h2⟩ := hv hne
    rw [h1] at e
    have := Option.some.inj e; simp at this; omega)
  gr := by
    have g := gr_set W ⟨p, o, none⟩ u
    exact ⟨h.gr.os, h.gr.tape, h.gr.output, Nat.le_trans h.gr.size g.size, fun k hk hne => (g.block k (Nat.lt_of_lt_of_le hk h.gr.size) (fun e => by have := Option.some.inj e; simp at this; omega)).trans (h.gr.block k hk hne)⟩
  sz := Nat.le_trans h.sz (gr_set W ⟨p, o, none⟩ u).size
theorem there_setO {W : World} {b c o k : Nat} {u : Value} (h : W.there b o k) (j : Nat) : (W.setCell ⟨c, j, none⟩ u).there b o k := World.there_setCells (vs := [u]) h c j
theorem bkS_next (h : BkS B v l w n q vq m' W) (hB : B < w.heap.size) (hv : l ≠ [] → ∃ b', v.ownBlock = some b' ∧ b' < w.heap.size) (n' : Int) : BkS B v l w n' q vq m' (W.setCell ⟨w.heap.size + 1, 0, none⟩ (.int .i64 n')) where
  c0 := World.cell?_setCell_same _ _ _ h.c0
  c1 := (World.cell?_setCell_other _ _ _ _ (addr_ne (by omega))).trans h.c1
  th := there_setO h.th 0
  th0 := there_setO h.th0 0
  row := h.row.kept (gr_set W ⟨w.heap.size + 1, 0, none⟩ _) (by
    cases hv : vq.ownBlock with
    | none => exact .inl rfl
    | some g => exact .inr (fun e => by have := Option.some.inj e; simp at this; have := (h.row.lt g hv).1; omega))
  src := srcD_grown h.src (gr_set W ⟨w.heap.size + 1, 0, none⟩ _) (fun e => by have := Option.some.inj e; simp at this; omega) (fun hne e => by
    obtain ⟨b', h1, h2⟩ := hv hne
    rw [h1] at e
    have := Option.some.inj e; simp at this; omega)
  gr := by
    have g := gr_set W ⟨w.heap.size + 1, 0, none⟩ (.int .i64 n')
    exact ⟨h.gr.os, h.gr.tape, h.gr.output, Nat.le_trans h.gr.size g.size, fun k hk hne => (g.block k (Nat.lt_of_lt_of_le hk h.gr.size) (fun e => by have := Option.some.inj e; simp at this; omega)).trans (h.gr.block k hk hne)⟩
  sz := Nat.le_trans h.sz (gr_set W ⟨w.heap.size + 1, 0, none⟩ _).size
theorem bkS_set6 (h : BkS B v l w n q vq m' W) (hB : B < w.heap.size) (hv : l ≠ [] → ∃ b', v.ownBlock = some b' ∧ b' < w.heap.size) {p : Nat} (hp : w.heap.size + 2 ≤ p) (hq : vq.ownBlock ≠ some p) (v0 v1 v2 v3 v4 v5 : Value) :
    BkS B v l w n q vq m' ((((((W.setCell ⟨p, 0, none⟩ v0).setCell ⟨p, 1, none⟩ v1).setCell ⟨p, 2, none⟩ v2).setCell ⟨p, 3, none⟩ v3).setCell ⟨p, 4, none⟩ v4).setCell ⟨p, 5, none⟩ v5) :=
  bkS_set (bkS_set (bkS_set (bkS_set (bkS_set (bkS_set h hB hv hp hq 0 v0) hB hv hp hq 1 v1) hB hv hp hq 2 v2) hB hv hp hq 3 v3) hB hv hp hq 4 v4) hB hv hp hq 5 v5
theorem row_slice {W : World} {B e sz n : Nat} {v : Value} {xs : List Value} (h : W.ownsRow B e sz v n xs) (hn : 0 < n) : ∃ g c, v = .slice (some ⟨g, 0, none⟩) n c := by
  rcases h.2 with ⟨_, h0⟩ | ⟨g, cap, _, h1, _⟩
  · omega
  · exact ⟨g, cap, h1⟩
theorem cellsQs {W : World} {s : Nat} (hs : W.heap.size = s) (cs : List Value) (t : TypeId) (j : Nat) (u : Value) (h : cs[j]? = some u) : (W.alloc (Obj.cells cs.toArray t)).cell? ((⟨s, 0, none⟩ : Addr).add j) = some u := by
  subst hs; exact cellsQ W cs t j u h
theorem bkS_push (h : BkS B v l w n q vq m' W) (hB : B < w.heap.size) (hv : l ≠ [] → ∃ b', v.ownBlock = some b' ∧ b' < w.heap.size) {ob : Obj} {vq' : Value} {o : Od} (hown : W'.ownsRow (w.heap.size + 2) 33 6 vq' (q.length + 1) (q.flatMap Od.vs ++ o.vs)) (hg : (W.alloc ob).grownBy W' vq.ownBlock) :
    BkS B v l w n (q ++ [o]) vq' m' (W'.setCell ⟨w.heap.size + 1, 1, none⟩ vq') := by
  have hg2 : W.grownBy W' vq.ownBlock := (World.grownBy_alloc W ob _).trans hg
  have hlt : ∀ k, k < w.heap.size + 2 → some k ≠ vq.ownBlock := fun k hk e => by have := (h.row.lt k e.symm).1; omega
  have hsz := h.sz
  have s2 : Src B W' v l m' := srcD_grown h.src hg2 (hlt B (by omega)) (fun hne e => by
    obtain ⟨b', h1, h2⟩ := hv hne
    rw [h1] at e
    exact hlt b' (by omega) e)
  have hrow : ORow W' (w.heap.size + 2) vq' (q ++ [o]) := by
    show W'.ownsRow _ _ _ _ (q ++ [o]).length _
    rw [List.length_append, List.flatMap_append]; simpa using hown
  have g := gr_set W' ⟨w.heap.size + 1, 1, none⟩ vq'
  have e1 := hg2.cell h.c1 (hlt _ (by simp))
  exact {
    c0 := (World.cell?_setCell_other _ _ _ _ (addr_ne (by omega))).trans (hg2.cell h.c0 (hlt _ (by simp)))
    c1 := World.cell?_setCell_same _ _ _ e1
    th := there_setO (there_grown h.th hg2 (by omega) (hlt _ (by omega))) 1
    th0 := there_setO (there_grown h.th0 hg2 (by omega) (hlt _ (by omega))) 1
    row := hrow.kept g (by
      cases hv : vq'.ownBlock with
      | none => exact .inl rfl
      | some k => exact .inr (fun e => by have := Option.some.inj e; simp at this; have := (hrow.lt k hv).1; omega))
    src := srcD_grown s2 g (fun e => by have := Option.some.inj e; simp at this; omega) (fun hne e => by
      obtain ⟨b', h1, h2⟩ := hv hne
      rw [h1] at e
      have := Option.some.inj e; simp at this; omega)
    gr := ⟨g.os.trans (hg2.os.trans h.gr.os), g.tape.trans (hg2.tape.trans h.gr.tape), g.output.trans (hg2.output.trans h.gr.output), Nat.le_trans (Nat.le_trans h.gr.size hg2.size) g.size, fun k hk hne =>
      (g.block k (Nat.lt_of_lt_of_le hk (Nat.le_trans h.gr.size hg2.size)) (fun e => by have := Option.some.inj e; simp at this; omega)).trans ((hg2.block k (Nat.lt_of_lt_of_le hk h.gr.size) (hlt k (by omega))).trans (h.gr.block k hk hne))⟩
    sz := Nat.le_trans hsz (Nat.le_trans hg2.size g.size) }
end
theorem rd_lenR' {α : Type} {f : α → List Value} {sz : Nat} {W : World} {v : Value} {l : List α} (h : RdR f sz W v l) : ∃ a c, v = .slice a l.length c := by
  obtain ⟨a, c, h1, _⟩ := h; exact ⟨a, c, h1⟩
/-- Along the rounds: the book so far. -/
def BkI (B : Nat) (v : Value) (l : List Int) (m : Int) (w : World) (iv : Value) (wr : World) : Prop :=
  ∃ (i : Nat) (n : Int) (q : List Od) (vq : Value) (m' : Int), iv = .int .i64 i ∧ i + q.length ≤ 13 ∧ 1 ≤ n ∧ n ≤ 1 + 3 * (q.length : Int) ∧ DrB n q ∧ (∀ c ∈ q, c.tag.size ≤ 12) ∧
    BkS B v l w n q vq m' wr ∧ m' ≤ m + 3 + 100 * (q.length : Int)

set_option maxRecDepth 100000 in
set_option maxHeartbeats 3200000 in
theorem book_any (B : Nat) (v : Value) (l : List Int) (m : Int) (w : World) (h : Src B w v l m) (hm : m ≤ 1000000) :
    Calls Try.prog 29 #[.pointer (some ⟨B, 0, none⟩)] w fun e w' => ∃ n v' q, e = .returned (.agg #[.int .i64 n, v']) ∧ OwnR Od.vs 6 w.heap.size w' v' q ∧ okS n q = true ∧ (∀ c ∈ q, c.tag.size ≤ maxLen) ∧ w.grownBy w' (some B) ∧ (v' = .slice none 0 0 ∨ ∃ ad k c, v' = .slice (some ad) k c) := by
  have HS := hide h
  have hB := srcD_lt h
  have HV : Hid (l ≠ [] → ∃ b', v.ownBlock = some b' ∧ b' < w.heap.size) := fun hne => by
    obtain ⟨a, cap, rfl, hl, hc⟩ := h.rd
    obtain ⟨b, off, rfl, hcell⟩ := hc hne
    exact ⟨b, rfl, World.block_lt_of_cell? w _ (hcell 0 (List.length_pos_iff.2 hne))⟩
  clear h
  have hs1 : (w.alloc (Obj.cells #[.int .i64 0, .slice none 0 0] 25)).heap.size = w.heap.size + 1 := size_made _ _
  have hs2 : ((w.alloc (Obj.cells #[.int .i64 0, .slice none 0 0] 25)).alloc (Obj.cells #[.int .i64 1, .slice none 0 0] 25)).heap.size = w.heap.size + 2 := by rw [size_made, hs1]
  have r1 := cells_made (w.alloc (Obj.cells #[.int .i64 0, .slice none 0 0] 25)) [.int .i64 1, .slice none 0 0] 25
  have t1 := there_block (n := 2) (heap_alloc_new (w.alloc (Obj.cells #[.int .i64 0, .slice none 0 0] 25)) (Obj.cells #[.int .i64 1, .slice none 0 0] 25)) (by simp)
  have t0 := there_below (there_block (n := 2) (heap_alloc_new w (Obj.cells #[.int .i64 0, .slice none 0 0] 25)) (by simp)) ((Below.refl (w.heap.size + 1) _).alloc (by rw [hs1]; omega) (Obj.cells #[.int .i64 1, .slice none 0 0] 25)) (by omega)
  rw [hs1] at r1 t1
  have HE2 := hide (srcE_alloc (srcE_alloc (src_refl (unhide HS)) (Obj.cells #[.int .i64 0, .slice none 0 0] 25)) (Obj.cells #[.int .i64 1, .slice none 0 0] 25))
  have HX : Hid (_ ∧ _ ∧ _) := ⟨r1, t1, t0⟩
  clear r1 t1 t0 hs1
  go_enter Try.func29, Try.ntmps29
  go_wp2_with fail
  generalize ((w.alloc (Obj.cells #[.int .i64 0, .slice none 0 0] 25)).alloc (Obj.cells #[.int .i64 1, .slice none 0 0] 25)) = W2 at HE2 HX hs2 ⊢
  refine (size_any B v l m 12 W2 (unhide HE2).1 (by omega)).mono ?_
  rintro e w3 ⟨y, rfl, hy0, hy1, rfl⟩
  go_wp2_with fail
  refine (next_any B v l m (y + 2) w3 (unhide HE2).1 (by omega) (by omega) (by omega)).mono ?_
  rintro e w4 ⟨z, rfl, hz0, hz1, hE4⟩
  obtain ⟨i0, rfl⟩ := Int.eq_ofNat_of_zero_le hz0
  have HST : Hid (BkI B v l m w (.int .i64 i0) w4) := by
    obtain ⟨r1, t1, t0⟩ := unhide HX
    have hk : BkS B v l w 1 [] (.slice none 0 0) m w3 := ⟨r1 0 _ rfl, r1 1 _ rfl, t1, t0, World.ownsRow_nil _ _ _ _, (unhide HE2).1, (unhide HE2).2, by omega⟩
    exact ⟨i0, 1, [], .slice none 0 0, m + 3, rfl, by simp; omega, by omega, by simp, drB_nil, by simp, bkS_grown hk hB hE4.2 hE4.1, by simp⟩
  clear hE4
  go_wp2_with fail
  go_loopw [4] (fun iv wr => BkI B v l m w iv wr) (fun iv _ => (intOf iv).toNat)
  case atStart => exact unhide HST
  case round =>
    obtain ⟨i, n, q, vq, m', rfl, hiq, hn1, hn2, hdr, htg, hbk, hm'⟩ := hrel
    have HDR := hide hdr
    have HTG := hide htg
    have HBK := hide hbk
    clear hdr htg hbk
    by_cases hi : 0 < i
    · have hi' : (0 : Int) < i := by omega
      go_wp2_with fail
      refine wp_region_inv2 (RS (BS B wr v l m') (fun f => { tmps := #[.pointer (some ⟨B, 0, none⟩), undef, .pointer (some ⟨w.heap.size, 0, none⟩), .pointer (some ⟨w.heap.size + 1, 0, none⟩), .int .i64 i, u5, .agg #[.int .i64 1, .slice none 0 0], .pointer (some ⟨B, 0, none⟩), .pointer (some ⟨B, 0, none⟩), .int .i64 y, .int .i64 (y + 2), .int .i64 i0, .int .i64 i, .bool true, u14, u15, f 0, f 1, f 2, f 3, f 4, f 5, u22, u23, u24, u25, u26, u27, u28, u29, u30, u31, u32, u33, u34, u35, u36, u37, u38, u39, u40, u41, u42, u43, u44, u45, u46, u47, u48, u49, u50, u51, u52, u53, u54, u55, u56, u57, undef], defers := [] }) 6 (D5 B (w.heap.size + 1) n (fun W => ∃ yy : Int, 0 ≤ yy ∧ yy ≤ 2 ∧ BkS B v l w (n + yy) q vq (m' + 21) W))) (by kernel_rfl) ?_ ?_ ?_
      · exact ⟨fun j => if j = 0 then u16 else if j = 1 then u17 else if j = 2 then u18 else if j = 3 then u19 else if j = 4 then u20 else if j = 5 then u21 else undef, rfl, fun _ => ⟨m', by simp, src_drew (src_refl (unhide HBK).src) 1⟩, fun j hj => by rw [List.getElem?_replicate] at hj; split at hj <;> simp at hj⟩
      · rintro x A V ⟨f, rfl, -, hD⟩ hx hrd
        have hallx := ready_all hrd hx (acyc _ (by kernel_rfl))
        have k6 : x[6]? = some true := hallx 6 (by simp)
        obtain ⟨yy, hyy0, hyy1, hb5⟩ := hD 6 k6 k6
        have HB5 := hide hb5
        clear hD hallx hrd hx hb5 k6
        dsimp only
        generalize f 0 = z0
        generalize f 1 = z1
        generalize f 2 = z2
        generalize f 3 = z3
        generalize f 4 = z4
        generalize f 5 = z5
        go_wp2_with fail
        generalize hV5 : V = V5 at *
        clear hV5 V
        refine wp_region_inv2 (RS (BS B V5 v l (m' + 21)) (fun f => { tmps := #[.pointer (some ⟨B, 0, none⟩), undef, .pointer (some ⟨w.heap.size, 0, none⟩), .pointer (some ⟨w.heap.size + 1, 0, none⟩), .int .i64 i, f 15, .agg #[.int .i64 1, .slice none 0 0], .pointer (some ⟨B, 0, none⟩), .pointer (some ⟨B, 0, none⟩), .int .i64 y, .int .i64 (y + 2), .int .i64 i0, .int .i64 i, .bool true, u14, u15, z0, z1, z2, z3, z4, z5, f 0, f 1, f 2, f 3, f 4, f 5, f 6, f 7, f 8, f 9, f 10, f 11, f 12, f 13, f 14, u37, u38, u39, u40, u41, u42, u43, u44, u45, u46, u47, u48, u49, u50, u51, u52, u53, u54, u55, u56, u57, undef], defers := [] }) 16 (D6 B (w.heap.size + 1) V5.heap.size (n + yy) ⟨#[]⟩ ⟨#[97]⟩ ⟨#[100, 101, 115, 107, 32, 55]⟩ (fun pt W => ∃ o : Od, DrA (n + yy) o ∧ W.rangeAt pt 0 o.vs ∧ W.there pt 0 6 ∧ pt < W.heap.size ∧ BkS B v l w (n + yy) q vq (m' + 80) W))) (by kernel_rfl) ?_ ?_ ?_
        · exact ⟨fun j => if j = 0 then u22 else if j = 1 then u23 else if j = 2 then u24 else if j = 3 then u25 else if j = 4 then u26 else if j = 5 then u27 else if j = 6 then u28 else if j = 7 then u29 else if j = 8 then u30 else if j = 9 then u31 else if j = 10 then u32 else if j = 11 then u33 else if j = 12 then u34 else if j = 13 then u35 else if j = 14 then u36 else if j = 15 then u5 else undef, rfl, fun _ => ⟨m' + 21, by simp, src_drew (src_refl (unhide HB5).src) 1⟩, fun j hj => by rw [List.getElem?_replicate] at hj; split at hj <;> simp at hj⟩
        · rintro x A V ⟨f, rfl, -, hD⟩ hx hrd
          have hallx := ready_all hrd hx (acyc _ (by kernel_rfl))
          have k16 : x[16]? = some true := hallx 16 (by simp)
          obtain ⟨pt, e15, hSp, -, hpB, -, hfin⟩ := hD 15 (hallx 15 (by simp))
          obtain ⟨⟨id, side, tk, left, life, tag⟩, hda, hro, hto, hpl, hbk6⟩ := hfin k16
          have HBK6 := hide hbk6
          have HRO := hide hro
          have HTO := hide hto
          have HDA := hide hda
          have hpq : vq.ownBlock ≠ some pt := fun e => by have := ((unhide HB5).row.lt pt e).2; omega
          have hpw : w.heap.size + 2 ≤ pt := Nat.le_trans (unhide HB5).sz hSp
          have hpB' : some pt ≠ some B := fun e => hpB (Option.some.inj e)
          dsimp only
          simp only [e15]
          clear hD hallx hrd hx hbk6 hro hto hfin k16 hda e15
          generalize f 0 = a0
          generalize f 1 = a1
          generalize f 2 = a2
          generalize f 3 = a3
          generalize f 4 = a4
          generalize f 5 = a5
          generalize f 6 = a6
          generalize f 7 = a7
          generalize f 8 = a8
          generalize f 9 = a9
          generalize f 10 = a10
          generalize f 11 = a11
          generalize f 12 = a12
          generalize f 13 = a13
          generalize f 14 = a14
          go_wp2_with fail
          refine (next_any B v l (m' + 80) 4 V (unhide HBK6).src (by omega) (by omega) (by omega)).mono ?_
          rintro e w7 ⟨y7, rfl, h70, h71, hE7⟩
          have HBK7 := hide (bkS_grown (unhide HBK6) hB hE7.2 hE7.1)
          have hr7 := range_grown (unhide HRO) hE7.2 hpl hpB'
          have ht7 := there_grown (unhide HTO) hE7.2 hpl hpB'
          have hpl7 := Nat.lt_of_lt_of_le hpl hE7.2.size
          have HBK8 := hide (bkS_set (unhide HBK7) hB (unhide HV) hpw hpq 2 (.int .i64 (400 + y7)))
          have hr8 : (w7.setCell ⟨pt, 2, none⟩ (.int .i64 (400 + y7))).rangeAt pt 0 [.int .i64 id, .int .i64 side, .int .i64 (400 + y7), .int .i64 left, .int .i64 life, .string tag] := by
            have := set_range_in (v := .int .i64 (400 + y7)) hr7 (j0 := 2) (by simp [Od.vs])
            simpa [Od.vs] using this
          have ht8 : (w7.setCell ⟨pt, 2, none⟩ (.int .i64 (400 + y7))).there pt 0 6 := there_setO ht7 2
          have hpl8 : pt < (w7.setCell ⟨pt, 2, none⟩ (.int .i64 (400 + y7))).heap.size := by simpa [World.setCell] using hpl7
          have k1 : w7.cell? ⟨pt, 1, none⟩ = some (.int .i64 side) := hr7 1 _ rfl
          have k2 : w7.cell? ⟨pt, 2, none⟩ = some (.int .i64 tk) := hr7 2 _ rfl
          have kf2 : w7.frozen? ⟨pt, 2, none⟩ = false := (ht7 2 (by omega)).2
          have hwr : IntKind.i64.wrap (400 + y7) = 400 + y7 := by rw [IntKind.wrap_i64]; omega
          have HR8 := hide hr8
          have HT8 := hide ht8
          clear hE7 hr7 ht7 hr8 ht8
          obtain ⟨ii, hii, hz0, hz1, hz2⟩ := info_parts Try.infoOrder
          rcases (unhide HDA).2.1 with hs | hs
          · obtain rfl : side = 1 := hs
            go_wp2_with fail
            generalize (w7.setCell ⟨pt, 2, none⟩ (.int .i64 (400 + y7))) = W8 at HBK8 HR8 HT8 hpl8 ⊢
            refine (next_any B v l (m' + 80 + 3) 4 W8 (unhide HBK8).src (by omega) (by omega) (by omega)).mono ?_
            rintro e w9 ⟨y9, rfl, h90, h91, hE9⟩
            have HBK9 := hide (bkS_grown (unhide HBK8) hB hE9.2 hE9.1)
            have hr9 := range_grown (unhide HR8) hE9.2 hpl8 hpB'
            have ht9 := there_grown (unhide HT8) hE9.2 hpl8 hpB'
            have hpl9 := Nat.lt_of_lt_of_le hpl8 hE9.2.size
            have HX1 := hide (bkS_set (unhide HBK9) hB (unhide HV) hpw hpq 2 (.int .i64 (399 - y9)))
            have HRX : Hid ((w9.setCell ⟨pt, 2, none⟩ (.int .i64 (399 - y9))).rangeAt pt 0 [.int .i64 id, .int .i64 1, .int .i64 (399 - y9), .int .i64 left, .int .i64 life, .string tag]) := by
              have := set_range_in (v := .int .i64 (399 - y9)) hr9 (j0 := 2) (by simp)
              show World.rangeAt _ _ _ _
              simpa using this
            have hplX : pt < (w9.setCell ⟨pt, 2, none⟩ (.int .i64 (399 - y9))).heap.size := by simpa [World.setCell] using hpl9
            have k2 : w9.cell? ⟨pt, 2, none⟩ = some (.int .i64 (400 + y7)) := hr9 2 _ rfl
            have kf2 : w9.frozen? ⟨pt, 2, none⟩ = false := (ht9 2 (by omega)).2
            have hwr3 : IntKind.i64.wrap (399 - y9) = 399 - y9 := by rw [IntKind.wrap_i64]; omega
            clear hE9 hr9 ht9
            have HX2 := hide (bkS_next (unhide HX1) hB (unhide HV) (n + yy + 1))
            have hrx2 := range_grown (unhide HRX) (gr_set (w9.setCell ⟨pt, 2, none⟩ (.int .i64 (399 - y9))) ⟨w.heap.size + 1, 0, none⟩ (.int .i64 (n + yy + 1))) hplX (fun e => by have := Option.some.inj e; simp at this; omega)
            have HRX2 := hide hrx2
            have hx0 := (unhide HX1).c0
            have hxf := ((unhide HX1).th 0 (by omega)).2
            rw [Nat.zero_add] at hxf
            have hwr2 : IntKind.i64.wrap (n + yy + 1) = n + yy + 1 := by rw [IntKind.wrap_i64]; omega
            clear hrx2
            have hk1 := (unhide HX2).c1
            obtain ⟨o0, o1, o2, o3, o4, o5⟩ : _ ∧ _ ∧ _ ∧ _ ∧ _ ∧ _ := ⟨unhide HRX2 0 _ rfl, unhide HRX2 1 _ rfl, unhide HRX2 2 _ rfl, unhide HRX2 3 _ rfl, unhide HRX2 4 _ rfl, unhide HRX2 5 _ rfl⟩
            simp only [Nat.zero_add] at o0 o1 o2 o3 o4 o5
            have hs10 := (unhide HX2).sz
            have he10 : ((w9.setCell ⟨pt, 2, none⟩ (.int .i64 (399 - y9))).setCell ⟨w.heap.size + 1, 0, none⟩ (.int .i64 (n + yy + 1))).heap.size = w9.heap.size := by simp [World.setCell]
            rw [he10] at hs10
            go_wp2_with (at_builtin; go_must (refine wpList_append_own _ rfl _ _ 23 rfl (w.heap.size + 2) 33 ii _ 6 56 Try.underlying23 hii hz0 hz1 hz2 rfl (by decide) vq q.length (q.flatMap Od.vs) rfl ((unhide HX2).row.alloc _) ⟨w9.heap.size, 0, none⟩ 1 1 (Od.mk id 1 (399 - y9) left life tag).vs rfl rfl (cellsQs he10 _ _) (by simp [Value.oneCell', Od.vs]) (by unfold maxLen; omega) (by omega) (by rw [size_made, he10]; omega) ?_); intro v4 w11 hown4 hg4 _; obtain ⟨g4, c4, rfl⟩ := row_slice hown4 (by omega); have HK11 := hide (bkS_push (o := Od.mk id 1 (399 - y9) left life tag) (unhide HX2) hB (unhide HV) hown4 hg4); have q1 := hg4.cell ((World.cell?_alloc_lt _ _ ⟨w.heap.size + 1, 1, none⟩ (by rw [he10]; exact (show w.heap.size + 1 < w9.heap.size by omega))).trans hk1) (fun e => absurd ((unhide HX2).row.lt _ e.symm).1 (by simp)); have q2 := (there_grown (there_grown (unhide HX2).th (gr_allocD _ _ none) (by rw [he10]; omega) (by simp)) hg4 (by rw [size_made, he10]; omega) (fun e => by have := ((unhide HX2).row.lt _ e.symm).1; omega) 1 (by omega)).2; clear hown4 hg4)
            go_roundw
            case rel =>
              refine ⟨i - 1, n + yy + 1, q ++ [Od.mk id 1 (399 - y9) left life tag], _, m' + 80 + 3 + 3, ?_, by simp; omega, by omega, by simp; omega, ?_, ?_, unhide HK11, by simp; omega⟩
              · have : ((i - 1 : Nat) : Int) = (i : Int) - 1 := by omega
                rw [this]
              · obtain ⟨e1, e2, e3, e4, e5, e6, e7⟩ := unhide HDA
                exact drB_push (unhide HDR) ⟨.inl ⟨rfl, by show (396 : Int) ≤ 399 - y9; omega, by show 399 - y9 ≤ (399 : Int); omega⟩, e3, e4, e5, e6, e7⟩ e1 hyy0 hn1
              · intro c hc
                rcases List.mem_append.1 hc with hc | hc
                · exact unhide HTG c hc
                · simp at hc; subst hc
                  have := (unhide HDA).2.2.2.2.2.2
                  simp only [tagB, Bool.and_eq_true, decide_eq_true_eq] at this
                  exact this.1
            case measure => simp [intOf]; omega
          · obtain rfl : side = 2 := hs
            have HX1 := HBK8
            have HRX := HR8
            have hplX := hpl8
            have HX2 := hide (bkS_next (unhide HX1) hB (unhide HV) (n + yy + 1))
            have hrx2 := range_grown (unhide HRX) (gr_set (w7.setCell ⟨pt, 2, none⟩ (.int .i64 (400 + y7))) ⟨w.heap.size + 1, 0, none⟩ (.int .i64 (n + yy + 1))) hplX (fun e => by have := Option.some.inj e; simp at this; omega)
            have HRX2 := hide hrx2
            have hx0 := (unhide HX1).c0
            have hxf := ((unhide HX1).th 0 (by omega)).2
            rw [Nat.zero_add] at hxf
            have hwr2 : IntKind.i64.wrap (n + yy + 1) = n + yy + 1 := by rw [IntKind.wrap_i64]; omega
            clear hrx2
            have hk1 := (unhide HX2).c1
            obtain ⟨o0, o1, o2, o3, o4, o5⟩ : _ ∧ _ ∧ _ ∧ _ ∧ _ ∧ _ := ⟨unhide HRX2 0 _ rfl, unhide HRX2 1 _ rfl, unhide HRX2 2 _ rfl, unhide HRX2 3 _ rfl, unhide HRX2 4 _ rfl, unhide HRX2 5 _ rfl⟩
            simp only [Nat.zero_add] at o0 o1 o2 o3 o4 o5
            have hs10 := (unhide HX2).sz
            have he10 : ((w7.setCell ⟨pt, 2, none⟩ (.int .i64 (400 + y7))).setCell ⟨w.heap.size + 1, 0, none⟩ (.int .i64 (n + yy + 1))).heap.size = w7.heap.size := by simp [World.setCell]
            rw [he10] at hs10
            go_wp2_with (at_builtin; go_must (refine wpList_append_own _ rfl _ _ 23 rfl (w.heap.size + 2) 33 ii _ 6 56 Try.underlying23 hii hz0 hz1 hz2 rfl (by decide) vq q.length (q.flatMap Od.vs) rfl ((unhide HX2).row.alloc _) ⟨w7.heap.size, 0, none⟩ 1 1 (Od.mk id 2 (400 + y7) left life tag).vs rfl rfl (cellsQs he10 _ _) (by simp [Value.oneCell', Od.vs]) (by unfold maxLen; omega) (by omega) (by rw [size_made, he10]; omega) ?_); intro v4 w11 hown4 hg4 _; obtain ⟨g4, c4, rfl⟩ := row_slice hown4 (by omega); have HK11 := hide (bkS_push (o := Od.mk id 2 (400 + y7) left life tag) (unhide HX2) hB (unhide HV) hown4 hg4); have q1 := hg4.cell ((World.cell?_alloc_lt _ _ ⟨w.heap.size + 1, 1, none⟩ (by rw [he10]; exact (show w.heap.size + 1 < w7.heap.size by omega))).trans hk1) (fun e => absurd ((unhide HX2).row.lt _ e.symm).1 (by simp)); have q2 := (there_grown (there_grown (unhide HX2).th (gr_allocD _ _ none) (by rw [he10]; omega) (by simp)) hg4 (by rw [size_made, he10]; omega) (fun e => by have := ((unhide HX2).row.lt _ e.symm).1; omega) 1 (by omega)).2; clear hown4 hg4)
            go_roundw
            case rel =>
              refine ⟨i - 1, n + yy + 1, q ++ [Od.mk id 2 (400 + y7) left life tag], _, m' + 80 + 3, ?_, by simp; omega, by omega, by simp; omega, ?_, ?_, unhide HK11, by simp; omega⟩
              · have : ((i - 1 : Nat) : Int) = (i : Int) - 1 := by omega
                rw [this]
              · obtain ⟨e1, e2, e3, e4, e5, e6, e7⟩ := unhide HDA
                exact drB_push (unhide HDR) ⟨.inr ⟨rfl, by show (400 : Int) ≤ 400 + y7; omega, by show 400 + y7 ≤ (403 : Int); omega⟩, e3, e4, e5, e6, e7⟩ e1 hyy0 hn1
              · intro c hc
                rcases List.mem_append.1 hc with hc | hc
                · exact unhide HTG c hc
                · simp at hc; subst hc
                  have := (unhide HDA).2.2.2.2.2.2
                  simp only [tagB, Bool.and_eq_true, decide_eq_true_eq] at this
                  exact this.1
            case measure => simp [intOf]; omega
        · rintro x A V j o ⟨f, rfl, hbs, hD⟩ hcl hx ho hxi hall
          have HBS := hide hbs
          have HD := hide hD
          have kk : j < 16 → ¬ x[16]? = some true := fun hlt h16 => by
            have h15 := hcl 16 _ rfl h16 ⟨15, .data⟩ (by simp) rfl
            have h14 := hcl 16 _ rfl h16 ⟨14, .data⟩ (by simp) rfl
            have h1 := hcl 14 _ rfl h14 ⟨1, .data⟩ (by simp) rfl
            have h4 := hcl 14 _ rfl h14 ⟨4, .data⟩ (by simp) rfl
            have h7 := hcl 14 _ rfl h14 ⟨7, .data⟩ (by simp) rfl
            have h10 := hcl 14 _ rfl h14 ⟨10, .data⟩ (by simp) rfl
            have h13 := hcl 14 _ rfl h14 ⟨13, .data⟩ (by simp) rfl
            have h0 := hcl 1 _ rfl h1 ⟨0, .data⟩ (by simp) rfl
            have h3 := hcl 4 _ rfl h4 ⟨3, .data⟩ (by simp) rfl
            have h2 := hcl 3 _ rfl h3 ⟨2, .data⟩ (by simp) rfl
            have h6 := hcl 7 _ rfl h7 ⟨6, .data⟩ (by simp) rfl
            have h5 := hcl 6 _ rfl h6 ⟨5, .data⟩ (by simp) rfl
            have h9 := hcl 10 _ rfl h10 ⟨9, .data⟩ (by simp) rfl
            have h8 := hcl 9 _ rfl h9 ⟨8, .data⟩ (by simp) rfl
            have h12 := hcl 13 _ rfl h13 ⟨12, .data⟩ (by simp) rfl
            have h11 := hcl 13 _ rfl h13 ⟨11, .data⟩ (by simp) rfl
            have hallk : ∀ j, j < 16 → x[j]? = some true := fun j hj => by
              rcases (by omega : j = 0 ∨ j = 1 ∨ j = 2 ∨ j = 3 ∨ j = 4 ∨ j = 5 ∨ j = 6 ∨ j = 7 ∨ j = 8 ∨ j = 9 ∨ j = 10 ∨ j = 11 ∨ j = 12 ∨ j = 13 ∨ j = 14 ∨ j = 15) with rfl | rfl | rfl | rfl | rfl | rfl | rfl | rfl | rfl | rfl | rfl | rfl | rfl | rfl | rfl | rfl <;> assumption
            rw [hallk j hlt] at hxi; cases hxi
          have nk0 : ¬ x[16]? = some true := by
            by_cases hj : j < 16
            · exact kk hj
            · have hj2 := (List.getElem?_eq_some_iff.1 ho).1
              simp at hj2
              obtain rfl : j = 16 := by omega
              rw [hxi]; simp
          have hkV : BkS B v l w (n + yy) q vq (m' + 80) V := by
            obtain ⟨mm, hmm, hee⟩ := hbs nk0
            exact bkS_grown (unhide HB5) hB hee.2 (src_more hee.1 (by have := List.count_le_length (a := true) (l := x); rw [hx] at this; simp at this; omega))
          have hc0 := hkV.c0
          have hsz := hkV.sz
          clear hbs hcl
          match j, ho with
          | 0, ho =>
            simp only [List.getElem?_cons_zero, Option.some.injEq] at ho
            subst ho
            have nk := kk (by omega)
            clear hall hD
            rw [if_pos (by rfl)]
            unfold Oper.wp
            go_simp
            exact ⟨upd f 0 (.pointer (some ⟨w.heap.size + 1, 0, none⟩)), by simp [upd], rs_step (unhide HD) (by decide) hxi (fun _ _ h => h) (bs_more (unhide HBS nk)) rfl⟩
          | 1, ho =>
            simp only [List.getElem?_cons_succ, List.getElem?_cons_zero, Option.some.injEq] at ho
            subst ho
            have nk := kk (by omega)
            have g0 : f 0 = .pointer (some ⟨w.heap.size + 1, 0, none⟩) := hD 0 (hall ⟨0, .data⟩ (by simp) rfl)
            clear hall hD
            rw [if_pos (by rfl)]
            unfold Oper.wp
            go_simp
            exact ⟨upd f 1 (.int .i64 (n + yy)), by simp [upd, g0], rs_step (unhide HD) (by decide) hxi (fun _ _ h => h) (bs_more (unhide HBS nk)) rfl⟩
          | 2, ho =>
            simp only [List.getElem?_cons_succ, List.getElem?_cons_zero, Option.some.injEq] at ho
            subst ho
            have nk := kk (by omega)
            clear hall hD
            rw [if_pos (by rfl)]
            unfold Oper.wp
            go_simp
            exact ⟨upd f 2 (.pointer (some ⟨B, 0, none⟩)), by simp [upd], rs_step (unhide HD) (by decide) hxi (fun _ _ h => h) (bs_more (unhide HBS nk)) rfl⟩
          | 3, ho =>
            simp only [List.getElem?_cons_succ, List.getElem?_cons_zero, Option.some.injEq] at ho
            subst ho
            have nk := kk (by omega)
            have gd : f 2 = .pointer (some ⟨B, 0, none⟩) := hD 2 (hall ⟨2, .data⟩ (by simp) rfl)
            obtain ⟨mm, hmm, hee⟩ := unhide HBS nk
            have HEE := hide hee
            have hcnt : mm ≤ 2000000 := by have := List.count_le_length (a := true) (l := x); rw [hx] at this; simp at this; omega
            clear hall hD hee
            rw [if_pos (by rfl)]
            unfold Oper.wp
            go_simp
            refine (next_any B v l mm 2 V (unhide HEE).1 (by omega) (by omega) (by omega)).mono ?_
            rintro e w5 ⟨y5, rfl, h50, h51, hE5⟩
            exact ⟨upd f 3 (.int .i64 y5), by simp [upd, gd], rs_step (unhide HD) (by decide) hxi (d6_mono nk hE5.2) (bs_call hmm (unhide HEE) hE5) ⟨y5, rfl, h50, by omega⟩⟩
          | 4, ho =>
            simp only [List.getElem?_cons_succ, List.getElem?_cons_zero, Option.some.injEq] at ho
            subst ho
            have nk := kk (by omega)
            obtain ⟨y5, gd, h50, h51⟩ := hD 3 (hall ⟨3, .data⟩ (by simp) rfl)
            have hwr : IntKind.i64.wrap (1 + y5) = 1 + y5 := by rw [IntKind.wrap_i64]; omega
            clear hall hD
            rw [if_pos (by rfl)]
            unfold Oper.wp
            go_simp
            exact ⟨upd f 4 (.int .i64 (1 + y5)), by simp [upd, gd], rs_step (unhide HD) (by decide) hxi (fun _ _ h => h) (bs_more (unhide HBS nk)) ⟨1 + y5, rfl, by omega, by omega⟩⟩
          | 5, ho =>
            simp only [List.getElem?_cons_succ, List.getElem?_cons_zero, Option.some.injEq] at ho
            subst ho
            have nk := kk (by omega)
            clear hall hD
            rw [if_pos (by rfl)]
            unfold Oper.wp
            go_simp
            exact ⟨upd f 5 (.pointer (some ⟨B, 0, none⟩)), by simp [upd], rs_step (unhide HD) (by decide) hxi (fun _ _ h => h) (bs_more (unhide HBS nk)) rfl⟩
          | 6, ho =>
            simp only [List.getElem?_cons_succ, List.getElem?_cons_zero, Option.some.injEq] at ho
            subst ho
            have nk := kk (by omega)
            have gd : f 5 = .pointer (some ⟨B, 0, none⟩) := hD 5 (hall ⟨5, .data⟩ (by simp) rfl)
            obtain ⟨mm, hmm, hee⟩ := unhide HBS nk
            have HEE := hide hee
            have hcnt : mm ≤ 2000000 := by have := List.count_le_length (a := true) (l := x); rw [hx] at this; simp at this; omega
            clear hall hD hee
            rw [if_pos (by rfl)]
            unfold Oper.wp
            go_simp
            refine (next_any B v l mm 9 V (unhide HEE).1 (by omega) (by omega) (by omega)).mono ?_
            rintro e w5 ⟨y5, rfl, h50, h51, hE5⟩
            exact ⟨upd f 6 (.int .i64 y5), by simp [upd, gd], rs_step (unhide HD) (by decide) hxi (d6_mono nk hE5.2) (bs_call hmm (unhide HEE) hE5) ⟨y5, rfl, h50, by omega⟩⟩
          | 7, ho =>
            simp only [List.getElem?_cons_succ, List.getElem?_cons_zero, Option.some.injEq] at ho
            subst ho
            have nk := kk (by omega)
            obtain ⟨y5, gd, h50, h51⟩ := hD 6 (hall ⟨6, .data⟩ (by simp) rfl)
            have hwr : IntKind.i64.wrap (1 + y5) = 1 + y5 := by rw [IntKind.wrap_i64]; omega
            clear hall hD
            rw [if_pos (by rfl)]
            unfold Oper.wp
            go_simp
            exact ⟨upd f 7 (.int .i64 (1 + y5)), by simp [upd, gd], rs_step (unhide HD) (by decide) hxi (fun _ _ h => h) (bs_more (unhide HBS nk)) ⟨1 + y5, rfl, by omega, by omega⟩⟩
          | 8, ho =>
            simp only [List.getElem?_cons_succ, List.getElem?_cons_zero, Option.some.injEq] at ho
            subst ho
            have nk := kk (by omega)
            clear hall hD
            rw [if_pos (by rfl)]
            unfold Oper.wp
            go_simp
            exact ⟨upd f 8 (.pointer (some ⟨B, 0, none⟩)), by simp [upd], rs_step (unhide HD) (by decide) hxi (fun _ _ h => h) (bs_more (unhide HBS nk)) rfl⟩
          | 9, ho =>
            simp only [List.getElem?_cons_succ, List.getElem?_cons_zero, Option.some.injEq] at ho
            subst ho
            have nk := kk (by omega)
            have gd : f 8 = .pointer (some ⟨B, 0, none⟩) := hD 8 (hall ⟨8, .data⟩ (by simp) rfl)
            obtain ⟨mm, hmm, hee⟩ := unhide HBS nk
            have HEE := hide hee
            have hcnt : mm ≤ 2000000 := by have := List.count_le_length (a := true) (l := x); rw [hx] at this; simp at this; omega
            clear hall hD hee
            rw [if_pos (by rfl)]
            unfold Oper.wp
            go_simp
            refine (next_any B v l mm 3 V (unhide HEE).1 (by omega) (by omega) (by omega)).mono ?_
            rintro e w5 ⟨y5, rfl, h50, h51, hE5⟩
            exact ⟨upd f 9 (.int .i64 y5), by simp [upd, gd], rs_step (unhide HD) (by decide) hxi (d6_mono nk hE5.2) (bs_call hmm (unhide HEE) hE5) ⟨y5, rfl, h50, by omega⟩⟩
          | 10, ho =>
            simp only [List.getElem?_cons_succ, List.getElem?_cons_zero, Option.some.injEq] at ho
            subst ho
            have nk := kk (by omega)
            obtain ⟨y5, gd, h50, h51⟩ := hD 9 (hall ⟨9, .data⟩ (by simp) rfl)
            clear hall hD
            rw [if_pos (by rfl)]
            rcases (by omega : y5 = 0 ∨ y5 = 1 ∨ y5 = 2) with rfl | rfl | rfl
            · unfold Oper.wp
              go_simp
              exact ⟨upd f 10 (.int .i64 0), (by simp [upd, gd]; try rfl), rs_step (unhide HD) (by decide) hxi (fun _ _ h => h) (bs_more (unhide HBS nk)) ⟨0, rfl, by omega, by omega⟩⟩
            · unfold Oper.wp
              go_simp
              exact ⟨upd f 10 (.int .i64 0), (by simp [upd, gd]; try rfl), rs_step (unhide HD) (by decide) hxi (fun _ _ h => h) (bs_more (unhide HBS nk)) ⟨0, rfl, by omega, by omega⟩⟩
            · unfold Oper.wp
              go_simp
              exact ⟨upd f 10 (.int .i64 1), (by simp [upd, gd]; try rfl), rs_step (unhide HD) (by decide) hxi (fun _ _ h => h) (bs_more (unhide HBS nk)) ⟨1, rfl, by omega, by omega⟩⟩
          | 11, ho =>
            simp only [List.getElem?_cons_succ, List.getElem?_cons_zero, Option.some.injEq] at ho
            subst ho
            have nk := kk (by omega)
            clear hall hD
            rw [if_pos (by rfl)]
            unfold Oper.wp
            go_simp
            exact ⟨upd f 11 (.pointer (some ⟨B, 0, none⟩)), by simp [upd], rs_step (unhide HD) (by decide) hxi (fun _ _ h => h) (bs_more (unhide HBS nk)) rfl⟩
          | 12, ho =>
            simp only [List.getElem?_cons_succ, List.getElem?_cons_zero, Option.some.injEq] at ho
            subst ho
            have nk := kk (by omega)
            have hS : V5.heap.size ≤ V.heap.size := by obtain ⟨mm, hmm, hee⟩ := unhide HBS nk; exact hee.2.size
            clear hall hD
            rw [if_pos (by rfl)]
            unfold Oper.wp
            go_simp
            exact ⟨upd f 12 (.slice (some ⟨V.heap.size, 0, none⟩) 3 3), by simp [upd], rs_step (unhide HD) (by decide) hxi (d6_mono nk (gr_allocD _ _ _)) (bs_alloc (unhide HBS nk) _) ⟨V.heap.size, rfl, hS, by omega, fun _ => cells_made V [.string ⟨#[]⟩, .string ⟨#[97]⟩, .string ⟨#[100, 101, 115, 107, 32, 55]⟩] _⟩⟩
          | 13, ho =>
            simp only [List.getElem?_cons_succ, List.getElem?_cons_zero, Option.some.injEq] at ho
            subst ho
            have nk := kk (by omega)
            have gd : f 11 = .pointer (some ⟨B, 0, none⟩) := hD 11 (hall ⟨11, .data⟩ (by simp) rfl)
            obtain ⟨g, gs, hSg, hgB, hrg⟩ := hD 12 (hall ⟨12, .data⟩ (by simp) rfl)
            have HRG := hide (hrg nk)
            obtain ⟨mm, hmm, hee⟩ := unhide HBS nk
            have HEE := hide hee
            have hcnt : mm ≤ 2000000 := by have := List.count_le_length (a := true) (l := x); rw [hx] at this; simp at this; omega
            clear hall hD hee hrg
            rw [if_pos (by rfl)]
            unfold Oper.wp
            go_simp
            refine (pick3_any B g v l mm _ _ _ V (unhide HEE).1 (by omega) hgB (unhide HRG 0 _ rfl) (unhide HRG 1 _ rfl) (unhide HRG 2 _ rfl)).mono ?_
            rintro e w5 ⟨s5, rfl, hs5, hE5⟩
            exact ⟨upd f 13 (.string s5), by simp [upd, gd, gs], rs_step (unhide HD) (by decide) hxi (d6_mono nk hE5.2) (bs_call hmm (unhide HEE) hE5) ⟨s5, rfl, hs5⟩⟩
          | 14, ho =>
            simp only [List.getElem?_cons_succ, List.getElem?_cons_zero, Option.some.injEq] at ho
            subst ho
            have nk := kk (by omega)
            have g1 : f 1 = .int .i64 (n + yy) := hD 1 (hall ⟨1, .data⟩ (by simp) rfl)
            obtain ⟨y4, g4, h40, h41⟩ := hD 4 (hall ⟨4, .data⟩ (by simp) rfl)
            obtain ⟨y7, g7, h70, h71⟩ := hD 7 (hall ⟨7, .data⟩ (by simp) rfl)
            obtain ⟨y10, g10, h100, h101⟩ := hD 10 (hall ⟨10, .data⟩ (by simp) rfl)
            obtain ⟨s13, g13, hs13⟩ := hD 13 (hall ⟨13, .data⟩ (by simp) rfl)
            have HT : Hid (tagB s13 = true) := by show tagB s13 = true; rcases hs13 with rfl | rfl | rfl <;> decide
            clear hall hD hs13
            rw [if_pos (by rfl)]
            unfold Oper.wp
            go_simp
            exact ⟨upd f 14 (.agg #[.int .i64 (n + yy), .int .i64 y4, .int .i64 0, .int .i64 y7, .int .i64 y10, .string s13]), by simp [upd, g1, g4, g7, g10, g13], rs_step (unhide HD) (by decide) hxi (fun _ _ h => h) (bs_more (unhide HBS nk)) ⟨_, _, _, _, _, rfl, rfl, (by omega : y4 = 1 ∨ y4 = 2), h70, h71, h100, h101, unhide HT⟩⟩
          | 15, ho =>
            simp only [List.getElem?_cons_succ, List.getElem?_cons_zero, Option.some.injEq] at ho
            subst ho
            have nk := kk (by omega)
            have hS : V5.heap.size ≤ V.heap.size := by obtain ⟨mm, hmm, hee⟩ := unhide HBS nk; exact hee.2.size
            clear hall hD
            rw [if_pos (by rfl)]
            unfold Oper.wp
            go_simp
            exact ⟨upd f 15 (.pointer (some ⟨V.heap.size, 0, none⟩)), by simp [upd], rs_step (unhide HD) (by decide) hxi (d6_mono nk (gr_allocD _ _ _)) (bs_alloc (unhide HBS nk) _) ⟨V.heap.size, rfl, hS, fun _ => by rw [size_made]; omega, by omega, fun _ => there_made V [.int .i64 0, .int .i64 0, .int .i64 0, .int .i64 0, .int .i64 0, .string ⟨#[]⟩] _, fun h' => absurd h' nk⟩⟩
          | 16, ho =>
            simp only [List.getElem?_cons_succ, List.getElem?_cons_zero, Option.some.injEq] at ho
            subst ho
            obtain ⟨id, side, left, life, tag, g14, hdra⟩ := hD 14 (hall ⟨14, .data⟩ (by simp) rfl)
            obtain ⟨pt, g15, hSp, hpl, hpB, hpt, -⟩ := hD 15 (hall ⟨15, .data⟩ (by simp) rfl)
            have HPT := hide (hpt nk0)
            have hpl' := hpl nk0
            have hpq : vq.ownBlock ≠ some pt := fun e => by have := ((unhide HB5).row.lt pt e).2; omega
            have hpw : w.heap.size + 2 ≤ pt := Nat.le_trans (unhide HB5).sz hSp
            have HK6 := hide (bkS_set6 hkV hB (unhide HV) hpw hpq (.int .i64 id) (.int .i64 side) (.int .i64 0) (.int .i64 left) (.int .i64 life) (.string tag))
            have HR6 := hide (set6_range (v0 := .int .i64 id) (v1 := .int .i64 side) (v2 := .int .i64 0) (v3 := .int .i64 left) (v4 := .int .i64 life) (v5 := .string tag) (unhide HPT))
            have HT6 := hide (World.there_setCells (unhide HPT) pt 0 [.int .i64 id, .int .i64 side, .int .i64 0, .int .i64 left, .int .i64 life, .string tag])
            have HS6 := hide (size_setCells pt [.int .i64 id, .int .i64 side, .int .i64 0, .int .i64 left, .int .i64 life, .string tag] 0 V)
            obtain ⟨⟨x0, y0, q0⟩, ⟨x1, y1, q1⟩, ⟨x2, y2, q2⟩, ⟨x3, y3, q3⟩, ⟨x4, y4, q4⟩, x5, y5, q5⟩ := there6 (hpt nk0)
            have HDA := hide hdra
            clear hall hkV hD hpt hdra
            rw [if_pos (by rfl)]
            unfold Oper.wp
            go_simp
            refine ⟨upd f 16 undef, by simp [upd, g14, g15], rs_last (unhide HD) hxi (fun j hj hxj h => ?_) trivial⟩
            match j with
            | 0 => exact h
            | 1 => exact h
            | 2 => exact h
            | 3 => exact h
            | 4 => exact h
            | 5 => exact h
            | 6 => exact h
            | 7 => exact h
            | 8 => exact h
            | 9 => exact h
            | 10 => exact h
            | 11 => exact h
            | 12 =>
              obtain ⟨g, h1, h2, h3, h4⟩ := h
              exact ⟨g, h1, h2, h3, fun h' => absurd trivial h'⟩
            | 13 => exact h
            | 14 => exact h
            | 15 => exact ⟨pt, g15, hSp, fun h' => absurd trivial h', hpB, fun h' => absurd trivial h', fun _ => ⟨⟨id, side, 0, left, life, tag⟩, unhide HDA, unhide HR6, unhide HT6, Nat.lt_of_lt_of_eq hpl' (unhide HS6).symm, unhide HK6⟩⟩
            | 16 => exact absurd rfl hj
            | j + 17 => trivial
          | j + 17, ho => simp at ho
      · rintro x A V j o ⟨f, rfl, hbs, hD⟩ hcl hx ho hxi hall
        have HBS := hide hbs
        have HD := hide hD
        have kk : j < 6 → ¬ x[6]? = some true := fun hlt h6 => by
          have h5 := hcl 6 _ rfl h6 ⟨5, .data⟩ (by simp) rfl
          have h4 := hcl 6 _ rfl h6 ⟨4, .data⟩ (by simp) rfl
          have h3 := hcl 4 _ rfl h4 ⟨3, .data⟩ (by simp) rfl
          have h1 := hcl 4 _ rfl h4 ⟨1, .data⟩ (by simp) rfl
          have h2 := hcl 3 _ rfl h3 ⟨2, .data⟩ (by simp) rfl
          have h0 := hcl 1 _ rfl h1 ⟨0, .data⟩ (by simp) rfl
          have hallk : ∀ j, j < 6 → x[j]? = some true := fun j hj => by
            rcases (by omega : j = 0 ∨ j = 1 ∨ j = 2 ∨ j = 3 ∨ j = 4 ∨ j = 5) with rfl | rfl | rfl | rfl | rfl | rfl <;> assumption
          rw [hallk j hlt] at hxi; cases hxi
        have nk0 : ¬ x[6]? = some true := by
          by_cases hj : j < 6
          · exact kk hj
          · have hj2 := (List.getElem?_eq_some_iff.1 ho).1
            simp at hj2
            obtain rfl : j = 6 := by omega
            rw [hxi]; simp
        have hkV : BkS B v l w n q vq (m' + 21) V := by
          obtain ⟨mm, hmm, hee⟩ := hbs nk0
          exact bkS_grown (unhide HBK) hB hee.2 (src_more hee.1 (by have := List.count_le_length (a := true) (l := x); rw [hx] at this; simp at this; omega))
        have hc0 := hkV.c0
        have hsz := hkV.sz
        clear hbs hcl
        match j, ho with
        | 0, ho =>
          simp only [List.getElem?_cons_zero, Option.some.injEq] at ho
          subst ho
          have nk := kk (by omega)
          clear hall hD
          rw [if_pos (by rfl)]
          unfold Oper.wp
          go_simp
          exact ⟨upd f 0 (.pointer (some ⟨w.heap.size + 1, 0, none⟩)), by simp [upd], rs_step (unhide HD) (by decide) hxi (fun _ _ h => h) (bs_more (unhide HBS nk)) rfl⟩
        | 1, ho =>
          simp only [List.getElem?_cons_succ, List.getElem?_cons_zero, Option.some.injEq] at ho
          subst ho
          have nk := kk (by omega)
          have g0 : f 0 = .pointer (some ⟨w.heap.size + 1, 0, none⟩) := hD 0 (hall ⟨0, .data⟩ (by simp) rfl)
          clear hall hD
          rw [if_pos (by rfl)]
          unfold Oper.wp
          go_simp
          exact ⟨upd f 1 (.int .i64 n), by simp [upd, g0], rs_step (unhide HD) (by decide) hxi (fun _ _ h => h) (bs_more (unhide HBS nk)) (fun _ => rfl)⟩
        | 2, ho =>
          simp only [List.getElem?_cons_succ, List.getElem?_cons_zero, Option.some.injEq] at ho
          subst ho
          have nk := kk (by omega)
          clear hall hD
          rw [if_pos (by rfl)]
          unfold Oper.wp
          go_simp
          exact ⟨upd f 2 (.pointer (some ⟨B, 0, none⟩)), by simp [upd], rs_step (unhide HD) (by decide) hxi (fun _ _ h => h) (bs_more (unhide HBS nk)) rfl⟩
        | 3, ho =>
          simp only [List.getElem?_cons_succ, List.getElem?_cons_zero, Option.some.injEq] at ho
          subst ho
          have nk := kk (by omega)
          have gd : f 2 = .pointer (some ⟨B, 0, none⟩) := hD 2 (hall ⟨2, .data⟩ (by simp) rfl)
          obtain ⟨mm, hmm, hee⟩ := unhide HBS nk
          have HEE := hide hee
          have hcnt : mm ≤ 2000000 := by have := List.count_le_length (a := true) (l := x); rw [hx] at this; simp at this; omega
          clear hall hD hee
          rw [if_pos (by rfl)]
          unfold Oper.wp
          go_simp
          refine (next_any B v l mm 3 V (unhide HEE).1 (by omega) (by omega) (by omega)).mono ?_
          rintro e w5 ⟨y5, rfl, h50, h51, hE5⟩
          exact ⟨upd f 3 (.int .i64 y5), by simp [upd, gd], rs_step (unhide HD) (by decide) hxi (d5_mono nk) (bs_call hmm (unhide HEE) hE5) ⟨y5, rfl, h50, by omega⟩⟩
        | 4, ho =>
          simp only [List.getElem?_cons_succ, List.getElem?_cons_zero, Option.some.injEq] at ho
          subst ho
          have nk := kk (by omega)
          have g1 : f 1 = .int .i64 n := hD 1 (hall ⟨1, .data⟩ (by simp) rfl) nk
          obtain ⟨y5, g3, h50, h51⟩ := hD 3 (hall ⟨3, .data⟩ (by simp) rfl)
          have hwr : IntKind.i64.wrap (n + y5) = n + y5 := by rw [IntKind.wrap_i64]; omega
          clear hall hD
          rw [if_pos (by rfl)]
          unfold Oper.wp
          go_simp
          exact ⟨upd f 4 (.int .i64 (n + y5)), by simp [upd, g1, g3], rs_step (unhide HD) (by decide) hxi (fun _ _ h => h) (bs_more (unhide HBS nk)) ⟨y5, rfl, h50, h51⟩⟩
        | 5, ho =>
          simp only [List.getElem?_cons_succ, List.getElem?_cons_zero, Option.some.injEq] at ho
          subst ho
          have nk := kk (by omega)
          clear hall hD
          rw [if_pos (by rfl)]
          unfold Oper.wp
          go_simp
          exact ⟨upd f 5 (.pointer (some ⟨w.heap.size + 1, 0, none⟩)), by simp [upd], rs_step (unhide HD) (by decide) hxi (fun _ _ h => h) (bs_more (unhide HBS nk)) rfl⟩
        | 6, ho =>
          simp only [List.getElem?_cons_succ, List.getElem?_cons_zero, Option.some.injEq] at ho
          subst ho
          obtain ⟨y5, g4, h50, h51⟩ := hD 4 (hall ⟨4, .data⟩ (by simp) rfl)
          have g5 : f 5 = .pointer (some ⟨w.heap.size + 1, 0, none⟩) := hD 5 (hall ⟨5, .data⟩ (by simp) rfl)
          have HK6 := hide (bkS_next hkV hB (unhide HV) (n + y5))
          have hfz := (hkV.th 0 (by omega)).2
          rw [Nat.zero_add] at hfz
          clear hall hkV hD
          rw [if_pos (by rfl)]
          unfold Oper.wp
          go_simp
          refine ⟨upd f 6 undef, by simp [upd, g4, g5], rs_last (unhide HD) hxi (fun j hj hxj h => ?_) (fun _ => ⟨y5, h50, h51, unhide HK6⟩)⟩
          match j with
          | 0 => exact h
          | 1 => exact fun h' => absurd trivial h'
          | 2 => exact h
          | 3 => exact h
          | 4 => exact h
          | 5 => exact h
          | 6 => exact absurd rfl hj
          | j + 7 => trivial
        | j + 7, ho => simp at ho
    · obtain rfl : i = 0 := by omega
      obtain ⟨aq, cq, rfl⟩ := rd_lenR' (oRow_rd (unhide HBK).row (by omega))
      have c0 := (unhide HBK).c0
      have c1 := (unhide HBK).c1
      obtain ⟨⟨x0, y0, q0⟩, x1, y1, q1⟩ : (∃ v, wr.cell? ⟨w.heap.size, 0, none⟩ = some v ∧ wr.frozen? ⟨w.heap.size, 0, none⟩ = false) ∧ (∃ v, wr.cell? ⟨w.heap.size, 1, none⟩ = some v ∧ wr.frozen? ⟨w.heap.size, 1, none⟩ = false) := ⟨by simpa using there1O (unhide HBK).th0 0 (by omega), by simpa using there1O (unhide HBK).th0 1 (by omega)⟩
      have HRX := hide (World.rangeAt_setCells_same wr w.heap.size 0 [.int .i64 n, .slice aq q.length cq] (fun j hj => (unhide HBK).th0 j hj))
      have HOW : Hid (ORow ((wr.setCell ⟨w.heap.size, 0, none⟩ (.int .i64 n)).setCell ⟨w.heap.size, 1, none⟩ (.slice aq q.length cq)) (w.heap.size + 2) (.slice aq q.length cq) q) := by
        have hb : ∀ g, (Value.slice aq q.length cq).ownBlock = some g → some g ≠ some w.heap.size := fun g hg e => by
          have := ((unhide HBK).row.lt g hg).1
          have := Option.some.inj e
          omega
        have hor : (Value.slice aq q.length cq).ownBlock = none ∨ (Value.slice aq q.length cq).ownBlock ≠ some w.heap.size := by
          cases hv : (Value.slice aq q.length cq).ownBlock with
          | none => exact .inl rfl
          | some g => exact .inr (hb g hv)
        exact World.ownsRow.kept (World.ownsRow.kept (unhide HBK).row (gr_set wr ⟨w.heap.size, 0, none⟩ (.int .i64 n)) hor) (gr_set _ ⟨w.heap.size, 1, none⟩ _) hor
      have HGR : Hid (w.grownBy ((wr.setCell ⟨w.heap.size, 0, none⟩ (.int .i64 n)).setCell ⟨w.heap.size, 1, none⟩ (.slice aq q.length cq)) (some B)) := by
        have g1 := gr_set wr ⟨w.heap.size, 0, none⟩ (.int .i64 n)
        have g2 := gr_set (wr.setCell ⟨w.heap.size, 0, none⟩ (.int .i64 n)) ⟨w.heap.size, 1, none⟩ (.slice aq q.length cq)
        have h := (unhide HBK).gr
        exact ⟨h.os, h.tape, h.output, Nat.le_trans h.size (Nat.le_trans g1.size g2.size), fun k hk hne => (g2.block k (Nat.lt_of_lt_of_le hk (Nat.le_trans h.size g1.size)) (fun e => by have := Option.some.inj e; simp at this; omega)).trans ((g1.block k (Nat.lt_of_lt_of_le hk h.size) (fun e => by have := Option.some.inj e; simp at this; omega)).trans (h.block k hk hne))⟩
      go_wp2_with fail
      have HRX : Hid (World.rangeAt ((wr.setCell ⟨w.heap.size, 0, none⟩ (.int .i64 n)).setCell ⟨w.heap.size, 1, none⟩ (.slice aq q.length cq)) w.heap.size 0 [.int .i64 n, .slice aq q.length cq]) := unhide HRX
      generalize ((wr.setCell ⟨w.heap.size, 0, none⟩ (.int .i64 n)).setCell ⟨w.heap.size, 1, none⟩ (.slice aq q.length cq)) = WE at HRX HOW HGR ⊢
      have d0 : WE.cell? ⟨w.heap.size, 0, none⟩ = some (.int .i64 n) := unhide HRX 0 _ rfl
      have d1 : WE.cell? ⟨w.heap.size, 1, none⟩ = some (.slice aq q.length cq) := unhide HRX 1 _ rfl
      try simp only [Exit.inBlock, Exit.then]
      refine bodyPost_ret (by simp [results, Try.results29, go_sem, d0, d1]; try rfl) rfl ?_
      exact ⟨n, _, q, rfl, ownR_base (ownR_row Od.len (by omega) (unhide HOW)) (by omega), drB_ok (unhide HDR) hn1 (by omega) (by omega), fun c hc => Nat.le_trans (unhide HTG c hc) (by unfold maxLen; omega), unhide HGR, by
        rcases (unhide HOW).2 with ⟨h1, _⟩ | ⟨g, cap, cur, h1, _⟩
        · exact .inl h1
        · exact .inr ⟨_, _, _, h1⟩⟩
end Go.Proofs.Ytadnjcgfoofjiaa
