/-
  The source of drawn things, proved by walking its methods: each returns some number in its range, and writes its own block alone.
-/
import Derived.Test.YteljmhgpffekgaaFj05
import Derived.WalkLawsBesides
import Derived.Deep.RegionWith
namespace Go.Proofs.Yteljmhgpffekgaa
open Go.RowKit
set_option linter.unusedVariables false

theorem rd_grown {w w' : World} {v : Value} {l : List Int} {B : Nat} (h : Rd w v l) (hg : w.grownBy w' (some B)) (hB : l ≠ [] → v.ownBlock ≠ some B) : Rd w' v l := by
  obtain ⟨a, cap, rfl, hl, hc⟩ := h
  refine ⟨a, cap, rfl, hl, fun hne => ?_⟩
  obtain ⟨b, off, rfl, hcell⟩ := hc hne
  have hb : some b ≠ some B := fun e => hB hne (by simpa [Value.ownBlock] using e)
  exact ⟨b, off, rfl, fun i hi => (World.cell?_of_block (a := ⟨b, off + i, none⟩) (hg.block b (World.block_lt_of_cell? w _ (hcell i hi)) hb)).trans (hcell i hi)⟩

/-- The source in block B over the bytes l: at most m of its bytes were taken. -/
structure Src (B : Nat) (w : World) (v : Value) (l : List Int) (m : Int) : Prop where
  rd : Rd w v l
  ne : l ≠ [] → v.ownBlock ≠ some B
  bts : Bts l
  code : w.cell? ⟨B, 0, none⟩ = some v
  cells : ∃ at_ seed : Int, 0 ≤ at_ ∧ at_ ≤ m ∧ 0 ≤ seed ∧ seed < 2147483648 ∧ w.cell? ⟨B, 1, none⟩ = some (.int .i64 at_) ∧ w.cell? ⟨B, 2, none⟩ = some (.int .i64 seed)
  free1 : w.frozen? ⟨B, 1, none⟩ = false
  free2 : w.frozen? ⟨B, 2, none⟩ = false

/-- What a method of the source leaves. -/
def SrcEnd (B : Nat) (w : World) (v : Value) (l : List Int) (m : Int) (w' : World) : Prop := Src B w' v l m ∧ w.grownBy w' (some B)

theorem src_refl {B : Nat} {w : World} {v : Value} {l : List Int} {m : Int} (h : Src B w v l m) : SrcEnd B w v l m w := ⟨h, World.grownBy.refl _ _⟩
theorem src_more {B : Nat} {w : World} {v : Value} {l : List Int} {m n : Int} (h : Src B w v l m) (hn : m ≤ n) : Src B w v l n := by
  obtain ⟨h1, h2, h3, h4, ⟨a, s, k0, k1, k2⟩, h6, h7⟩ := h
  exact ⟨h1, h2, h3, h4, ⟨a, s, k0, by omega, k2⟩, h6, h7⟩
theorem src_drew {B : Nat} {w0 w : World} {v : Value} {l : List Int} {m : Int} (h : SrcEnd B w0 v l m w) (q : Nat) : SrcEnd B w0 v l m (w.drewN q) :=
  ⟨⟨h.1.rd, h.1.ne, h.1.bts, h.1.code, h.1.cells, h.1.free1, h.1.free2⟩, gr_trans h.2 (gr_drewN _ q _)⟩
theorem src_at {B : Nat} {w0 w : World} {v : Value} {l : List Int} {m : Int} (h : SrcEnd B w0 v l m w) (a : Int) (h0 : 0 ≤ a) (ha : a ≤ m + 1) : SrcEnd B w0 v l (m + 1) (w.setCell ⟨B, 1, none⟩ (.int .i64 a)) := by
  obtain ⟨h, hg⟩ := h
  obtain ⟨at0, s0, _, _, k2, k3, h1, h2⟩ := h.cells
  have g := gr_set w ⟨B, 1, none⟩ (.int .i64 a)
  exact ⟨⟨rd_grown h.rd g h.ne, h.ne, h.bts, (World.cell?_setCell_other _ _ _ _ (addr_ne (by omega))).trans h.code,
    ⟨a, s0, h0, ha, k2, k3, World.cell?_setCell_same _ _ _ h1, (World.cell?_setCell_other _ _ _ _ (addr_ne (by omega))).trans h2⟩,
    (World.frozen?_setCell _ _ _ _).trans h.free1, (World.frozen?_setCell _ _ _ _).trans h.free2⟩, gr_trans hg g⟩
theorem src_seed {B : Nat} {w0 w : World} {v : Value} {l : List Int} {m : Int} (h : SrcEnd B w0 v l m w) (s : Int) (h0 : 0 ≤ s) (hs : s < 2147483648) : SrcEnd B w0 v l m (w.setCell ⟨B, 2, none⟩ (.int .i64 s)) := by
  obtain ⟨h, hg⟩ := h
  obtain ⟨at0, s0, k0, k1, _, _, h1, h2⟩ := h.cells
  have g := gr_set w ⟨B, 2, none⟩ (.int .i64 s)
  exact ⟨⟨rd_grown h.rd g h.ne, h.ne, h.bts, (World.cell?_setCell_other _ _ _ _ (addr_ne (by omega))).trans h.code,
    ⟨at0, s, k0, k1, h0, hs, (World.cell?_setCell_other _ _ _ _ (addr_ne (by omega))).trans h1, World.cell?_setCell_same _ _ _ h2⟩,
    (World.frozen?_setCell _ _ _ _).trans h.free1, (World.frozen?_setCell _ _ _ _).trans h.free2⟩, gr_trans hg g⟩

/-- The source behind its place's step. -/
theorem src_step {B : Nat} {w w1 : World} {v : Value} {l : List Int} {m at_ seed : Int} (h : Src B w v l m) (h0 : 0 ≤ at_) (ha : at_ ≤ m) (c1 : w.cell? ⟨B, 1, none⟩ = some (.int .i64 at_)) (c2 : w.cell? ⟨B, 2, none⟩ = some (.int .i64 seed))
    (hw : w.setCell ⟨B, 1, none⟩ (.int .i64 (at_ + 1)) = w1) :
    SrcEnd B w v l (m + 1) w1 ∧ w1.cell? ⟨B, 0, none⟩ = some v ∧ w1.cell? ⟨B, 1, none⟩ = some (.int .i64 (at_ + 1)) ∧ w1.cell? ⟨B, 2, none⟩ = some (.int .i64 seed) ∧ w1.frozen? ⟨B, 2, none⟩ = false ∧ Rd w1 v l := by
  subst hw
  have k := src_at (src_refl h) (at_ + 1) (by omega) (by omega)
  exact ⟨k, k.1.code, World.cell?_setCell_same _ _ _ c1, (World.cell?_setCell_other _ _ _ _ (addr_ne (by omega))).trans c2, k.1.free2, k.1.rd⟩

theorem seed_step {B : Nat} {w0 w1 w2 : World} {v : Value} {l : List Int} {m at_ s : Int} (h : SrcEnd B w0 v l m w1) (d1 : w1.cell? ⟨B, 1, none⟩ = some (.int .i64 at_)) (h0 : 0 ≤ s) (hs : s < 2147483648)
    (hw : w1.setCell ⟨B, 2, none⟩ (.int .i64 s) = w2) :
    SrcEnd B w0 v l m w2 ∧ w2.cell? ⟨B, 0, none⟩ = some v ∧ w2.cell? ⟨B, 1, none⟩ = some (.int .i64 at_) ∧ w2.cell? ⟨B, 2, none⟩ = some (.int .i64 s) ∧ Rd w2 v l := by
  subst hw
  obtain ⟨_, _, _, _, _, _, _, k⟩ := h.1.cells
  have g := src_seed h s h0 hs
  exact ⟨g, g.1.code, (World.cell?_setCell_other _ _ _ _ (addr_ne (by omega))).trans d1, World.cell?_setCell_same _ _ _ k, g.1.rd⟩

set_option maxRecDepth 100000 in
set_option maxHeartbeats 800000 in
theorem byte_any (B : Nat) (v : Value) (l : List Int) (m : Int) (w : World) (h : Src B w v l m) (hm : m ≤ 1073741824) :
    Calls Try.prog 83 #[.pointer (some ⟨B, 0, none⟩)] w fun e w' => ∃ y : Int, e = .returned (.int .i64 y) ∧ 0 ≤ y ∧ y ≤ 255 ∧ SrcEnd B w v l (m + 1) w' := by
  have HS := hide h
  obtain ⟨hrd, hne, hbts, hcode, ⟨at_, seed, ha0, ha, hs0, hs, c1, c2⟩, f1, f2⟩ := h
  have HST := hide (fun w1 h => src_step (w1 := w1) (unhide HS) ha0 ha c1 c2 h)
  obtain ⟨a, cap, rfl, hl, hc⟩ := hrd
  have HB := hide hbts
  clear hbts hc c2 HS f2 hne
  go_enter Try.func83, Try.ntmps83
  go_wp2_with fail
  generalize hw1 : w.setCell ⟨B, 1, none⟩ (.int .i64 (at_ + 1)) = w1
  obtain ⟨hE, d0, d1, d2, g2, hrd1⟩ := unhide HST w1 hw1
  have HE := hide hE
  obtain ⟨a', cap', e', _, hc⟩ := hrd1
  simp only [Value.slice.injEq, true_and] at e'
  obtain ⟨rfl, rfl⟩ := e'
  clear hE HST hw1 c1 f1 hcode
  by_cases h1 : at_ + 1 ≤ l.length
  · have hc' := hc (by intro e; subst e; simp at h1; omega)
    obtain ⟨b, off, rfl, hcell⟩ := hc'
    obtain ⟨k, rfl⟩ := Int.eq_ofNat_of_zero_le ha0
    have hck := hcell k (by omega)
    have hbk := bts_get (unhide HB) k
    generalize hx : l.getD k 0 = x at *
    have HX := hide hx
    clear hx
    obtain ⟨hx0, hx1⟩ := hbk
    have h1'' : (k : Int) < l.length := by omega
    clear hc hcell
    go_quiet (fail)
    go_wp2_with fail
    have hd : Rd w1 (.slice (some ⟨b, off, none⟩) l.length cap) l := (unhide HE).1.rd
    go_region
    all_goals
      generalize hw2 : (w1.drewN _).setCell ⟨B, 2, none⟩ (.int .i64 ((seed * 31 + x + 7) % 2147483648)) = w2
      obtain ⟨hE2, t0, t1, t2, hrd2⟩ := seed_step (src_drew (unhide HE) _) d1 (by omega) (by omega) hw2
      have HE2 := hide hE2
      obtain ⟨a2, cap2, e2, _, hc2⟩ := hrd2
      obtain ⟨b2, off2, e3, hc3⟩ := hc2 (by intro e; subst e; simp at h1''; omega)
      simp only [Value.slice.injEq, true_and] at e2
      obtain ⟨rfl, rfl⟩ := e2
      simp only [Option.some.injEq, Addr.mk.injEq, and_true] at e3
      obtain ⟨rfl, rfl⟩ := e3
      have tck := hc3 k (by omega)
      have hx : l.getD k 0 = x := unhide HX
      rw [hx] at tck
      clear hE2 hc2 hc3 hw2 d0 d1 d2 hck hx hd
      go_wp2_with fail
      go_quiet (fail)
      go_wp2_with fail
      go_ret
      exact ⟨_, rfl, by omega, by omega, src_drew (unhide HE2) _⟩
  · have h1' : (l.length : Int) < at_ + 1 := by omega
    clear hc
    by_cases h2 : 3000 < at_ + 1
    · go_quiet (fail)
      go_wp2_with fail
      go_ret
      exact ⟨_, rfl, by omega, by omega, src_drew (unhide HE) _⟩
    · go_quiet (fail)
      go_wp2_with fail
      go_ret
      exact ⟨_, rfl, by omega, by omega, src_seed (src_drew (unhide HE) _) _ (by omega) (by omega)⟩

set_option maxRecDepth 100000 in
set_option maxHeartbeats 800000 in
theorem next_any (B : Nat) (v : Value) (l : List Int) (m n : Int) (w : World) (h : Src B w v l m) (hm : m ≤ 1000000000) (h1 : 1 ≤ n) (h2 : n ≤ 1073741824) :
    Calls Try.prog 55 #[.pointer (some ⟨B, 0, none⟩), .int .i64 n] w fun e w' => ∃ y : Int, e = .returned (.int .i64 y) ∧ 0 ≤ y ∧ y < n ∧ SrcEnd B w v l (m + 3) w' := by
  have HS := hide h
  clear h
  by_cases k1 : n ≤ 1
  · go_enter Try.func55, Try.ntmps55
    go_wp2_with fail
    go_ret
    exact ⟨_, rfl, by omega, by omega, src_refl (src_more (unhide HS) (by omega))⟩
  by_cases k2 : n ≤ 256
  · go_enter Try.func55, Try.ntmps55
    go_wp2_with fail
    refine (byte_any B v l m _ (unhide HS) (by omega)).mono ?_
    rintro e w1 ⟨y, rfl, hy0, hy1, hE⟩
    have HE := hide hE
    clear hE
    have hne : (n == 0) = false := by simp; omega
    go_wp2_with fail
    go_ret
    exact ⟨_, rfl, by first | omega | exact Int.emod_nonneg _ (by omega), by first | omega | exact Int.emod_lt_of_pos _ (by omega), src_more (unhide HE).1 (by omega), (unhide HE).2⟩
  go_enter Try.func55, Try.ntmps55
  go_wp2_with fail
  refine (byte_any B v l m _ (unhide HS) (by omega)).mono ?_
  rintro e w1 ⟨y1, rfl, hy0, hy1, hE⟩
  have HE1 := hide hE
  clear hE
  go_wp2_with fail
  refine (byte_any B v l _ _ (unhide HE1).1 (by omega)).mono ?_
  rintro e w2 ⟨y2, rfl, hz0, hz1, hE⟩
  have HE2 := hide hE
  clear hE
  go_wp2_with fail
  refine (byte_any B v l _ _ (unhide HE2).1 (by omega)).mono ?_
  rintro e w3 ⟨y3, rfl, hu0, hu1, hE⟩
  have HE3 := hide hE
  clear hE
  have hne : (n == 0) = false := by simp; omega
  go_wp2_with fail
  go_ret
  exact ⟨_, rfl, by first | omega | exact Int.emod_nonneg _ (by omega), by first | omega | exact Int.emod_lt_of_pos _ (by omega), src_more (unhide HE3).1 (by omega), gr_trans (gr_trans (unhide HE1).2 (unhide HE2).2) (unhide HE3).2⟩
end Go.Proofs.Yteljmhgpffekgaa
