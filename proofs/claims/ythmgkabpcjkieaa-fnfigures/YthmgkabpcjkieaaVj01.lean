/-
  Small facts that all walks of this seat lean on: facts kept from the walk, an ending's value, a text's bytes as a list.
-/
import Derived.Test.YthmgkabpcjkieaaRows
import Derived.WalkKit
import Derived.Below
import Derived.OpenShut
import Derived.Deep.QuietTactic
import Derived.BigQuiet
import Derived.WalkSmall
import Derived.WalkSpells
import Derived.WalkLawsBesides
import Derived.Deep.RegionWith
namespace Go.Proofs.Ythmgkabpcjkieaa
open Go.RowKit

theorem hide {p : Prop} (h : p) : Hid p := h
theorem unhide {p : Prop} (h : Hid p) : p := h
theorem ret_bool {a b : Bool} (h : a = b) : Ending.returned (.bool a) = .returned (.bool b) := by rw [h]
theorem ret_int {k : IntKind} {a b : Int} (h : a = b) : Ending.returned (.int k a) = .returned (.int k b) := by rw [h]
theorem get_nat (s : ByteArray) (k : Nat) (h : k < s.size) : s[k] = s.data.toList[k]'(by simpa using h) := rfl
theorem data_len (s : ByteArray) : s.data.toList.length = s.size := by simp
end Go.Proofs.Ythmgkabpcjkieaa
namespace Go.Proofs.Ythmgkabpcjkieaa
open Go.RowKit

/-- The slice v reads as the bytes l. -/
def Rd (w : World) (v : Value) (l : List Int) : Prop :=
  ∃ (a : Option Addr) (cap : Nat), v = .slice a l.length cap ∧ l.length ≤ 1073741824 ∧
    (l ≠ [] → ∃ b off, a = some ⟨b, off, none⟩ ∧ ∀ i, i < l.length → w.cell? ⟨b, off + i, none⟩ = some (.int .u8 (l.getD i 0)))
theorem gr_trans {a b c : World} {row : Option Nat} (h : a.grownBy b row) (k : b.grownBy c row) : a.grownBy c row :=
  ⟨k.os.trans h.os, k.tape.trans h.tape, k.output.trans h.output, Nat.le_trans h.size k.size,
    fun i hi hne => (k.block i (Nat.lt_of_lt_of_le hi h.size) hne).trans (h.block i hi hne)⟩
theorem gr_set (w : World) (a : Addr) (u : Value) : w.grownBy (w.setCell a u) (some a.block) :=
  ⟨rfl, rfl, rfl, by simp [World.setCell], fun k _ hne => Below.heap_setCell _ _ _ _ (fun e => hne (by rw [e]))⟩
theorem gr_drewN (w : World) (n : Nat) (row : Option Nat) : w.grownBy (w.drewN n) row := ⟨rfl, rfl, rfl, Nat.le_refl _, fun _ _ _ => rfl⟩
theorem gr_below {w w' : World} {g B : Nat} (h : w.grownBy w' (some g)) (hB : B ≤ g) (hs : B ≤ w.heap.size) : Below B w w' :=
  ⟨h.os, h.tape, h.output, h.size, fun k hk => h.block k (by omega) (by simp; omega)⟩
theorem addr_ne {g a b : Nat} (h : a ≠ b) : (⟨g, a, none⟩ : Addr) ≠ ⟨g, b, none⟩ := by
  intro e; injection e; exact h (by assumption)
/-- The slice v is a row in a block from B on, with the bytes l, and may be written. -/
def Own (B : Nat) (w : World) (v : Value) (l : List Int) : Prop :=
  ∃ g cap, v = .slice (some ⟨g, 0, none⟩) l.length cap ∧ B ≤ g ∧ g < w.heap.size ∧ l.length ≤ 1073741824 ∧
    (∀ i, i < l.length → w.cell? ⟨g, 0 + i, none⟩ = some (.int .u8 (l.getD i 0))) ∧ ∀ i, i < l.length → w.frozen? ⟨g, 0 + i, none⟩ = false
theorem Try.infoByte : (Try.prog.info? 5).map (fun i => (i.zero, i.size, i.bytes)) = some (some (.int .u8 0), 1, 1) := by kernel_rfl
/-- The slice v is a row in a block from B on, with the bytes l at its head, whole with its room. -/
def OwnT (B : Nat) (w : World) (v : Value) (l : List Int) : Prop :=
  ∃ g cap cur t, v = .slice (some ⟨g, 0, none⟩) l.length cap ∧ B ≤ g ∧ w.heap[g]? = some (.cells cur t (0, 0)) ∧ l.length ≤ cap ∧ cap ≤ cur.size ∧ cap ≤ maxLen ∧ l.length ≤ 1073741824 ∧
    cur.toList.take l.length = l.map (Value.int .u8)
theorem cell_head {w : World} {g t : Nat} {cur : Array Value} {l : List Int} (hg : w.heap[g]? = some (.cells cur t (0, 0))) (ht : cur.toList.take l.length = l.map (Value.int .u8)) {i : Nat} (hi : i < l.length) :
    w.cell? ⟨g, i, none⟩ = some (.int .u8 (l.getD i 0)) := by
  rw [cell_of_row w g i cur t (0, 0) hg]
  have h1 : (cur.toList.take l.length)[i]? = (l.map (Value.int .u8))[i]? := by rw [ht]
  rw [List.getElem?_take, if_pos hi, List.getElem?_map, List.getElem?_eq_getElem hi] at h1
  simpa [hi] using h1
theorem OwnT.own {B : Nat} {w : World} {v : Value} {l : List Int} (h : OwnT B w v l) : Own B w v l := by
  obtain ⟨g, cap, cur, t, rfl, hb, hg, _, _, _, hl, ht⟩ := h
  exact ⟨g, cap, rfl, hb, (Array.getElem?_eq_some_iff.1 hg).1, hl, fun i hi => by rw [Nat.zero_add]; exact cell_head hg ht hi, fun i _ => by simp [World.frozen?, hg]⟩
theorem OwnT.ge {B : Nat} {w : World} {v : Value} {l : List Int} (h : OwnT B w v l) : ∀ k, v.ownBlock = some k → B ≤ k := by
  obtain ⟨g, cap, cur, t, rfl, hb, _⟩ := h
  intro k hk
  simp [Value.ownBlock] at hk
  omega
/-- The array of M bytes in block B, its first bytes being 'done'. -/
def Arr (M B : Nat) (w wr : World) (done : List Int) : Prop :=
  ∃ cur t, wr.heap[B]? = some (.cells cur t (0, 0)) ∧ cur.size = M ∧ done.length ≤ M ∧ cur.toList.take done.length = done.map (Value.int .u8) ∧ Below B w wr
theorem Arr.below {M B : Nat} {w wr : World} {done : List Int} (h : Arr M B w wr done) : Below B w wr := by
  obtain ⟨_, _, _, _, _, _, h⟩ := h; exact h
theorem Arr.lt {M B : Nat} {w wr : World} {done : List Int} (h : Arr M B w wr done) : B < wr.heap.size := by
  obtain ⟨_, _, h, _⟩ := h; exact (Array.getElem?_eq_some_iff.1 h).1
theorem Arr.some {M B : Nat} {w wr : World} {done : List Int} (h : Arr M B w wr done) {j : Nat} (hj : j < M) : ∃ v, wr.cell? ⟨B, j, none⟩ = .some v := by
  obtain ⟨cur, t, h1, h2, _⟩ := h
  exact ⟨_, (cell_of_row wr B j cur t (0, 0) h1).trans (Array.getElem?_eq_getElem (by omega))⟩
theorem below_drewN' {B : Nat} {a w : World} (h : Below B a w) (n : Nat) : Below B a (w.drewN n) := h.trans ⟨rfl, rfl, rfl, Nat.le_refl _, fun _ _ => rfl⟩
/-- Each number is a byte. -/
def Bts (l : List Int) : Prop := ∀ x ∈ l, 0 ≤ x ∧ x ≤ 255
theorem bts_get {l : List Int} (h : Bts l) (k : Nat) : 0 ≤ l.getD k 0 ∧ l.getD k 0 ≤ 255 := by
  by_cases hk : k < l.length
  · have e : l.getD k 0 = l[k] := by simp [hk]
    rw [e]; exact h _ (List.getElem_mem hk)
  · simp [Nat.le_of_not_lt hk]
/-- What is told of a slice that came in: it reads as the bytes of its first len numbers. -/
theorem rd_of_row {w : World} {a : Option Addr} {len cap : Nat} {zs : List Int}
    (h : (a = none ∧ len = 0 ∧ cap = 0 ∧ zs = []) ∨ ∃ x, a = some x ∧ len ≤ cap ∧ cap ≤ maxLen ∧ zs.length = cap ∧ (∀ i, i < zs.length → w.cell? (x.add i) = some (.int .u8 (zs.getD i 0))) ∧ ∀ n ∈ zs, (Lit.int .u8 n).wf = true)
    (hl : len ≤ 1073741824) : (zs.take len).length = len ∧ Rd w (.slice a len cap) (zs.take len) ∧ Bts (zs.take len) := by
  rcases h with ⟨rfl, rfl, rfl, rfl⟩ | ⟨x, rfl, h1, _, hz, hc, hw⟩
  · exact ⟨rfl, ⟨none, 0, rfl, by simp, fun h => absurd rfl h⟩, fun x hx => by simp at hx⟩
  · have hlen : (zs.take len).length = len := by rw [List.length_take]; omega
    refine ⟨hlen, ⟨some x, cap, by rw [hlen], by omega, fun hne => ?_⟩, fun n hn => bounds_u8 (hw n (List.mem_of_mem_take hn))⟩
    have hp : 0 < len := by
      rcases Nat.eq_zero_or_pos len with h0 | h0
      · subst h0; simp at hne
      · exact h0
    obtain ⟨b, off, spot⟩ := x
    have h0 := hc 0 (by omega)
    have hspot : spot = none := by simpa [Addr.add] using World.cell?_spot h0
    subst hspot
    refine ⟨b, off, rfl, fun i hi => ?_⟩
    rw [hlen] at hi
    have := hc i (by omega)
    have e : (⟨b, off, none⟩ : Addr).add i = ⟨b, off + i, none⟩ := by unfold Addr.add; split <;> simp_all
    rw [e] at this
    rw [this]
    have e2 : (zs.take len).getD i 0 = zs.getD i 0 := by simp [hi]
    rw [e2]
end Go.Proofs.Ythmgkabpcjkieaa
namespace Go.Proofs.Ythmgkabpcjkieaa
open Go.RowKit
set_option linter.unusedVariables false

theorem rd_grown {w w' : World} {v : Value} {l : List Int} {B : Nat} (h : Rd w v l) (hg : w.grownBy w' (some B)) (hB : l ≠ [] → v.ownBlock ≠ some B) : Rd w' v l := by
  obtain ⟨a, cap, rfl, hl, hc⟩ := h
  refine ⟨a, cap, rfl, hl, fun hne => ?_⟩
  obtain ⟨b, off, rfl, hcell⟩ := hc hne
  have hb : some b ≠ some B := fun e => hB hne (by simpa [Value.ownBlock] using e)
  exact ⟨b, off, rfl, fun i hi => (World.cell?_of_block (a := ⟨b, off + i, none⟩) (hg.block b (World.block_lt_of_cell? w _ (hcell i hi)) hb)).trans (hcell i hi)⟩
/-- The source in block B over the bytes l: at most m of its bytes were taken. -/
structure Src (B : Nat) (w : World) (v : Value) (l : List Int) (m : Int) : Prop where
  rd : Rd w v l
  ne : l ≠ [] → v.ownBlock ≠ some B
  bts : Bts l
  code : w.cell? ⟨B, 0, none⟩ = some v
  cells : ∃ at_ seed : Int, 0 ≤ at_ ∧ at_ ≤ m ∧ 0 ≤ seed ∧ seed < 2147483648 ∧ w.cell? ⟨B, 1, none⟩ = some (.int .i64 at_) ∧ w.cell? ⟨B, 2, none⟩ = some (.int .i64 seed)
  free1 : w.frozen? ⟨B, 1, none⟩ = false
  free2 : w.frozen? ⟨B, 2, none⟩ = false
/-- What a method of the source leaves. -/
def SrcEnd (B : Nat) (w : World) (v : Value) (l : List Int) (m : Int) (w' : World) : Prop := Src B w' v l m ∧ w.grownBy w' (some B)
theorem src_refl {B : Nat} {w : World} {v : Value} {l : List Int} {m : Int} (h : Src B w v l m) : SrcEnd B w v l m w := ⟨h, World.grownBy.refl _ _⟩
theorem src_more {B : Nat} {w : World} {v : Value} {l : List Int} {m n : Int} (h : Src B w v l m) (hn : m ≤ n) : Src B w v l n := by
  obtain ⟨h1, h2, h3, h4, ⟨a, s, k0, k1, k2⟩, h6, h7⟩ := h
  exact ⟨h1, h2, h3, h4, ⟨a, s, k0, by omega, k2⟩, h6, h7⟩
theorem src_drew {B : Nat} {w0 w : World} {v : Value} {l : List Int} {m : Int} (h : SrcEnd B w0 v l m w) (q : Nat) : SrcEnd B w0 v l m (w.drewN q) :=
  ⟨⟨h.1.rd, h.1.ne, h.1.bts, h.1.code, h.1.cells, h.1.free1, h.1.free2⟩, gr_trans h.2 (gr_drewN _ q _)⟩
theorem src_at {B : Nat} {w0 w : World} {v : Value} {l : List Int} {m : Int} (h : SrcEnd B w0 v l m w) (a : Int) (h0 : 0 ≤ a) (ha : a ≤ m + 1) : SrcEnd B w0 v l (m + 1) (w.setCell ⟨B, 1, none⟩ (.int .i64 a)) := by
  obtain ⟨h, hg⟩ := h
  obtain ⟨at0, s0, _, _, k2, k3, h1, h2⟩ := h.cells
  have g := gr_set w ⟨B, 1, none⟩ (.int .i64 a)
  exact ⟨⟨rd_grown h.rd g h.ne, h.ne, h.bts, (World.cell?_setCell_other _ _ _ _ (addr_ne (by omega))).trans h.code,
    ⟨a, s0, h0, ha, k2, k3, World.cell?_setCell_same _ _ _ h1, (World.cell?_setCell_other _ _ _ _ (addr_ne (by omega))).trans h2⟩,
    (World.frozen?_setCell _ _ _ _).trans h.free1, (World.frozen?_setCell _ _ _ _).trans h.free2⟩, gr_trans hg g⟩
theorem src_seed {B : Nat} {w0 w : World} {v : Value} {l : List Int} {m : Int} (h : SrcEnd B w0 v l m w) (s : Int) (h0 : 0 ≤ s) (hs : s < 2147483648) : SrcEnd B w0 v l m (w.setCell ⟨B, 2, none⟩ (.int .i64 s)) := by
  obtain ⟨h, hg⟩ := h
  obtain ⟨at0, s0, k0, k1, _, _, h1, h2⟩ := h.cells
  have g := gr_set w ⟨B, 2, none⟩ (.int .i64 s)
  exact ⟨⟨rd_grown h.rd g h.ne, h.ne, h.bts, (World.cell?_setCell_other _ _ _ _ (addr_ne (by omega))).trans h.code,
    ⟨at0, s, k0, k1, h0, hs, (World.cell?_setCell_other _ _ _ _ (addr_ne (by omega))).trans h1, World.cell?_setCell_same _ _ _ h2⟩,
    (World.frozen?_setCell _ _ _ _).trans h.free1, (World.frozen?_setCell _ _ _ _).trans h.free2⟩, gr_trans hg g⟩
/-- The source behind its place's step. -/
theorem src_step {B : Nat} {w w1 : World} {v : Value} {l : List Int} {m at_ seed : Int} (h : Src B w v l m) (h0 : 0 ≤ at_) (ha : at_ ≤ m) (c1 : w.cell? ⟨B, 1, none⟩ = some (.int .i64 at_)) (c2 : w.cell? ⟨B, 2, none⟩ = some (.int .i64 seed))
    (hw : w.setCell ⟨B, 1, none⟩ (.int .i64 (at_ + 1)) = w1) :
    SrcEnd B w v l (m + 1) w1 ∧ w1.cell? ⟨B, 0, none⟩ = some v ∧ w1.cell? ⟨B, 1, none⟩ = some (.int .i64 (at_ + 1)) ∧ w1.cell? ⟨B, 2, none⟩ = some (.int .i64 seed) ∧ w1.frozen? ⟨B, 2, none⟩ = false ∧ Rd w1 v l := by
  subst hw
  have k := src_at (src_refl h) (at_ + 1) (by omega) (by omega)
  exact ⟨k, k.1.code, World.cell?_setCell_same _ _ _ c1, (World.cell?_setCell_other _ _ _ _ (addr_ne (by omega))).trans c2, k.1.free2, k.1.rd⟩
theorem seed_step {B : Nat} {w0 w1 w2 : World} {v : Value} {l : List Int} {m at_ s : Int} (h : SrcEnd B w0 v l m w1) (d1 : w1.cell? ⟨B, 1, none⟩ = some (.int .i64 at_)) (h0 : 0 ≤ s) (hs : s < 2147483648)
    (hw : w1.setCell ⟨B, 2, none⟩ (.int .i64 s) = w2) :
    SrcEnd B w0 v l m w2 ∧ w2.cell? ⟨B, 0, none⟩ = some v ∧ w2.cell? ⟨B, 1, none⟩ = some (.int .i64 at_) ∧ w2.cell? ⟨B, 2, none⟩ = some (.int .i64 s) ∧ Rd w2 v l := by
  subst hw
  obtain ⟨_, _, _, _, _, _, _, k⟩ := h.1.cells
  have g := src_seed h s h0 hs
  exact ⟨g, g.1.code, (World.cell?_setCell_other _ _ _ _ (addr_ne (by omega))).trans d1, World.cell?_setCell_same _ _ _ k, g.1.rd⟩
set_option maxRecDepth 100000 in
set_option maxHeartbeats 800000 in
theorem byte_any (B : Nat) (v : Value) (l : List Int) (m : Int) (w : World) (h : Src B w v l m) (hm : m ≤ 1073741824) :
    Calls Try.prog 54 #[.pointer (some ⟨B, 0, none⟩)] w fun e w' => ∃ y : Int, e = .returned (.int .i64 y) ∧ 0 ≤ y ∧ y ≤ 255 ∧ SrcEnd B w v l (m + 1) w' := by
  have HS := hide h
  obtain ⟨hrd, hne, hbts, hcode, ⟨at_, seed, ha0, ha, hs0, hs, c1, c2⟩, f1, f2⟩ := h
  have HST := hide (fun w1 h => src_step (w1 := w1) (unhide HS) ha0 ha c1 c2 h)
  obtain ⟨a, cap, rfl, hl, hc⟩ := hrd
  have HB := hide hbts
  clear hbts hc c2 HS f2 hne
  go_enter Try.func54, Try.ntmps54
  go_wp2_with fail
  generalize hw1 : w.setCell ⟨B, 1, none⟩ (.int .i64 (at_ + 1)) = w1
  obtain ⟨hE, d0, d1, d2, g2, hrd1⟩ := unhide HST w1 hw1
  have HE := hide hE
  obtain ⟨a', cap', e', _, hc⟩ := hrd1
  simp only [Value.slice.injEq, true_and] at e'
  obtain ⟨rfl, rfl⟩ := e'
  clear hE HST hw1 c1 f1 hcode
  by_cases h1 : at_ + 1 ≤ l.length
  · have hc' := hc (by intro e; subst e; simp at h1; omega)
    obtain ⟨b, off, rfl, hcell⟩ := hc'
    obtain ⟨k, rfl⟩ := Int.eq_ofNat_of_zero_le ha0
    have hck := hcell k (by omega)
    have hbk := bts_get (unhide HB) k
    generalize hx : l.getD k 0 = x at *
    have HX := hide hx
    clear hx
    obtain ⟨hx0, hx1⟩ := hbk
    have h1'' : (k : Int) < l.length := by omega
    clear hc hcell
    go_quiet (fail)
    go_wp2_with fail
    have hd : Rd w1 (.slice (some ⟨b, off, none⟩) l.length cap) l := (unhide HE).1.rd
    go_region
    all_goals
      generalize hw2 : (w1.drewN _).setCell ⟨B, 2, none⟩ (.int .i64 ((seed * 31 + x + 7) % 2147483648)) = w2
      obtain ⟨hE2, t0, t1, t2, hrd2⟩ := seed_step (src_drew (unhide HE) _) d1 (by omega) (by omega) hw2
      have HE2 := hide hE2
      obtain ⟨a2, cap2, e2, _, hc2⟩ := hrd2
      obtain ⟨b2, off2, e3, hc3⟩ := hc2 (by intro e; subst e; simp at h1''; omega)
      simp only [Value.slice.injEq, true_and] at e2
      obtain ⟨rfl, rfl⟩ := e2
      simp only [Option.some.injEq, Addr.mk.injEq, and_true] at e3
      obtain ⟨rfl, rfl⟩ := e3
      have tck := hc3 k (by omega)
      have hx : l.getD k 0 = x := unhide HX
      rw [hx] at tck
      clear hE2 hc2 hc3 hw2 d0 d1 d2 hck hx hd
      go_wp2_with fail
      go_quiet (fail)
      go_wp2_with fail
      go_ret
      exact ⟨_, rfl, by omega, by omega, src_drew (unhide HE2) _⟩
  · have h1' : (l.length : Int) < at_ + 1 := by omega
    clear hc
    by_cases h2 : 3000 < at_ + 1
    · go_quiet (fail)
      go_wp2_with fail
      go_ret
      exact ⟨_, rfl, by omega, by omega, src_drew (unhide HE) _⟩
    · go_quiet (fail)
      go_wp2_with fail
      go_ret
      exact ⟨_, rfl, by omega, by omega, src_seed (src_drew (unhide HE) _) _ (by omega) (by omega)⟩
set_option maxRecDepth 100000 in
set_option maxHeartbeats 800000 in
theorem next_any (B : Nat) (v : Value) (l : List Int) (m n : Int) (w : World) (h : Src B w v l m) (hm : m ≤ 1000000000) (h1 : 1 ≤ n) (h2 : n ≤ 1073741824) :
    Calls Try.prog 25 #[.pointer (some ⟨B, 0, none⟩), .int .i64 n] w fun e w' => ∃ y : Int, e = .returned (.int .i64 y) ∧ 0 ≤ y ∧ y < n ∧ SrcEnd B w v l (m + 3) w' := by
  have HS := hide h
  clear h
  by_cases k1 : n ≤ 1
  · go_enter Try.func25, Try.ntmps25
    go_wp2_with fail
    go_ret
    exact ⟨_, rfl, by omega, by omega, src_refl (src_more (unhide HS) (by omega))⟩
  by_cases k2 : n ≤ 256
  · go_enter Try.func25, Try.ntmps25
    go_wp2_with fail
    refine (byte_any B v l m _ (unhide HS) (by omega)).mono ?_
    rintro e w1 ⟨y, rfl, hy0, hy1, hE⟩
    have HE := hide hE
    clear hE
    have hne : (n == 0) = false := by simp; omega
    go_wp2_with fail
    go_ret
    exact ⟨_, rfl, by first | omega | exact Int.emod_nonneg _ (by omega), by first | omega | exact Int.emod_lt_of_pos _ (by omega), src_more (unhide HE).1 (by omega), (unhide HE).2⟩
  go_enter Try.func25, Try.ntmps25
  go_wp2_with fail
  refine (byte_any B v l m _ (unhide HS) (by omega)).mono ?_
  rintro e w1 ⟨y1, rfl, hy0, hy1, hE⟩
  have HE1 := hide hE
  clear hE
  go_wp2_with fail
  refine (byte_any B v l _ _ (unhide HE1).1 (by omega)).mono ?_
  rintro e w2 ⟨y2, rfl, hz0, hz1, hE⟩
  have HE2 := hide hE
  clear hE
  go_wp2_with fail
  refine (byte_any B v l _ _ (unhide HE2).1 (by omega)).mono ?_
  rintro e w3 ⟨y3, rfl, hu0, hu1, hE⟩
  have HE3 := hide hE
  clear hE
  have hne : (n == 0) = false := by simp; omega
  go_wp2_with fail
  go_ret
  exact ⟨_, rfl, by first | omega | exact Int.emod_nonneg _ (by omega), by first | omega | exact Int.emod_lt_of_pos _ (by omega), src_more (unhide HE3).1 (by omega), gr_trans (gr_trans (unhide HE1).2 (unhide HE2).2) (unhide HE3).2⟩
end Go.Proofs.Ythmgkabpcjkieaa
namespace Go.Proofs.Ythmgkabpcjkieaa
open Go.RowKit
set_option linter.unusedVariables false

set_option maxRecDepth 100000 in
set_option maxHeartbeats 400000 in
theorem chance_any (B : Nat) (v : Value) (l : List Int) (m n : Int) (w : World) (h : Src B w v l m) (hm : m ≤ 1000000000) (h1 : 1 ≤ n) (h2 : n ≤ 1073741824) :
    Calls Try.prog 57 #[.pointer (some ⟨B, 0, none⟩), .int .i64 n] w fun e w' => ∃ b : Bool, e = .returned (.bool b) ∧ SrcEnd B w v l (m + 3) w' := by
  have HS := hide h
  clear h
  go_enter Try.func57, Try.ntmps57
  go_wp2_with fail
  refine (next_any B v l m n _ (unhide HS) hm h1 h2).mono ?_
  rintro e w1 ⟨y, rfl, hy0, hy1, hE⟩
  have HE := hide hE
  clear hE
  go_wp2_with fail
  go_ret
  exact ⟨_, rfl, unhide HE⟩
end Go.Proofs.Ythmgkabpcjkieaa
namespace Go.Proofs.Ythmgkabpcjkieaa
open Go.RowKit
set_option linter.unusedVariables false

theorem gr_alloc (w : World) (o : Obj) (row : Option Nat) : w.grownBy (w.alloc o) row :=
  ⟨rfl, rfl, rfl, by simp, fun k hk _ => ((Below.refl _ w).alloc (Nat.le_refl _) o).block k hk⟩
theorem src_lt {B : Nat} {w : World} {v : Value} {l : List Int} {m : Int} (h : Src B w v l m) : B < w.heap.size := World.block_lt_of_cell? w _ h.code
theorem src_alloc {B : Nat} {w0 w : World} {v : Value} {l : List Int} {m : Int} (h : SrcEnd B w0 v l m w) (o : Obj) : SrcEnd B w0 v l m (w.alloc o) := by
  have hB := src_lt h.1
  obtain ⟨a, s, k1, k2, k3, k4, k5, k6⟩ := h.1.cells
  have e : ∀ i, (w.alloc o).cell? ⟨B, i, none⟩ = w.cell? ⟨B, i, none⟩ := fun i => World.cell?_alloc_lt _ _ ⟨B, i, none⟩ hB
  have f : ∀ i, (w.alloc o).frozen? ⟨B, i, none⟩ = w.frozen? ⟨B, i, none⟩ := fun i => World.frozen?_of_block (a := ⟨B, i, none⟩) ((gr_alloc w o none).block B hB (by simp))
  exact ⟨⟨rd_grown h.1.rd (gr_alloc w o _) h.1.ne, h.1.ne, h.1.bts, (e 0).trans h.1.code, ⟨a, s, k1, k2, k3, k4, (e 1).trans k5, (e 2).trans k6⟩, (f 1).trans h.1.free1, (f 2).trans h.1.free2⟩, gr_trans h.2 (gr_alloc w o _)⟩
theorem rd_new {w : World} {v : Value} {l : List Int} (h : Rd w v l) (hne : l ≠ []) : v.ownBlock ≠ some w.heap.size := by
  obtain ⟨a, cap, rfl, _, hc⟩ := h
  obtain ⟨b, off, rfl, hcell⟩ := hc hne
  have := World.block_lt_of_cell? w _ (hcell 0 (List.length_pos_iff.2 hne))
  simp only [Value.ownBlock, ne_eq, Option.some.injEq]
  intro e
  simp only at this
  omega
theorem source_any (v : Value) (l : List Int) (w : World) (h : Rd w v l) (hb : Bts l) :
    Calls Try.prog 10 #[v] w fun e w' => e = .returned (.pointer (some ⟨w.heap.size, 0, none⟩)) ∧ Src w.heap.size w' v l 0 ∧ Below w.heap.size w w' := by
  have HR := hide h
  have HB := hide hb
  have HV := hide (fun hne => rd_new h hne)
  obtain ⟨a, cap, rfl, hl, _⟩ := h
  clear hb
  go_enter Try.func10, Try.ntmps10
  go_wp2_with fail
  go_ret
  refine ⟨rfl, ⟨rd_grown (unhide HR) (gr_alloc w _ _) (unhide HV), unhide HV, unhide HB, cell_of_row _ _ _ _ _ (0, 0) (heap_alloc_new w _), ⟨0, (l.length : Int) % 1000, by omega, by omega, by omega, by omega, cell_of_row _ _ _ _ _ (0, 0) (heap_alloc_new w _), cell_of_row _ _ _ _ _ (0, 0) (heap_alloc_new w _)⟩, ?_, ?_⟩, (Below.refl _ w).alloc (Nat.le_refl _) _⟩
  all_goals
    unfold World.frozen?
    rw [heap_alloc_new]
    simp
theorem own_below_grown {w w1 w' : World} {B : Nat} (h1 : Below w.heap.size w w1) (hB : w.heap.size ≤ B) (h2 : w1.grownBy w' (some B)) : Below w.heap.size w w' :=
  h1.trans (gr_below h2 hB h1.size)
end Go.Proofs.Ythmgkabpcjkieaa
namespace Go.Proofs.Ythmgkabpcjkieaa
open Go.RowKit
set_option linter.unusedVariables false

theorem odd_row (k : Nat) (w : World) (t : TypeId) (h : k < 12) :
    ∃ z : Int, -9223372036854775808 ≤ z ∧ z ≤ 9223372036854775807 ∧ (w.alloc (.cells #[.int .i64 0, .int .i64 (-1), .int .i64 1, .int .i64 2, .int .i64 63, .int .i64 64, .int .i64 65, .int .i64 4096, .int .i64 4097, .int .i64 9223372036854775807, .int .i64 (-9223372036854775808), .int .i64 30] t)).cell? ⟨w.heap.size, k, none⟩ = some (.int .i64 z) := by
  rcases (show k = 0 ∨ k = 1 ∨ k = 2 ∨ k = 3 ∨ k = 4 ∨ k = 5 ∨ k = 6 ∨ k = 7 ∨ k = 8 ∨ k = 9 ∨ k = 10 ∨ k = 11 by omega) with rfl | rfl | rfl | rfl | rfl | rfl | rfl | rfl | rfl | rfl | rfl | rfl
  all_goals exact ⟨_, by decide, by decide, cell_of_row _ _ _ _ _ (0, 0) (heap_alloc_new w _)⟩
set_option maxRecDepth 100000 in
set_option maxHeartbeats 800000 in
theorem odd_any (B : Nat) (v : Value) (l : List Int) (m : Int) (w : World) (h : Src B w v l m) (hm : m ≤ 1000000000) :
    Calls Try.prog 88 #[.pointer (some ⟨B, 0, none⟩)] w fun e w' => ∃ y : Int, e = .returned (.int .i64 y) ∧ -9223372036854775808 ≤ y ∧ y ≤ 9223372036854775807 ∧ SrcEnd B w v l (m + 3) w' := by
  have HS := hide h
  have hB := src_lt h
  clear h
  go_enter Try.func88, Try.ntmps88
  go_wp2_with fail
  refine (next_any B v l m 12 _ (src_alloc (src_refl (unhide HS)) _).1 hm (by omega) (by omega)).mono ?_
  rintro e w1 ⟨y, rfl, hy0, hy1, hE⟩
  obtain ⟨k, rfl⟩ := Int.eq_ofNat_of_zero_le hy0
  obtain ⟨z, hz0, hz1, hz⟩ := odd_row k w 3 (by omega)
  have HE := hide (show SrcEnd B w v l (m + 3) w1 from ⟨hE.1, gr_trans (gr_alloc w _ _) hE.2⟩)
  have hc := hE.2.cell hz (by simp; omega)
  clear hE hz
  go_wp2_with fail
  go_ret
  exact ⟨_, rfl, hz0, hz1, unhide HE⟩
set_option maxRecDepth 100000 in
set_option maxHeartbeats 800000 in
theorem number_drawn (B : Nat) (v : Value) (l : List Int) (m : Int) (w : World) (h : Src B w v l m) (hm : m ≤ 900000000) :
    Calls Try.prog 77 #[.pointer (some ⟨B, 0, none⟩)] w fun e w' => ∃ y : Int, e = .returned (.int .i64 y) ∧ -9223372036854775808 ≤ y ∧ y ≤ 9223372036854775807 ∧ SrcEnd B w v l (m + 6) w' := by
  have HS := hide h
  clear h
  go_enter Try.func77, Try.ntmps77
  go_wp2_with fail
  refine (chance_any B v l m 4 _ (unhide HS) (by omega) (by omega) (by omega)).mono ?_
  rintro e w1 ⟨b, rfl, hE⟩
  have HE := hide hE
  clear hE
  cases b
  · go_wp2_with fail
    refine (next_any B v l _ 400 _ (unhide HE).1 (by omega) (by omega) (by omega)).mono ?_
    rintro e w2 ⟨y, rfl, hy0, hy1, hE2⟩
    have HE2 := hide hE2
    clear hE2
    go_wp2_with fail
    go_ret
    exact ⟨_, rfl, by omega, by omega, src_more (unhide HE2).1 (by omega), gr_trans (unhide HE).2 (unhide HE2).2⟩
  · go_wp2_with fail
    refine (odd_any B v l _ _ (unhide HE).1 (by omega)).mono ?_
    rintro e w2 ⟨y, rfl, hy0, hy1, hE2⟩
    have HE2 := hide hE2
    clear hE2
    go_wp2_with fail
    go_ret
    exact ⟨_, rfl, hy0, hy1, src_more (unhide HE2).1 (by omega), gr_trans (unhide HE).2 (unhide HE2).2⟩
end Go.Proofs.Ythmgkabpcjkieaa
