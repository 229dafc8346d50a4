/-
  Small facts that all walks of this seat lean on: facts kept from the walk, an ending's value, a text's bytes as a list.
-/
import Derived.Test.YtmeekcdoajbjdaaGreatDoorRows
import Derived.WalkKit
import Derived.Below
import Derived.OpenShut
import Derived.Deep.QuietTactic
import Derived.BigQuiet
import Derived.WalkSmall
import Derived.WalkSpells
namespace Go.Proofs.YtmeekcdoajbjdaaGreatDoor
open Go.RowKit

theorem hide {p : Prop} (h : p) : Hid p := h
theorem unhide {p : Prop} (h : Hid p) : p := h
theorem ret_bool {a b : Bool} (h : a = b) : Ending.returned (.bool a) = .returned (.bool b) := by rw [h]
theorem ret_int {k : IntKind} {a b : Int} (h : a = b) : Ending.returned (.int k a) = .returned (.int k b) := by rw [h]

theorem get_nat (s : ByteArray) (k : Nat) (h : k < s.size) : s[k] = s.data.toList[k]'(by simpa using h) := rfl
theorem data_len (s : ByteArray) : s.data.toList.length = s.size := by simp
theorem list_cons (l : List UInt8) (h : 0 < l.length) : l = l[0] :: l.tail := by
  cases l with
  | nil => simp at h
  | cons c r => rfl
theorem data_cons (s : ByteArray) (h : 0 < s.size) : s.data.toList = s[0] :: s.data.toList.tail :=
  list_cons s.data.toList (by rw [data_len]; exact h)
theorem take_snoc (s : ByteArray) (k : Nat) (h : k < s.size) : s.data.toList.take (k + 1) = s.data.toList.take k ++ [s[k]] := by
  rw [List.take_succ_eq_append_getElem (by simpa using h)]; rfl
theorem tail_snoc (s : ByteArray) (k : Nat) (h : k + 1 < s.size) : s.data.toList.tail.take (k + 1) = s.data.toList.tail.take k ++ [s[k + 1]] := by
  rw [List.take_succ_eq_append_getElem (by rw [List.length_tail, data_len]; omega), get_nat s (k + 1) h]
  simp
end Go.Proofs.YtmeekcdoajbjdaaGreatDoor
namespace Go.Proofs.YtmeekcdoajbjdaaGreatDoor
open Go.RowKit

/-- The slice v reads as the bytes l. -/
def Rd (w : World) (v : Value) (l : List Int) : Prop :=
  ∃ (a : Option Addr) (cap : Nat), v = .slice a l.length cap ∧ l.length ≤ 1073741824 ∧
    (l ≠ [] → ∃ b off, a = some ⟨b, off, none⟩ ∧ ∀ i, i < l.length → w.cell? ⟨b, off + i, none⟩ = some (.int .u8 (l.getD i 0)))

theorem gr_trans {a b c : World} {row : Option Nat} (h : a.grownBy b row) (k : b.grownBy c row) : a.grownBy c row :=
  ⟨k.os.trans h.os, k.tape.trans h.tape, k.output.trans h.output, Nat.le_trans h.size k.size,
    fun i hi hne => (k.block i (Nat.lt_of_lt_of_le hi h.size) hne).trans (h.block i hi hne)⟩
theorem gr_set (w : World) (a : Addr) (u : Value) : w.grownBy (w.setCell a u) (some a.block) :=
  ⟨rfl, rfl, rfl, by simp [World.setCell], fun k _ hne => Below.heap_setCell _ _ _ _ (fun e => hne (by rw [e]))⟩
theorem gr_drewN (w : World) (n : Nat) (row : Option Nat) : w.grownBy (w.drewN n) row := ⟨rfl, rfl, rfl, Nat.le_refl _, fun _ _ _ => rfl⟩
theorem gr_below {w w' : World} {g B : Nat} (h : w.grownBy w' (some g)) (hB : B ≤ g) (hs : B ≤ w.heap.size) : Below B w w' :=
  ⟨h.os, h.tape, h.output, h.size, fun k hk => h.block k (by omega) (by simp; omega)⟩

theorem addr_ne {g a b : Nat} (h : a ≠ b) : (⟨g, a, none⟩ : Addr) ≠ ⟨g, b, none⟩ := by
  intro e; injection e; exact h (by assumption)

/-- The slice v is a row in a block from B on, with the bytes l, and may be written. -/
def Own (B : Nat) (w : World) (v : Value) (l : List Int) : Prop :=
  ∃ g cap, v = .slice (some ⟨g, 0, none⟩) l.length cap ∧ B ≤ g ∧ g < w.heap.size ∧ l.length ≤ 1073741824 ∧
    (∀ i, i < l.length → w.cell? ⟨g, 0 + i, none⟩ = some (.int .u8 (l.getD i 0))) ∧ ∀ i, i < l.length → w.frozen? ⟨g, 0 + i, none⟩ = false

theorem own_row {B : Nat} {w : World} {v : Value} {l : List Int} (hne : 0 < l.length) (hlen : l.length ≤ 1073741824)
    (h : w.ownsRow B 5 1 v l.length (l.map (Value.int .u8))) : Own B w v l := by
  rcases h.2 with ⟨_, h0⟩ | ⟨g, cap, cur, rfl, hb, hg, _, _, hcur, htake⟩
  · omega
  · refine ⟨g, cap, rfl, hb, (Array.getElem?_eq_some_iff.1 hg).1, hlen, fun i hi => ?_, fun i hi => ?_⟩
    · have := h.cells (g := g) rfl i (.int .u8 (l.getD i 0)) (by rw [List.getElem?_map, List.getElem?_eq_getElem hi]; simp [hi])
      rw [Nat.zero_add]
      have e : (⟨g, 0, none⟩ : Addr).add i = ⟨g, i, none⟩ := by unfold Addr.add; split <;> simp_all
      rw [← e]; exact this
    · simp [World.frozen?, hg]
theorem own_push {B : Nat} {w : World} {v : Value} {done : List Int} {x : Int} (h : w.ownsRow B 5 1 v (done.length + 1) (done.map (Value.int .u8) ++ [.int .u8 x])) :
    w.ownsRow B 5 1 v (done ++ [x]).length ((done ++ [x]).map (Value.int .u8)) := by
  simpa using h
theorem own_done {B : Nat} {w : World} {v : Value} {done l : List Int} {x : Int} (h : w.ownsRow B 5 1 v (done.length + 1) (done.map (Value.int .u8) ++ [.int .u8 x])) (he : done ++ [x] = l) (hl : l.length ≤ 1073741824) :
    Own B w v l := by
  subst he; exact own_row (by simp) hl (own_push h)
theorem below_push {B : Nat} {w wr w1 : World} {v : Value} {n : Nat} {xs : List Value} {o : Obj} (hbel : Below B w wr) (hown : wr.ownsRow B 5 1 v n xs) (hB : B ≤ wr.heap.size) (hg : (wr.alloc o).grownBy w1 v.ownBlock) : Below B w w1 :=
  (hbel.alloc hB o).grown hg (by simp; omega) fun k hk => (hown.lt k hk).1
theorem size_push {wr w1 : World} {o : Obj} {row : Option Nat} {B : Nat} (hB : B < wr.heap.size) (hg : (wr.alloc o).grownBy w1 row) : B < w1.heap.size := by
  have := hg.size
  simp at this
  omega

theorem Tryz.infoByte : (Tryz.prog.info? 5).map (fun i => (i.zero, i.size, i.bytes)) = some (some (.int .u8 0), 1, 1) := by kernel_rfl

/-- The slice v is a row in a block from B on, with the bytes l at its head, whole with its room. -/
def OwnT (B : Nat) (w : World) (v : Value) (l : List Int) : Prop :=
  ∃ g cap cur t, v = .slice (some ⟨g, 0, none⟩) l.length cap ∧ B ≤ g ∧ w.heap[g]? = some (.cells cur t (0, 0)) ∧ l.length ≤ cap ∧ cap ≤ cur.size ∧ cap ≤ maxLen ∧ l.length ≤ 1073741824 ∧
    cur.toList.take l.length = l.map (Value.int .u8)
theorem cell_head {w : World} {g t : Nat} {cur : Array Value} {l : List Int} (hg : w.heap[g]? = some (.cells cur t (0, 0))) (ht : cur.toList.take l.length = l.map (Value.int .u8)) {i : Nat} (hi : i < l.length) :
    w.cell? ⟨g, i, none⟩ = some (.int .u8 (l.getD i 0)) := by
  rw [cell_of_row w g i cur t (0, 0) hg]
  have h1 : (cur.toList.take l.length)[i]? = (l.map (Value.int .u8))[i]? := by rw [ht]
  rw [List.getElem?_take, if_pos hi, List.getElem?_map, List.getElem?_eq_getElem hi] at h1
  simpa [hi] using h1
theorem OwnT.own {B : Nat} {w : World} {v : Value} {l : List Int} (h : OwnT B w v l) : Own B w v l := by
  obtain ⟨g, cap, cur, t, rfl, hb, hg, _, _, _, hl, ht⟩ := h
  exact ⟨g, cap, rfl, hb, (Array.getElem?_eq_some_iff.1 hg).1, hl, fun i hi => by rw [Nat.zero_add]; exact cell_head hg ht hi, fun i _ => by simp [World.frozen?, hg]⟩
theorem OwnT.ge {B : Nat} {w : World} {v : Value} {l : List Int} (h : OwnT B w v l) : ∀ k, v.ownBlock = some k → B ≤ k := by
  obtain ⟨g, cap, cur, t, rfl, hb, _⟩ := h
  intro k hk
  simp [Value.ownBlock] at hk
  omega
theorem ownT_row {B : Nat} {w : World} {v : Value} {l : List Int} (hne : 0 < l.length) (hlen : l.length ≤ 1073741824)
    (h : w.ownsRow B 5 1 v l.length (l.map (Value.int .u8))) : OwnT B w v l := by
  rcases h.2 with ⟨_, h0⟩ | ⟨g, cap, cur, rfl, hb, hg, h1, h2, hcur, htake⟩
  · omega
  · exact ⟨g, cap, cur, _, rfl, hb, hg, h1, by omega, h2, hlen, by simpa using htake⟩
theorem ownT_done {B : Nat} {w : World} {v : Value} {done l : List Int} {x : Int} (h : w.ownsRow B 5 1 v (done.length + 1) (done.map (Value.int .u8) ++ [.int .u8 x])) (he : done ++ [x] = l) (hl : l.length ≤ 1073741824) :
    OwnT B w v l := by
  subst he; exact ownT_row (by simp) hl (own_push h)

/-- The array of M bytes in block B, its first bytes being 'done'. -/
def Arr (M B : Nat) (w wr : World) (done : List Int) : Prop :=
  ∃ cur t, wr.heap[B]? = some (.cells cur t (0, 0)) ∧ cur.size = M ∧ done.length ≤ M ∧ cur.toList.take done.length = done.map (Value.int .u8) ∧ Below B w wr
theorem Arr.below {M B : Nat} {w wr : World} {done : List Int} (h : Arr M B w wr done) : Below B w wr := by
  obtain ⟨_, _, _, _, _, _, h⟩ := h; exact h
theorem Arr.lt {M B : Nat} {w wr : World} {done : List Int} (h : Arr M B w wr done) : B < wr.heap.size := by
  obtain ⟨_, _, h, _⟩ := h; exact (Array.getElem?_eq_some_iff.1 h).1
theorem Arr.some {M B : Nat} {w wr : World} {done : List Int} (h : Arr M B w wr done) {j : Nat} (hj : j < M) : ∃ v, wr.cell? ⟨B, j, none⟩ = .some v := by
  obtain ⟨cur, t, h1, h2, _⟩ := h
  exact ⟨_, (cell_of_row wr B j cur t (0, 0) h1).trans (Array.getElem?_eq_getElem (by omega))⟩
theorem Arr.free {M B : Nat} {w wr : World} {done : List Int} (h : Arr M B w wr done) (j : Nat) : wr.frozen? ⟨B, j, none⟩ = false := by
  obtain ⟨cur, t, h1, _⟩ := h
  simp [World.frozen?, h1]
theorem arr_start {M : Nat} (w : World) (c : Array Value) (t : TypeId) (h : c.size = M) : Arr M w.heap.size w (w.alloc (.cells c t)) [] :=
  ⟨c, t, heap_alloc_new w _, h, Nat.zero_le _, rfl, (Below.refl _ _).alloc (Nat.le_refl _) _⟩
theorem arr_step {M B : Nat} {w wr : World} {done : List Int} (x : Int) (h : Arr M B w wr done) (hM : done.length < M) : Arr M B w (wr.setCell ⟨B, done.length, none⟩ (.int .u8 x)) (done ++ [x]) := by
  obtain ⟨cur, t, h1, h2, h3, h4, h5⟩ := h
  refine ⟨cur.setIfInBounds done.length (.int .u8 x), t, by simp [World.setCell, Array.getElem?_modify, h1], by simpa using h2, by simp; omega, ?_, h5.setCell (Nat.le_refl _) _⟩
  rw [List.length_append, List.length_singleton, List.take_succ_eq_append_getElem (by simp; omega)]
  simp only [Array.toList_setIfInBounds, List.map_append, List.map_cons, List.map_nil]
  rw [List.take_set_of_le (Nat.le_refl _), h4]
  simp
theorem arr_own {M B cap : Nat} {w wr : World} {l : List Int} (h : Arr M B w wr l) (hc : cap = M) (hM' : M ≤ 1073741824) : OwnT B wr (.slice (some ⟨B, 0, none⟩) l.length cap) l := by
  obtain ⟨cur, t, h1, h2, h3, h4, _⟩ := h
  exact ⟨B, cap, cur, t, rfl, Nat.le_refl _, h1, by omega, by omega, by unfold maxLen; omega, by omega, h4⟩

theorem own_rd {B : Nat} {w : World} {v : Value} {l : List Int} (h : Own B w v l) : Rd w v l := by
  obtain ⟨g, cap, rfl, _, _, hl, hc, _⟩ := h
  exact ⟨_, cap, rfl, hl, fun _ => ⟨g, 0, rfl, hc⟩⟩
/-- A row stays in a world that is as it was below a number above the row's block. -/
theorem own_below {B C : Nat} {w w' : World} {v : Value} {l : List Int} (h : Own B w v l) (hb : Below C w w') (hC : w.heap.size ≤ C) : Own B w' v l := by
  obtain ⟨g, cap, rfl, h1, h2, hl, hc, hf⟩ := h
  exact ⟨g, cap, rfl, h1, Nat.lt_of_lt_of_le h2 hb.size, hl, fun i hi => (hb.cell (p := ⟨g, 0 + i, none⟩) (Nat.lt_of_lt_of_le h2 hC)).trans (hc i hi),
    fun i hi => (hb.frozen (p := ⟨g, 0 + i, none⟩) (Nat.lt_of_lt_of_le h2 hC)).trans (hf i hi)⟩
theorem own_drewN {B : Nat} {w : World} {v : Value} {l : List Int} (h : Own B w v l) (n : Nat) : Own B (w.drewN n) v l := h
/-- A row stays where another row is written. -/
theorem own_grown {B g : Nat} {w w' : World} {v : Value} {l : List Int} (h : Own B w v l) (hb : w.grownBy w' (some g)) (hne : ∀ k, v.ownBlock = some k → k ≠ g) : Own B w' v l := by
  obtain ⟨g', cap, rfl, h1, h2, hl, hc, hf⟩ := h
  have hne' : some g' ≠ some g := fun e => hne g' rfl (Option.some.inj e)
  have hblk := hb.block g' h2 hne'
  exact ⟨g', cap, rfl, h1, Nat.lt_of_lt_of_le h2 hb.size, hl, fun i hi => (World.cell?_of_block (a := ⟨g', 0 + i, none⟩) hblk).trans (hc i hi),
    fun i hi => (World.frozen?_of_block (a := ⟨g', 0 + i, none⟩) hblk).trans (hf i hi)⟩
theorem below_drewN' {B : Nat} {a w : World} (h : Below B a w) (n : Nat) : Below B a (w.drewN n) := h.trans ⟨rfl, rfl, rfl, Nat.le_refl _, fun _ _ => rfl⟩

/-- Each number is a byte. -/
def Bts (l : List Int) : Prop := ∀ x ∈ l, 0 ≤ x ∧ x ≤ 255
theorem bts_get {l : List Int} (h : Bts l) (k : Nat) : 0 ≤ l.getD k 0 ∧ l.getD k 0 ≤ 255 := by
  by_cases hk : k < l.length
  · have e : l.getD k 0 = l[k] := by simp [hk]
    rw [e]; exact h _ (List.getElem_mem hk)
  · simp [Nat.le_of_not_lt hk]

/-- What is told of a slice that came in: it reads as the bytes of its first len numbers. -/
theorem rd_of_row {w : World} {a : Option Addr} {len cap : Nat} {zs : List Int}
    (h : (a = none ∧ len = 0 ∧ cap = 0 ∧ zs = []) ∨ ∃ x, a = some x ∧ len ≤ cap ∧ cap ≤ maxLen ∧ zs.length = cap ∧ (∀ i, i < zs.length → w.cell? (x.add i) = some (.int .u8 (zs.getD i 0))) ∧ ∀ n ∈ zs, (Lit.int .u8 n).wf = true)
    (hl : len ≤ 1073741824) : (zs.take len).length = len ∧ Rd w (.slice a len cap) (zs.take len) ∧ Bts (zs.take len) := by
  rcases h with ⟨rfl, rfl, rfl, rfl⟩ | ⟨x, rfl, h1, _, hz, hc, hw⟩
  · exact ⟨rfl, ⟨none, 0, rfl, by simp, fun h => absurd rfl h⟩, fun x hx => by simp at hx⟩
  · have hlen : (zs.take len).length = len := by rw [List.length_take]; omega
    refine ⟨hlen, ⟨some x, cap, by rw [hlen], by omega, fun hne => ?_⟩, fun n hn => bounds_u8 (hw n (List.mem_of_mem_take hn))⟩
    have hp : 0 < len := by
      rcases Nat.eq_zero_or_pos len with h0 | h0
      · subst h0; simp at hne
      · exact h0
    obtain ⟨b, off, spot⟩ := x
    have h0 := hc 0 (by omega)
    have hspot : spot = none := by simpa [Addr.add] using World.cell?_spot h0
    subst hspot
    refine ⟨b, off, rfl, fun i hi => ?_⟩
    rw [hlen] at hi
    have := hc i (by omega)
    have e : (⟨b, off, none⟩ : Addr).add i = ⟨b, off + i, none⟩ := by unfold Addr.add; split <;> simp_all
    rw [e] at this
    rw [this]
    have e2 : (zs.take len).getD i 0 = zs.getD i 0 := by simp [hi]
    rw [e2]

theorem rd_below {B : Nat} {w w' : World} {v : Value} {l : List Int} (h : Rd w v l) (hb : Below B w w') (hB : w.heap.size ≤ B) : Rd w' v l := by
  obtain ⟨a, cap, rfl, hl, hc⟩ := h
  refine ⟨a, cap, rfl, hl, fun hne => ?_⟩
  obtain ⟨b, off, rfl, hcell⟩ := hc hne
  exact ⟨b, off, rfl, fun i hi => (hb.cell (p := ⟨b, off + i, none⟩) (Nat.lt_of_lt_of_le (World.block_lt_of_cell? w _ (hcell i hi)) hB)).trans (hcell i hi)⟩
theorem rd_drewN {w : World} {v : Value} {l : List Int} (h : Rd w v l) (n : Nat) : Rd (w.drewN n) v l := h
theorem rd_len {w : World} {v : Value} {l : List Int} (h : Rd w v l) : ∃ a cap, v = .slice a l.length cap := by
  obtain ⟨a, cap, rfl, _⟩ := h; exact ⟨a, cap, rfl⟩

theorem arr_made {w w' : World} {n : Nat} {xs : List Value} (h : w'.ownsRow w.heap.size 5 1 (.slice (some ⟨w.heap.size, 0, none⟩) n n) n xs) (hg : w.grownBy w' none) : Arr n w.heap.size w w' [] := by
  rcases h.2 with ⟨h0, _⟩ | ⟨g, cap, cur, hv, _, hh, _, _, hcur, _⟩
  · simp at h0
  · simp only [Value.slice.injEq, Option.some.injEq, Addr.mk.injEq, and_true, true_and] at hv
    obtain ⟨rfl, rfl⟩ := hv
    exact ⟨cur, _, hh, by omega, Nat.zero_le _, rfl, (Below.refl _ w).grown hg (Nat.le_refl _) (fun k hk => by simp at hk)⟩

theorem take_get (l : List Int) (k : Nat) (h : k < l.length) : l.take (k + 1) = l.take k ++ [l.getD k 0] := by
  rw [List.take_succ_eq_append_getElem h]; simp [h]

end Go.Proofs.YtmeekcdoajbjdaaGreatDoor
