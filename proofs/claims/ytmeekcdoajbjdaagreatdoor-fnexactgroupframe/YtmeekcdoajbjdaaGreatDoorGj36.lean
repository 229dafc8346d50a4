/-
  The bytes of totals and of a frame, as lists of numbers; what a row of bytes is behind an append. No function walked.
-/
import Derived.Test.YtmeekcdoajbjdaaGreatDoorGj01
import Derived.Test.YtmeekcdoajbjdaaGreatDoorGj02
import Derived.Test.YtmeekcdoajbjdaaGreatDoorGj14
import Derived.Test.YtmeekcdoajbjdaaGreatDoorGj17
import Derived.Test.YtmeekcdoajbjdaaGreatDoorGj29
import Derived.Test.YtmeekcdoajbjdaaGreatDoorGj35
import Derived.Laws.AppendOwnNone
namespace Go.Proofs.YtmeekcdoajbjdaaGreatDoor
open Go.RowKit
set_option linter.unusedVariables false

theorem cells_madeE (w : World) (cs : List Value) (t : TypeId) : (w.alloc (Obj.cells cs.toArray t)).rangeAt w.heap.size 0 cs := fun j u h => by
  rw [cell_of_row _ w.heap.size (0 + j) cs.toArray t (0, 0) (heap_alloc_new w _)]
  simpa using h
theorem size_madeE (w : World) (o : Obj) : (w.alloc o).heap.size = w.heap.size + 1 := by simp
theorem cells_srcE (w : World) (cs : List Value) (t : TypeId) (j : Nat) (u : Value) (h : cs[j]? = some u) : (w.alloc (Obj.cells cs.toArray t)).cell? ((⟨w.heap.size, 0, none⟩ : Addr).add j) = some u := by
  rw [Addr.add_mid, cell_of_row _ w.heap.size (0 + j) cs.toArray t (0, 0) (heap_alloc_new w _)]
  simpa using h
/-- The totals: eight numbers. -/
structure Tt where
  a : Int
  b : Int
  c : Int
  d : Int
  e : Int
  f : Int
  g : Int
  h : Int
def Tt.ns (t : Tt) : List Int := [t.a, t.b, t.c, t.d, t.e, t.f, t.g, t.h]
def Tt.vs (t : Tt) : List Value := [.int .i64 t.a, .int .i64 t.b, .int .i64 t.c, .int .i64 t.d, .int .i64 t.e, .int .i64 t.f, .int .i64 t.g, .int .i64 t.h]
def I6 (n : Int) : Prop := -9223372036854775808 ≤ n ∧ n ≤ 9223372036854775807
def Tt.ok (t : Tt) : Prop := ∀ n ∈ t.ns, I6 n
def pay (l : List Int) : List Int := l.flatMap fun n => putU (zz n)
theorem pay_len : ∀ (l : List Int), (∀ n ∈ l, I6 n) → (pay l).length ≤ 10 * l.length
  | [], _ => by simp [pay]
  | n :: r, h => by
    have h1 := putU_len10 _ (zz_lt n (h n (by simp)).1 (h n (by simp)).2)
    have h2 := pay_len r (fun m hm => h m (by simp [hm]))
    have h3 : pay (n :: r) = putU (zz n) ++ pay r := rfl
    rw [h3, List.length_append, List.length_cons]; omega
theorem pay_more (l : List Int) {k : Nat} {n : Int} (h : l[k]? = some n) : pay (l.take (k + 1)) = pay (l.take k) ++ putU (zz n) := by
  rw [pay, List.take_add_one, h, List.flatMap_append]; simp [pay]
/-- A frame ahead of its sum, and whole. -/
def frH (m : Int) (p : List Int) : List Int := m :: putU (zz p.length) ++ p
def frS (m : Int) (p : List Int) (was : Int) : Int := sumL (frH m p) was
def frL (m : Int) (p : List Int) (was : Int) : List Int := frH m p ++ [frS m p was / 256, frS m p was % 256]
theorem one_b (l : List Int) : ∀ u ∈ l.map (Value.int .u8), u.oneCell' = true := by
  intro u hu
  obtain ⟨x, _, rfl⟩ := List.mem_map.1 hu
  rfl
/-- A row that another call made, as a source. -/
theorem ownT_src {B : Nat} {w : World} {v : Value} {l : List Int} (h : OwnT B w v l) : ∃ g cap, v = .slice (some ⟨g, 0, none⟩) l.length cap ∧ g < w.heap.size ∧ ∀ j u, (l.map (Value.int .u8))[j]? = some u → w.cell? ((⟨g, 0, none⟩ : Addr).add j) = some u := by
  obtain ⟨g, cap, cur, t, rfl, hb, hg, h1, h2, h3, h4, h5⟩ := h
  refine ⟨g, cap, rfl, (Array.getElem?_eq_some_iff.1 hg).1, fun j u hu => ?_⟩
  have hj : j < l.length := by
    rcases Nat.lt_or_ge j l.length with h | h
    · exact h
    · rw [List.getElem?_eq_none (by simpa using h)] at hu; cases hu
  have := cell_head hg h5 hj
  have e : (⟨g, 0, none⟩ : Addr).add j = ⟨g, j, none⟩ := by unfold Addr.add; split <;> simp_all
  rw [e, this]
  rw [List.getElem?_map, List.getElem?_eq_getElem hj] at hu
  simpa [hj] using hu
theorem bRow_rd {W : World} {B : Nat} {v : Value} {l : List Int} (h : BRow W B v l) (hl : l.length ≤ 1073741824) : Rd W v l := by
  rcases h.2 with ⟨rfl, h0⟩ | ⟨g, cap, cur, rfl, hb, hg, h1, h2, h3, h4⟩
  · exact ⟨none, 0, by rw [h0], hl, fun hne => absurd (List.length_eq_zero_iff.1 h0) hne⟩
  · refine ⟨some ⟨g, 0, none⟩, cap, rfl, hl, fun _ => ⟨g, 0, rfl, fun i hi => ?_⟩⟩
    have := cell_head (l := l) hg (by simpa using h4) hi
    simpa using this
theorem bRow_form {W : World} {B : Nat} {v : Value} {l : List Int} (h : BRow W B v l) : ∃ a c, v = .slice a l.length c := by
  rcases h.2 with ⟨e, e2⟩ | ⟨g, cap, cur, e, _⟩
  · exact ⟨none, 0, by rw [e, e2]⟩
  · exact ⟨_, _, e⟩
theorem bRow_src {W : World} {B : Nat} {v : Value} {l : List Int} (h : BRow W B v l) (hne : 0 < l.length) : ∃ g cap, v = .slice (some ⟨g, 0, none⟩) l.length cap ∧ ∀ j u, (l.map (Value.int .u8))[j]? = some u → W.cell? ((⟨g, 0, none⟩ : Addr).add j) = some u := by
  rcases h.2 with ⟨_, e2⟩ | ⟨g, cap, cur, e, hb, hg, h1, h2, h3, h4⟩
  · omega
  · refine ⟨g, cap, e, fun j u hu => ?_⟩
    have hj : j < l.length := by
      rcases Nat.lt_or_ge j l.length with h | h
      · exact h
      · rw [List.getElem?_eq_none (by simpa using h)] at hu; cases hu
    have := cell_head (l := l) hg (by simpa using h4) hj
    have e : (⟨g, 0, none⟩ : Addr).add j = ⟨g, j, none⟩ := by unfold Addr.add; split <;> simp_all
    rw [e, this]
    rw [List.getElem?_map, List.getElem?_eq_getElem hj] at hu
    simpa [hj] using hu
theorem bRow_base {W : World} {B C : Nat} {v : Value} {l : List Int} (h : BRow W B v l) (hC : C ≤ B) : BRow W C v l := by
  refine ⟨h.1, ?_⟩
  rcases h.2 with hn | ⟨g, cap, cur, rfl, hg, rest⟩
  · exact .inl hn
  · exact .inr ⟨g, cap, cur, rfl, Nat.le_trans hC hg, rest⟩
/-- Bytes are bytes. -/
theorem putU_byte : ∀ (u : Nat), ∀ x ∈ putU u, 0 ≤ x ∧ x ≤ 255 := by
  intro u
  induction u using Nat.strongRecOn with
  | _ u ih =>
    by_cases hu : u < 128
    · rw [putU_small hu]; intro x hx; simp at hx; omega
    · rw [putU_great hu]; intro x hx
      rcases List.mem_cons.1 hx with rfl | hx
      · omega
      · exact ih (u / 128) (by omega) x hx
theorem pay_bts (l : List Int) : Bts (pay l) := by
  intro x hx
  obtain ⟨n, _, h⟩ := List.mem_flatMap.1 hx
  exact putU_byte _ x h
theorem frH_bts {m : Int} {p : List Int} (hm : 0 ≤ m ∧ m ≤ 255) (hp : Bts p) : Bts (frH m p) := by
  intro x hx
  rw [frH, List.cons_append] at hx
  rcases List.mem_cons.1 hx with rfl | h
  · exact hm
  · rcases List.mem_append.1 h with h | h
    · exact putU_byte _ x h
    · exact hp x h
theorem frH_len {m : Int} {p : List Int} (hp : p.length ≤ 1000) : (frH m p).length ≤ 1011 := by
  have h1 := putU_len10 (zz p.length) (zz_lt _ (by omega) (by omega))
  rw [frH, List.cons_append, List.length_cons, List.length_append]; omega
end Go.Proofs.YtmeekcdoajbjdaaGreatDoor
namespace Go.Proofs.YtmeekcdoajbjdaaGreatDoor
open Go.RowKit

/-- A nil slice has no bytes and no room. -/
def NilOk (v : Value) : Prop := ∀ n c, v = .slice none n c → n = 0 ∧ c = 0
theorem nilOk_row {w : World} {a : Option Addr} {len cap : Nat} {zs : List Int}
    (h : (a = none ∧ len = 0 ∧ cap = 0 ∧ zs = []) ∨ ∃ x, a = some x ∧ len ≤ cap ∧ cap ≤ maxLen ∧ zs.length = cap ∧ (∀ i, i < zs.length → w.cell? (x.add i) = some (.int .u8 (zs.getD i 0))) ∧ ∀ n ∈ zs, (Lit.int .u8 n).wf = true) :
    NilOk (.slice a len cap) := by
  rcases h with ⟨rfl, rfl, rfl, rfl⟩ | ⟨x, rfl, _⟩
  · intro n c h; simp at h; omega
  · intro n c h; simp at h
theorem nilOk_own {B : Nat} {w : World} {v : Value} {l : List Int} (h : Own B w v l) : NilOk v := by
  obtain ⟨g, cap, rfl, _⟩ := h
  intro n c h; simp at h

theorem wpList_append_rd {P : Program} (w : World) {ops : Array Oper} {rest : List Oper} {o : Oper} {a : Act} {Q : Exit → Act → World → Prop} (hgd : o.guard = none) (s x : Operand) (t : TypeId)
    (ho : o.op = .call { callee := .builtin .append, args := #[s, x], argTypes := #[t, t] })
    (B : Nat) (e : TypeId) (i : TypeInfo) (ht : P.underlying t = some (.slice e)) (hi : P.info? e = some i) (hz : i.zero = some (.int .u8 0)) (hsize : i.size = 1) (hby : i.bytes = 1)
    (v : Value) (n : Nat) (xs : List Value) (hs : a.eval s = v) (hown : w.ownsRow B e 1 v n xs) (vx : Value) (l : List Int) (hx : a.eval x = vx) (hr : Rd w vx l) (hn : NilOk vx)
    (hb : n + l.length ≤ 1073741824) (hB : B ≤ w.heap.size)
    (h : ∀ v' w', w'.ownsRow B e 1 v' (n + l.length) (xs ++ l.map (Value.int .u8)) → w.grownBy w' v.ownBlock → wpList P ops Q rest (a.put o.dst v') w') : wpList P ops Q (o :: rest) a w := by
  obtain ⟨ao, cap, hv, hl, hc⟩ := hr
  cases ao with
  | none =>
    obtain ⟨h0, h1⟩ := hn _ _ hv
    have hl0 : l = [] := List.length_eq_zero_iff.1 h0
    subst hl0
    refine wpList_append_own_none hgd s x t ho B e i 1 ht hi v n xs hs hown (by rw [hx, hv, h1]; rfl) (h v w (by simpa using hown) (World.grownBy.refl _ _))
  | some ad =>
    refine wpList_append_own w hgd s x t ho B e i (.int .u8 0) 1 1 ht hi hz hsize hby rfl (by decide) v n xs hs hown ad l.length cap (l.map (Value.int .u8)) (by rw [hx, hv]) (by simp) (fun j u hj => ?_) (fun u hu => ?_)
      (by unfold maxLen; omega) (by omega) hB (fun v' w' h1 h2 _ => h v' w' h1 h2)
    · have hj' : j < l.length := by
        rcases Nat.lt_or_ge j l.length with h | h
        · exact h
        · rw [List.getElem?_eq_none (by simpa using h)] at hj; cases hj
      obtain ⟨b, off, e1, hcell⟩ := hc (by intro h; rw [h] at hj'; simp at hj')
      obtain rfl := Option.some.inj e1
      rw [List.getElem?_map, List.getElem?_eq_getElem hj'] at hj
      have e : (⟨b, off, none⟩ : Addr).add j = ⟨b, off + j, none⟩ := by unfold Addr.add; split <;> simp_all
      rw [e, hcell j hj']
      simpa [hj'] using hj
    · obtain ⟨y, _, rfl⟩ := List.mem_map.1 hu
      rfl
end Go.Proofs.YtmeekcdoajbjdaaGreatDoor
