/-
  Appending a row of bytes that may be read (nil, empty or not) to a row that the call made: the law for the walk.
-/
import Derived.Test.YtglcppjfbkbbpaaOwnB
import Derived.Laws.AppendOwnNone
namespace Go.Proofs.Ytglcppjfbkbbpaa
open Go.RowKit

/-- A nil slice has no bytes and no room. -/
def NilOk (v : Value) : Prop := ∀ n c, v = .slice none n c → n = 0 ∧ c = 0
theorem nilOk_row {w : World} {a : Option Addr} {len cap : Nat} {zs : List Int}
    (h : (a = none ∧ len = 0 ∧ cap = 0 ∧ zs = []) ∨ ∃ x, a = some x ∧ len ≤ cap ∧ cap ≤ maxLen ∧ zs.length = cap ∧ (∀ i, i < zs.length → w.cell? (x.add i) = some (.int .u8 (zs.getD i 0))) ∧ ∀ n ∈ zs, (Lit.int .u8 n).wf = true) :
    NilOk (.slice a len cap) := by
  rcases h with ⟨rfl, rfl, rfl, rfl⟩ | ⟨x, rfl, _⟩
  · intro n c h; simp at h; omega
  · intro n c h; simp at h
theorem nilOk_own {B : Nat} {w : World} {v : Value} {l : List Int} (h : Own B w v l) : NilOk v := by
  obtain ⟨g, cap, rfl, _⟩ := h
  intro n c h; simp at h

theorem wpList_append_rd {P : Program} (w : World) {ops : Array Oper} {rest : List Oper} {o : Oper} {a : Act} {Q : Exit → Act → World → Prop} (hgd : o.guard = none) (s x : Operand) (t : TypeId)
    (ho : o.op = .call { callee := .builtin .append, args := #[s, x], argTypes := #[t, t] })
    (B : Nat) (e : TypeId) (i : TypeInfo) (ht : P.underlying t = some (.slice e)) (hi : P.info? e = some i) (hz : i.zero = some (.int .u8 0)) (hsize : i.size = 1) (hby : i.bytes = 1)
    (v : Value) (n : Nat) (xs : List Value) (hs : a.eval s = v) (hown : w.ownsRow B e 1 v n xs) (vx : Value) (l : List Int) (hx : a.eval x = vx) (hr : Rd w vx l) (hn : NilOk vx)
    (hb : n + l.length ≤ 1073741824) (hB : B ≤ w.heap.size)
    (h : ∀ v' w', w'.ownsRow B e 1 v' (n + l.length) (xs ++ l.map (Value.int .u8)) → w.grownBy w' v.ownBlock → wpList P ops Q rest (a.put o.dst v') w') : wpList P ops Q (o :: rest) a w := by
  obtain ⟨ao, cap, hv, hl, hc⟩ := hr
  cases ao with
  | none =>
    obtain ⟨h0, h1⟩ := hn _ _ hv
    have hl0 : l = [] := List.length_eq_zero_iff.1 h0
    subst hl0
    refine wpList_append_own_none hgd s x t ho B e i 1 ht hi v n xs hs hown (by rw [hx, hv, h1]; rfl) (h v w (by simpa using hown) (World.grownBy.refl _ _))
  | some ad =>
    refine wpList_append_own w hgd s x t ho B e i (.int .u8 0) 1 1 ht hi hz hsize hby rfl (by decide) v n xs hs hown ad l.length cap (l.map (Value.int .u8)) (by rw [hx, hv]) (by simp) (fun j u hj => ?_) (fun u hu => ?_)
      (by unfold maxLen; omega) (by omega) hB (fun v' w' h1 h2 _ => h v' w' h1 h2)
    · have hj' : j < l.length := by
        rcases Nat.lt_or_ge j l.length with h | h
        · exact h
        · rw [List.getElem?_eq_none (by simpa using h)] at hj; cases hj
      obtain ⟨b, off, e1, hcell⟩ := hc (by intro h; rw [h] at hj'; simp at hj')
      obtain rfl := Option.some.inj e1
      rw [List.getElem?_map, List.getElem?_eq_getElem hj'] at hj
      have e : (⟨b, off, none⟩ : Addr).add j = ⟨b, off + j, none⟩ := by unfold Addr.add; split <;> simp_all
      rw [e, hcell j hj']
      simpa [hj'] using hj
    · obtain ⟨y, _, rfl⟩ := List.mem_map.1 hu
      rfl
end Go.Proofs.Ytglcppjfbkbbpaa
