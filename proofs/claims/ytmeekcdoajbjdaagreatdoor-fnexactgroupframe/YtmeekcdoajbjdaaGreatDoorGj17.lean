/-
  Rows of bytes that the call made, nil or not: what they are behind an append, and where they lie.
-/
import Derived.Test.YtmeekcdoajbjdaaGreatDoorGj01
import Derived.Maps.AppendAt
namespace Go.Proofs.YtmeekcdoajbjdaaGreatDoor
open Go.RowKit
set_option linter.unusedVariables false

abbrev BRow (W : World) (B : Nat) (v : Value) (l : List Int) : Prop := W.ownsRow B 5 1 v l.length (l.map (Value.int .u8))
theorem bRow_below {W W' : World} {B : Nat} {v : Value} {l : List Int} (h : BRow W B v l) (hb : Below W.heap.size W W') : BRow W' B v l :=
  World.ownsRow.kept h (row := none) ⟨hb.os, hb.tape, hb.output, hb.size, fun k hk _ => hb.block k hk⟩ (by cases v.ownBlock <;> simp)
theorem bRow_more {W : World} {B : Nat} {v : Value} {l m : List Int} (h : W.ownsRow B 5 1 v (l.length + m.length) (l.map (Value.int .u8) ++ m.map (Value.int .u8))) : BRow W B v (l ++ m) := by
  show W.ownsRow _ _ _ _ (l ++ m).length _
  rw [List.length_append, List.map_append]; exact h
theorem bRow_own {W : World} {B : Nat} {v : Value} {l : List Int} (h : BRow W B v l) (hne : 0 < l.length) (hl : l.length ≤ 1073741824) : OwnT B W v l := ownT_row hne hl h
/-- A row of bytes appended to a row that the call made: what comes of it, and where it lies. -/
theorem wpList_append_ot {P : Program} (w : World) {ops : Array Oper} {rest : List Oper} {o : Oper} {a : Act} {Q : Exit → Act → World → Prop} (hgd : o.guard = none) (s x : Operand) (t : TypeId)
    (ho : o.op = .call { callee := .builtin .append, args := #[s, x], argTypes := #[t, t] })
    (B : Nat) (i : TypeInfo) (ht : P.underlying t = some (.slice 5)) (hi : P.info? 5 = some i) (hz : i.zero = some (.int .u8 0)) (hsize : i.size = 1) (hby : i.bytes = 1)
    (v : Value) (l : List Int) (hs : a.eval s = v) (hown : BRow w B v l) (C : Nat) (vx : Value) (m : List Int) (hx : a.eval x = vx) (hr : OwnT C w vx m)
    (hb : l.length + m.length ≤ 1073741824) (hB : B ≤ w.heap.size)
    (h : ∀ v' w', BRow w' B v' (l ++ m) → w.grownBy w' v.ownBlock → (v'.ownBlock = v.ownBlock ∨ v'.ownBlock = some w.heap.size) → wpList P ops Q rest (a.put o.dst v') w') : wpList P ops Q (o :: rest) a w := by
  obtain ⟨g, cap, cur, tt, rfl, _, hg, _, _, _, hl, htk⟩ := hr
  refine wpList_append_own_at w hgd s x t ho B 5 i (.int .u8 0) 1 1 ht hi hz hsize hby rfl (by decide) v l.length (l.map (Value.int .u8)) hs hown ⟨g, 0, none⟩ m.length cap (m.map (Value.int .u8)) hx (by simp) (fun j u hj => ?_) (fun u hu => ?_)
    (by unfold maxLen; omega) (by omega) hB (fun v' w' h1 h2 _ h4 => h v' w' (bRow_more h1) h2 h4)
  · have hj' : j < m.length := by
      rcases Nat.lt_or_ge j m.length with h | h
      · exact h
      · rw [List.getElem?_eq_none (by simpa using h)] at hj; cases hj
    rw [List.getElem?_map, List.getElem?_eq_getElem hj'] at hj
    have e : (⟨g, 0, none⟩ : Addr).add j = ⟨g, j, none⟩ := by unfold Addr.add; split <;> simp_all
    rw [e, cell_head hg htk hj']
    simpa [hj'] using hj
  · obtain ⟨y, _, rfl⟩ := List.mem_map.1 hu
    rfl
end Go.Proofs.YtmeekcdoajbjdaaGreatDoor
