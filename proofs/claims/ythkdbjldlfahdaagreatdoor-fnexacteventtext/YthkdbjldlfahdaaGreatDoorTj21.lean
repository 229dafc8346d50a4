/-
  Appending a text's bytes to a row that the call made, whatever block the row lies in: the law for the walk.
-/
import Derived.Test.YthkdbjldlfahdaaGreatDoorTj01
import Derived.Test.YthkdbjldlfahdaaGreatDoorTj02
import Derived.Lib.AppendStr
namespace Go.Proofs.YthkdbjldlfahdaaGreatDoor
open Go.RowKit

/-- A text's bytes as numbers. -/
def bl (s : ByteArray) : List Int := s.data.toList.map fun b => (b.toNat : Int)
theorem bl_len (s : ByteArray) : (bl s).length = s.size := by simp [bl]
theorem bl_cells (s : ByteArray) : Lib.strCells s = (bl s).map (Value.int .u8) := by simp [Lib.strCells, bl]

theorem run_room_text {P : Program} (w : World) (t u ty e tb : TypeId) (i : TypeInfo) (ht : P.underlying t = some (.slice e)) (hu : P.underlying u = some .string) (hi : P.info? e = some i) (hs1 : i.size = 1)
    (g sLen sCap : Nat) (cur : Array Value) (hg : w.heap[g]? = some (.cells cur tb (0, 0))) (s : ByteArray) (hroom : sLen + s.size ≤ sCap) (hfit : sLen + s.size ≤ cur.size) :
    (Builtin.append_ #[t, u] ty #[.slice (some ⟨g, 0, none⟩) sLen sCap, .string s]).run P w =
      .ok (.slice (some ⟨g, 0, none⟩) (sLen + s.size) sCap) (w.setRow g (cur.toList.take sLen ++ Lib.strCells s ++ cur.toList.drop (sLen + s.size)).toArray) := by
  have hf := Lib.run_firstCells_string (P := P) w 1 s
  have hst := run_storeCells_at P g sLen tb (Lib.strCells s) 0 cur w hg (by simpa [Lib.strCells_length] using hfit) (Lib.strCells_oneCell s)
  simp only [Nat.add_zero, Lib.strCells_length] at hst
  simp [Builtin.append_, run_underlying ht, run_underlying hu, sizeOf, typeInfo, hi, hs1, Builtin.lenOf, hroom, hf, Addr.add_lit, hst]

theorem run_append_text {P : Program} (w : World) (B : Nat) (t u ty e : TypeId) (i : TypeInfo) (ht : P.underlying t = some (.slice e)) (hu : P.underlying u = some .string) (hi : P.info? e = some i)
    (hz : i.zero = some (.int .u8 0)) (hsize : i.size = 1) (hby : i.bytes = 1) (v : Value) (l : List Int) (hown : OwnT B w v l) (s : ByteArray) (hb : l.length + s.size ≤ 1073741824) (hB : B ≤ w.heap.size) :
    ∃ v' w', (Builtin.append_ #[t, u] ty #[v, .string s]).run P w = .ok v' w' ∧ OwnT B w' v' (l ++ bl s) ∧ w.grownBy w' v.ownBlock := by
  obtain ⟨g, cap, cur, tb, rfl, hbg, hg, hlc, hcs, hcm, hl, htake⟩ := hown
  have hlen : (l ++ bl s).length = l.length + s.size := by rw [List.length_append, bl_len]
  by_cases hroom : l.length + s.size ≤ cap
  · have hr := run_room_text (P := P) w t u ty e tb i ht hu hi hsize g l.length cap cur hg s hroom (by omega)
    refine ⟨_, _, hr, ⟨g, cap, _, tb, by rw [hlen], hbg, setRow_heap w g cur _ tb _ hg, by omega, ?_, hcm, by omega, ?_⟩, ⟨rfl, rfl, rfl, by simp, fun k _ hk => setRow_other w g k _ (fun e => hk (by simp [Value.ownBlock, e]))⟩⟩
    · simp only [List.size_toArray, List.length_append, List.length_take, List.length_drop, Array.length_toList, Lib.strCells_length]
      omega
    · rw [htake, bl_cells, ← List.map_append]
      exact List.take_left' (by simp)
  · have hr := Lib.run_append_grow_string (P := P) w t u ty e i (.int .u8 0) ht hu hi hz ⟨g, 0, none⟩ l.length cap (l.map (Value.int .u8)) (by rw [hsize]; simp)
      (fun j x hj => by
        have hj' : j < l.length := by
          rcases Nat.lt_or_ge j l.length with h | h
          · exact h
          · rw [List.getElem?_eq_none (by simpa using h)] at hj; cases hj
        have := cell_head hg htake hj'
        rw [List.getElem?_map, List.getElem?_eq_getElem hj'] at hj
        have e : (⟨g, 0, none⟩ : Addr).add j = ⟨g, j, none⟩ := by unfold Addr.add; split <;> simp_all
        rw [e, this]
        simpa [hj'] using hj) s (by omega) (by omega) (by rw [hby]; exact growslice_fits (by omega) (by omega))
    have hge := grownCap_ge w (l.length + s.size) cap e
    have hcm' : grownCap w (l.length + s.size) cap e ≤ maxLen := grownCap_le_maxLen w (l.length + s.size) cap e (by unfold maxLen; omega)
    refine ⟨_, _, hr, ⟨w.heap.size, _, _, e, by rw [hlen], hB, heap_alloc_new w.drew _, by omega, ?_, hcm', by omega, ?_⟩, ⟨rfl, rfl, rfl, by simp, fun k hk _ => Below.heap_alloc w.drew _ k hk⟩⟩
    · have hz1 : (Value.int IntKind.u8 0).cells.size = 1 := rfl
      simp only [Array.size_append, List.size_toArray, size_zeroCells, hz1, Lib.strCells_length, List.length_map]
      omega
    · simp only [Array.toList_append, bl_cells, ← List.map_append]
      exact List.take_left' (by simp)

theorem wpList_append_text {P : Program} (w : World) {ops : Array Oper} {rest : List Oper} {o : Oper} {a : Act} {Q : Exit → Act → World → Prop} (hgd : o.guard = none) (sl x : Operand) (t u : TypeId)
    (ho : o.op = .call { callee := .builtin .append, args := #[sl, x], argTypes := #[t, u] })
    (B : Nat) (e : TypeId) (i : TypeInfo) (ht : P.underlying t = some (.slice e)) (hu : P.underlying u = some .string) (hi : P.info? e = some i)
    (hz : i.zero = some (.int .u8 0)) (hsize : i.size = 1) (hby : i.bytes = 1) (v : Value) (l : List Int) (hs : a.eval sl = v) (hown : OwnT B w v l) (s : ByteArray) (hx : a.eval x = .string s)
    (hb : l.length + s.size ≤ 1073741824) (hB : B ≤ w.heap.size)
    (h : ∀ v' w', OwnT B w' v' (l ++ bl s) → w.grownBy w' v.ownBlock → wpList P ops Q rest (a.put o.dst v') w') : wpList P ops Q (o :: rest) a w := by
  refine wpList_plain hgd fun K hK => ?_
  obtain ⟨v', w', hr, h2, h3⟩ := run_append_text (P := P) w B t u o.type e i ht hu hi hz hsize hby v l hown s hb hB
  unfold Oper.wp execOp
  simp only [ho, resolve, invoke, builtin, Sem.run_bind, Sem.run_pure, Result.andThen_ok, List.map_toArray, List.map_cons, List.map_nil, hs, hx, hr]
  exact hK _ _ (h v' w' h2 h3)
end Go.Proofs.YthkdbjldlfahdaaGreatDoor
namespace Go.Proofs.YthkdbjldlfahdaaGreatDoor
open Go.RowKit

/-- A text cut to its first 13 bytes. -/
def cutB (s : ByteArray) : ByteArray := if 12 < s.size then s.extract 0 13 else s
theorem cutB_size (s : ByteArray) : (cutB s).size ≤ 13 := by
  unfold cutB; split
  · simp; omega
  · omega
theorem cutB_one (s : ByteArray) (h : s.size = 13) : cutB s = s := by
  unfold cutB; rw [if_pos (by omega), ← h]; exact ByteArray.extract_zero_size
theorem implCut_any (s : ByteArray) (w : World) (hs : s.size ≤ maxLen) :
    Calls Tryz.prog 82 #[.string s] w fun e w' => e = .returned (.string (cutB s)) ∧ w' = w := by
  unfold maxLen at hs
  by_cases h : 12 < s.size
  · have HF := hide (show cutB s = s.extract 0 13 from if_pos h)
    have h' : (12 : Int) < s.size := by omega
    go_enter Tryz.func82, Tryz.ntmps82
    go_wp2
    go_ret
    exact ⟨by rw [unhide HF]; rfl, rfl⟩
  · have HF := hide (show cutB s = s from if_neg h)
    have h' : (s.size : Int) ≤ 12 := by omega
    go_enter Tryz.func82, Tryz.ntmps82
    go_wp2
    go_ret
    exact ⟨by rw [unhide HF]; rfl, rfl⟩
end Go.Proofs.YthkdbjldlfahdaaGreatDoor
