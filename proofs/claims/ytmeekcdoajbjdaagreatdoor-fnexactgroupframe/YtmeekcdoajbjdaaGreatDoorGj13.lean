/-
  Events read field by field: pure parts; no function walked.
-/
import Derived.Test.YtmeekcdoajbjdaaGreatDoorGj01
import Derived.Test.YtmeekcdoajbjdaaGreatDoorGj11
import Derived.Test.YtmeekcdoajbjdaaGreatDoorGj12
import Derived.Lib.AppendStr
namespace Go.Proofs.YtmeekcdoajbjdaaGreatDoor
open Go.RowKit
set_option linter.unusedVariables false

/-- A cell of an event set. -/
def Ev.put (e : Ev) (o : Nat) (x : Value) : Ev := match o, x with
  | 1, .int _ z => { e with cmd := { e.cmd with k := z } }
  | 2, .int _ z => { e with cmd := { e.cmd with s := z } }
  | 3, .int _ z => { e with cmd := { e.cmd with t := z } }
  | 4, .int _ z => { e with cmd := { e.cmd with l := z } }
  | 5, .int _ z => { e with cmd := { e.cmd with q := z } }
  | 6, .int _ z => { e with cmd := { e.cmd with i := z } }
  | 7, .float _ p => { e with cmd := { e.cmd with p := p } }
  | 8, .string s => { e with cmd := { e.cmd with g := s } }
  | 9, .int _ z => { e with id := z }
  | 10, .int _ z => { e with other := z }
  | 11, .int _ z => { e with qty := z }
  | 12, .int _ z => { e with price := z }
  | 13, .int _ z => { e with reason := z }
  | _, _ => e
/-- The value is one of the cell's kind. -/
def TyO (o : Nat) (x : Value) : Prop := if o = 7 then ∃ p, x = .float .f64 p else if o = 8 then ∃ s, x = .string s else ∃ z, x = .int .i64 z
def EvO (o : Nat) : Prop := o = 7 ∨ o = 8 ∨ plcO o = true
theorem evs_put {o : Nat} {x : Value} (e : Ev) (ho : EvO o) (hx : TyO o x) : e.vs.set o x = (e.put o x).vs := by
  unfold EvO at ho
  unfold TyO at hx
  rcases (show o = 7 ∨ o = 8 ∨ o = 1 ∨ o = 2 ∨ o = 3 ∨ o = 4 ∨ o = 5 ∨ o = 6 ∨ o = 9 ∨ o = 10 ∨ o = 11 ∨ o = 12 ∨ o = 13 by simp [plcO] at ho; omega) with rfl | rfl | rfl | rfl | rfl | rfl | rfl | rfl | rfl | rfl | rfl | rfl | rfl
  all_goals
    obtain ⟨z, rfl⟩ := hx
    rfl
theorem rdF_ty {o k n : Nat} {l : List Int} {x : Value} (h : rdF o l k = some (x, n)) : TyO o x := by
  unfold rdF at h
  unfold TyO
  split at h
  · rw [if_pos ‹_›]
    obtain ⟨⟨a, b⟩, h1, h2⟩ := Option.map_eq_some_iff.1 h
    cases h2; exact ⟨_, rfl⟩
  · rw [if_neg ‹_›]
    split at h
    · rw [if_pos ‹_›]
      obtain ⟨⟨a, b⟩, h1, h2⟩ := Option.map_eq_some_iff.1 h
      cases h2; exact ⟨_, rfl⟩
    · rw [if_neg ‹_›]
      obtain ⟨⟨a, b⟩, h1, h2⟩ := Option.map_eq_some_iff.1 h
      cases h2; exact ⟨_, rfl⟩
/-- Fields read, one behind the other, into an event. -/
def rdEs : List Nat → Ev → List Int → Nat → Option (Ev × Nat)
  | [], e, _, k => some (e, k)
  | o :: os, e, l, k => match rdF o l k with | none => none | some (x, n) => rdEs os (e.put o x) l n
theorem rdEs_none {o k : Nat} {os : List Nat} {e : Ev} {l : List Int} (h : rdF o l k = none) : rdEs (o :: os) e l k = none := by rw [rdEs, h]
theorem rdEs_some {o k n : Nat} {os : List Nat} {e : Ev} {l : List Int} {x : Value} (h : rdF o l k = some (x, n)) : rdEs (o :: os) e l k = rdEs os (e.put o x) l n := by rw [rdEs, h]
/-- An event of a kind as it stands ahead of its fields. -/
def ev0 (k : Int) : Ev := ⟨k, ⟨shC k, 0, 0, 0, 0, 0, 0, ⟨#[]⟩⟩, 0, 0, 0, 0, 0⟩
/-- The event whose bytes begin at a place, and the place behind it. -/
def evA (l : List Int) (k : Nat) : Option (Ev × Nat) :=
  if l.length ≤ k then none else if shF (l.getD k 0) = [] then none else rdEs (shF (l.getD k 0)) (ev0 (l.getD k 0)) l (k + 1)
theorem evA_end {l : List Int} {k : Nat} (h : l.length ≤ k) : evA l k = none := if_pos h
theorem evA_no {l : List Int} {k : Nat} (h : k < l.length) (h1 : shF (l.getD k 0) = []) : evA l k = none := by unfold evA; rw [if_neg (by omega), if_pos h1]
theorem evA_yes {l : List Int} {k : Nat} (h : k < l.length) (h1 : shF (l.getD k 0) ≠ []) : evA l k = rdEs (shF (l.getD k 0)) (ev0 (l.getD k 0)) l (k + 1) := by unfold evA; rw [if_neg (by omega), if_neg h1]
theorem shF_evO (k : Int) : ∀ o ∈ shF k, EvO o := by
  intro o ho
  unfold shF at ho
  repeat' split at ho
  all_goals
    simp only [List.mem_cons, List.not_mem_nil, or_false] at ho
    try (rcases ho with rfl | rfl | rfl | rfl | rfl | rfl | rfl | rfl | rfl)
    try (rcases ho with rfl | rfl | rfl | rfl | rfl | rfl | rfl)
    try (rcases ho with rfl | rfl | rfl | rfl)
    try (rcases ho with rfl | rfl)
    try subst ho
    all_goals first | exact .inl rfl | exact .inr (.inl rfl) | exact .inr (.inr rfl) | exact ho.elim
theorem set14 (W : World) (b : Nat) (v0 v1 v2 v3 v4 v5 v6 v7 v8 v9 v10 v11 v12 v13 : Value) : ((((((((((((((W.setCell ⟨b, 0, none⟩ v0).setCell ⟨b, 1, none⟩ v1).setCell ⟨b, 2, none⟩ v2).setCell ⟨b, 3, none⟩ v3).setCell ⟨b, 4, none⟩ v4).setCell ⟨b, 5, none⟩ v5).setCell ⟨b, 6, none⟩ v6).setCell ⟨b, 7, none⟩ v7).setCell ⟨b, 8, none⟩ v8).setCell ⟨b, 9, none⟩ v9).setCell ⟨b, 10, none⟩ v10).setCell ⟨b, 11, none⟩ v11).setCell ⟨b, 12, none⟩ v12).setCell ⟨b, 13, none⟩ v13) = W.setCells b 0 [v0, v1, v2, v3, v4, v5, v6, v7, v8, v9, v10, v11, v12, v13] := by
  simp only [World.setCells]
theorem rdr_setCells {R b : Nat} {W : World} {v : Value} {n : Int} (us : List Value) (h : Rdr R W v n) (hb : R ≠ b) : Rdr R (W.setCells b 0 us) v n := by
  have hk := bx_heap b R hb us 0 W
  exact ⟨(World.cell?_of_block (a := ⟨R, 0, none⟩) hk).trans h.1, (World.cell?_of_block (a := ⟨R, 1, none⟩) hk).trans h.2, (World.frozen?_of_block (a := ⟨R, 1, none⟩) hk).trans h.3⟩
theorem gr_setCells {R b : Nat} {w W : World} (us : List Value) (h : w.grownBy W (some R)) (hb : w.heap.size ≤ b) : w.grownBy (W.setCells b 0 us) (some R) := by
  have h1 := below_setCells b (Nat.le_refl _) us 0 W (Below.refl b W)
  exact ⟨h1.os.trans h.os, h1.tape.trans h.tape, h1.output.trans h.output, Nat.le_trans h.size h1.size, fun i hi hR => by rw [bx_heap b i (by omega) us 0 W]; exact h.block i hi hR⟩
/-- How the reading of an event ends. -/
def EvEnd (R : Nat) (v : Value) (w : World) (r : Option (Ev × Nat)) (e : Ending) (w' : World) : Prop :=
  w.grownBy w' (some R) ∧ (∀ x n, r = some (x, n) → e = .returned (evV x) ∧ Rdr R w' v n) ∧ (r = none → ∃ p, e = .panicked (fault 3 p))
theorem evEnd_fail {R : Nat} {v : Value} {w w' : World} {r : Option (Ev × Nat)} (hg : w.grownBy w' (some R)) (hr : r = none) (p : Int) : EvEnd R v w r (.panicked (fault 3 p)) w' :=
  ⟨hg, (fun _ _ h => by rw [hr] at h; cases h), fun _ => ⟨p, rfl⟩⟩
theorem evEnd_done {R : Nat} {v : Value} {w w' : World} {r : Option (Ev × Nat)} {x : Ev} {n : Nat} (hg : w.grownBy w' (some R)) (hr : r = some (x, n)) (h : Rdr R w' v n) : EvEnd R v w r (.returned (evV x)) w' :=
  ⟨hg, (fun a b h' => by rw [hr] at h'; cases h'; exact ⟨rfl, h⟩), (fun h' => by rw [hr] at h'; cases h')⟩
theorem ffs_get {W : World} {B : Nat} : ∀ {os : List Nat} {fs : List Fc}, FFs W B os fs → os.length = fs.length ∧ ∀ (i : Nat) (c : Fc), fs[i]? = some c → ∃ o : Nat, os[i]? = some o ∧ FF W B o c
  | [], [], _ => ⟨rfl, fun i c h => by simp at h⟩
  | o :: os, c :: cs, h => by
    have ih := ffs_get h.2
    refine ⟨by simp [ih.1], fun i d hd => ?_⟩
    cases i with
    | zero => simp at hd; subst hd; exact ⟨o, rfl, h.1⟩
    | succ i => simpa using ih.2 i d (by simpa using hd)
  | [], c :: cs, h => h.elim
  | o :: os, [], h => h.elim
end Go.Proofs.YtmeekcdoajbjdaaGreatDoor
namespace Go.Proofs.YtmeekcdoajbjdaaGreatDoor
open Go.RowKit

/-- A text's bytes as numbers. -/
def bl (s : ByteArray) : List Int := s.data.toList.map fun b => (b.toNat : Int)
theorem bl_len (s : ByteArray) : (bl s).length = s.size := by simp [bl]
theorem bl_cells (s : ByteArray) : Lib.strCells s = (bl s).map (Value.int .u8) := by simp [Lib.strCells, bl]

theorem run_room_text {P : Program} (w : World) (t u ty e tb : TypeId) (i : TypeInfo) (ht : P.underlying t = some (.slice e)) (hu : P.underlying u = some .string) (hi : P.info? e = some i) (hs1 : i.size = 1)
    (g sLen sCap : Nat) (cur : Array Value) (hg : w.heap[g]? = some (.cells cur tb (0, 0))) (s : ByteArray) (hroom : sLen + s.size ≤ sCap) (hfit : sLen + s.size ≤ cur.size) :
    (Builtin.append_ #[t, u] ty #[.slice (some ⟨g, 0, none⟩) sLen sCap, .string s]).run P w =
      .ok (.slice (some ⟨g, 0, none⟩) (sLen + s.size) sCap) (w.setRow g (cur.toList.take sLen ++ Lib.strCells s ++ cur.toList.drop (sLen + s.size)).toArray) := by
  have hf := Lib.run_firstCells_string (P := P) w 1 s
  have hst := run_storeCells_at P g sLen tb (Lib.strCells s) 0 cur w hg (by simpa [Lib.strCells_length] using hfit) (Lib.strCells_oneCell s)
  simp only [Nat.add_zero, Lib.strCells_length] at hst
  simp [Builtin.append_, run_underlying ht, run_underlying hu, sizeOf, typeInfo, hi, hs1, Builtin.lenOf, hroom, hf, Addr.add_lit, hst]

theorem run_append_text {P : Program} (w : World) (B : Nat) (t u ty e : TypeId) (i : TypeInfo) (ht : P.underlying t = some (.slice e)) (hu : P.underlying u = some .string) (hi : P.info? e = some i)
    (hz : i.zero = some (.int .u8 0)) (hsize : i.size = 1) (hby : i.bytes = 1) (v : Value) (l : List Int) (hown : OwnT B w v l) (s : ByteArray) (hb : l.length + s.size ≤ 1073741824) (hB : B ≤ w.heap.size) :
    ∃ v' w', (Builtin.append_ #[t, u] ty #[v, .string s]).run P w = .ok v' w' ∧ OwnT B w' v' (l ++ bl s) ∧ w.grownBy w' v.ownBlock := by
  obtain ⟨g, cap, cur, tb, rfl, hbg, hg, hlc, hcs, hcm, hl, htake⟩ := hown
  have hlen : (l ++ bl s).length = l.length + s.size := by rw [List.length_append, bl_len]
  by_cases hroom : l.length + s.size ≤ cap
  · have hr := run_room_text (P := P) w t u ty e tb i ht hu hi hsize g l.length cap cur hg s hroom (by omega)
    refine ⟨_, _, hr, ⟨g, cap, _, tb, by rw [hlen], hbg, setRow_heap w g cur _ tb _ hg, by omega, ?_, hcm, by omega, ?_⟩, ⟨rfl, rfl, rfl, by simp, fun k _ hk => setRow_other w g k _ (fun e => hk (by simp [Value.ownBlock, e]))⟩⟩
    · simp only [List.size_toArray, List.length_append, List.length_take, List.length_drop, Array.length_toList, Lib.strCells_length]
      omega
    · rw [htake, bl_cells, ← List.map_append]
      exact List.take_left' (by simp)
  · have hr := Lib.run_append_grow_string (P := P) w t u ty e i (.int .u8 0) ht hu hi hz ⟨g, 0, none⟩ l.length cap (l.map (Value.int .u8)) (by rw [hsize]; simp)
      (fun j x hj => by
        have hj' : j < l.length := by
          rcases Nat.lt_or_ge j l.length with h | h
          · exact h
          · rw [List.getElem?_eq_none (by simpa using h)] at hj; cases hj
        have := cell_head hg htake hj'
        rw [List.getElem?_map, List.getElem?_eq_getElem hj'] at hj
        have e : (⟨g, 0, none⟩ : Addr).add j = ⟨g, j, none⟩ := by unfold Addr.add; split <;> simp_all
        rw [e, this]
        simpa [hj'] using hj) s (by omega) (by omega) (by rw [hby]; exact growslice_fits (by omega) (by omega))
    have hge := grownCap_ge w (l.length + s.size) cap e
    have hcm' : grownCap w (l.length + s.size) cap e ≤ maxLen := grownCap_le_maxLen w (l.length + s.size) cap e (by unfold maxLen; omega)
    refine ⟨_, _, hr, ⟨w.heap.size, _, _, e, by rw [hlen], hB, heap_alloc_new w.drew _, by omega, ?_, hcm', by omega, ?_⟩, ⟨rfl, rfl, rfl, by simp, fun k hk _ => Below.heap_alloc w.drew _ k hk⟩⟩
    · have hz1 : (Value.int IntKind.u8 0).cells.size = 1 := rfl
      simp only [Array.size_append, List.size_toArray, size_zeroCells, hz1, Lib.strCells_length, List.length_map]
      omega
    · simp only [Array.toList_append, bl_cells, ← List.map_append]
      exact List.take_left' (by simp)

theorem wpList_append_text {P : Program} (w : World) {ops : Array Oper} {rest : List Oper} {o : Oper} {a : Act} {Q : Exit → Act → World → Prop} (hgd : o.guard = none) (sl x : Operand) (t u : TypeId)
    (ho : o.op = .call { callee := .builtin .append, args := #[sl, x], argTypes := #[t, u] })
    (B : Nat) (e : TypeId) (i : TypeInfo) (ht : P.underlying t = some (.slice e)) (hu : P.underlying u = some .string) (hi : P.info? e = some i)
    (hz : i.zero = some (.int .u8 0)) (hsize : i.size = 1) (hby : i.bytes = 1) (v : Value) (l : List Int) (hs : a.eval sl = v) (hown : OwnT B w v l) (s : ByteArray) (hx : a.eval x = .string s)
    (hb : l.length + s.size ≤ 1073741824) (hB : B ≤ w.heap.size)
    (h : ∀ v' w', OwnT B w' v' (l ++ bl s) → w.grownBy w' v.ownBlock → wpList P ops Q rest (a.put o.dst v') w') : wpList P ops Q (o :: rest) a w := by
  refine wpList_plain hgd fun K hK => ?_
  obtain ⟨v', w', hr, h2, h3⟩ := run_append_text (P := P) w B t u o.type e i ht hu hi hz hsize hby v l hown s hb hB
  unfold Oper.wp execOp
  simp only [ho, resolve, invoke, builtin, Sem.run_bind, Sem.run_pure, Result.andThen_ok, List.map_toArray, List.map_cons, List.map_nil, hs, hx, hr]
  exact hK _ _ (h v' w' h2 h3)
end Go.Proofs.YtmeekcdoajbjdaaGreatDoor
namespace Go.Proofs.YtmeekcdoajbjdaaGreatDoor
open Go.RowKit

/-- A text cut to its first 13 bytes. -/
def cutB (s : ByteArray) : ByteArray := if 12 < s.size then s.extract 0 13 else s
theorem cutB_size (s : ByteArray) : (cutB s).size ≤ 13 := by
  unfold cutB; split
  · simp; omega
  · omega
theorem cutB_one (s : ByteArray) (h : s.size = 13) : cutB s = s := by
  unfold cutB; rw [if_pos (by omega), ← h]; exact ByteArray.extract_zero_size
theorem implCut_any (s : ByteArray) (w : World) (hs : s.size ≤ maxLen) :
    Calls Tryz.prog 99 #[.string s] w fun e w' => e = .returned (.string (cutB s)) ∧ w' = w := by
  unfold maxLen at hs
  by_cases h : 12 < s.size
  · have HF := hide (show cutB s = s.extract 0 13 from if_pos h)
    have h' : (12 : Int) < s.size := by omega
    go_enter Tryz.func99, Tryz.ntmps99
    go_wp2
    go_ret
    exact ⟨by rw [unhide HF]; rfl, rfl⟩
  · have HF := hide (show cutB s = s from if_neg h)
    have h' : (s.size : Int) ≤ 12 := by omega
    go_enter Tryz.func99, Tryz.ntmps99
    go_wp2
    go_ret
    exact ⟨by rw [unhide HF]; rfl, rfl⟩
end Go.Proofs.YtmeekcdoajbjdaaGreatDoor
