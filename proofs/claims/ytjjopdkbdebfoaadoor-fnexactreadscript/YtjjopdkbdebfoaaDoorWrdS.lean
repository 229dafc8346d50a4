/-
  The words of a line, as the model finds them: proved by walking the function. Rows of texts in memory.
-/
import Derived.Test.YtjjopdkbdebfoaaDoorWrdP
import Derived.Test.YtjjopdkbdebfoaaDoorRecB
import Derived.Laws.AppendOwnNone
import Derived.LoopN
namespace Go.Proofs.YtjjopdkbdebfoaaDoor
open Go.RowKit
set_option linter.unusedVariables false

theorem infoT : (Tryd.prog.info? 9).map (fun i => (i.zero, i.size, i.bytes)) = some (some (.string ByteArray.empty), 1, 16) := by kernel_rfl
theorem size_madeT (w : World) (o : Obj) : (w.alloc o).heap.size = w.heap.size + 1 := by simp
theorem cells_madeT (w : World) (cs : List Value) (t : TypeId) : (w.alloc (Obj.cells cs.toArray t)).rangeAt w.heap.size 0 cs := fun j u h => by
  rw [World.cell?_alloc_new]; simpa using h
theorem cellsT (w : World) (cs : List Value) (t : TypeId) (j : Nat) (u : Value) (h : cs[j]? = some u) : (w.alloc (Obj.cells cs.toArray t)).cell? ((⟨w.heap.size, 0, none⟩ : Addr).add j) = some u := by
  have := cells_madeT w cs t j u h
  rw [Addr.add_mid]; exact this
/-- A row of texts that the call made. -/
abbrev TRow (W : World) (B : Nat) (v : Value) (l : List ByteArray) : Prop := W.ownsRow B 9 1 v l.length (l.map Value.string)
/-- The bytes of texts. -/
def bys (l : List ByteArray) : List (List UInt8) := l.map (·.data.toList)
theorem bys_snoc (l : List ByteArray) (s : ByteArray) : bys (l ++ [s]) = bys l ++ [s.data.toList] := by simp [bys]
theorem drop_at (s : ByteArray) (i : Nat) (h : i < s.size) : s.data.toList.drop i = s[i] :: s.data.toList.drop (i + 1) := by
  rw [List.drop_eq_getElem_cons (by rw [data_len]; exact h)]; rfl
theorem cur_snoc (s : ByteArray) (a i : Nat) (ha : a ≤ i) (h : i < s.size) : (s.data.toList.drop a).take (i + 1 - a) = (s.data.toList.drop a).take (i - a) ++ [s[i]] := by
  have hl : i - a < (s.data.toList.drop a).length := by rw [List.length_drop, data_len]; omega
  rw [show i + 1 - a = (i - a) + 1 by omega, List.take_succ_eq_append_getElem hl, List.getElem_drop, get_nat s i h]
  congr 3
  omega
theorem cur_ne (s : ByteArray) (a i : Nat) (ha : a < i) (h : i ≤ s.size) : (s.data.toList.drop a).take (i - a) ≠ [] := fun e => by
  have := congrArg List.length e
  rw [List.length_take, List.length_drop, data_len, List.length_nil] at this
  omega

set_option maxRecDepth 100000 in
set_option maxHeartbeats 1600000 in
theorem specWords_any (s : ByteArray) (w : World) (hs : s.size ≤ 1048576) :
    Calls Tryd.prog 13 #[.string s] w fun e w' => ∃ v ws, e = .returned v ∧ TRow w' w.heap.size v ws ∧ bys ws = wds s.data.toList ∧ Below w.heap.size w w' := by
  obtain ⟨i0, hi0, hz0, hz1, hz2⟩ := info_parts infoT
  have HO0 := hide (World.ownsRow_made (base := w.heap.size) (e := 9) (size := 1) w #[] 0 (Nat.le_refl _) (by decide) rfl)
  have HB0 : Hid (Below w.heap.size w (w.alloc (Obj.cells #[] 9))) := (Below.refl _ _).alloc (Nat.le_refl _) _
  go_enter Tryd.func13, Tryd.ntmps13
  go_wp2_with fail
  go_loopw [3, 4, 5] (fun ov fv iv wr => ∃ (i a : Nat) (out : List ByteArray), iv = .int .i64 i ∧ fv = .int .i64 a ∧ out.length ≤ i ∧ i ≤ s.size + 1 ∧ Hid ((i ≤ s.size ∧ a ≤ i ∧ wds s.data.toList = bys out ++ goW 32 ((s.data.toList.drop a).take (i - a)) (s.data.toList.drop i)) ∨ (i = s.size + 1 ∧ wds s.data.toList = bys out)) ∧ TRow wr w.heap.size ov out ∧ Below w.heap.size w wr) (fun _ _ iv _ => s.size + 1 - (intOf iv).toNat)
  case atStart => exact ⟨0, 0, [], rfl, rfl, Nat.le_refl _, Nat.zero_le _, .inl ⟨Nat.zero_le _, Nat.le_refl _, rfl⟩, unhide HO0, unhide HB0⟩
  case round =>
    obtain ⟨i, a, out, rfl, rfl, hol, hil, hpl, hown, hbel⟩ := hrel
    have HB := hide hbel
    have HO := hide hown
    have hsz := hbel.size
    clear hbel hown HO0 HB0
    rcases unhide hpl with ⟨hi, ha, he⟩ | ⟨hi, he⟩
    · have hle : (i : Int) ≤ s.size := by omega
      by_cases hlt : i < s.size
      · have hne : ((i : Int) == (s.size : Int)) = false := by simp; omega
        have hlt' : (i : Int) < s.size := by omega
        rw [drop_at s i hlt] at he
        by_cases hb : s[i] = 32
        · have hb' : ((s[i].toNat : Int) == 32) = true := by rw [hb]; rfl
          rcases Nat.eq_or_lt_of_le ha with rfl | hai
          · have HE : Hid (wds s.data.toList = bys out ++ goW 32 ((s.data.toList.drop (a + 1)).take (a + 1 - (a + 1))) (s.data.toList.drop (a + 1))) := by
              show _ = _
              rw [he, goW, if_pos hb, Nat.sub_self, List.take_zero, if_pos rfl, Nat.sub_self, List.take_zero]
            clear he hb hpl
            go_wp2_with fail
            go_roundw
            case rel => exact ⟨a + 1, a + 1, out, by go_num, by go_num, by omega, by omega, .inl ⟨by omega, by omega, unhide HE⟩, unhide HO, unhide HB⟩
            case measure => simp [intOf]; omega
          · have HE : Hid (wds s.data.toList = bys (out ++ [s.extract a i]) ++ goW 32 ((s.data.toList.drop (i + 1)).take (i + 1 - (i + 1))) (s.data.toList.drop (i + 1))) := by
              show _ = _
              rw [he, goW, if_pos hb, if_neg (cur_ne s a i hai (by omega)), Nat.sub_self, List.take_zero, bys_snoc, Lib.extract_data, List.append_assoc]
              rfl
            have hai' : (a : Int) < i := by omega
            have hai2 : (a : Int) ≤ i := by omega
            clear he hb hpl
            go_wp2_with (at_builtin; go_must (refine wpList_append_own _ rfl _ _ 34 rfl w.heap.size 9 i0 _ 1 16 Tryd.underlying34 hi0 hz0 hz1 hz2 rfl (by decide) _ out.length (out.map Value.string) rfl ((unhide HO).alloc _) ⟨wr.heap.size, 0, none⟩ 1 1 [.string (s.extract a i)] rfl rfl (cellsT wr _ _) (by simp [Value.oneCell']) (by unfold maxLen; omega) (by omega) (by simp; omega) ?_); intro v4 w4 hown4 hg4 _; have HO4 := hide hown4; have HB4 := hide (((unhide HB).alloc hsz _).grown hg4 (by rw [size_madeT]; omega) (fun k hk => ((unhide HO).lt k hk).1)); clear hown4 hg4)
            go_roundw
            case rel => exact ⟨i + 1, i + 1, out ++ [s.extract a i], by go_num, by go_num, by simp; omega, by omega, .inl ⟨by omega, by omega, unhide HE⟩, by show World.ownsRow _ _ _ _ _ _ _; simpa using unhide HO4, unhide HB4⟩
            case measure => simp [intOf]; omega
        · have hb' : ((s[i].toNat : Int) == 32) = false := by
            simp only [beq_eq_false_iff_ne, ne_eq]
            intro h
            exact hb (UInt8.toNat_inj.1 (by show _ = 32; omega))
          have HE : Hid (wds s.data.toList = bys out ++ goW 32 ((s.data.toList.drop a).take (i + 1 - a)) (s.data.toList.drop (i + 1))) := by
            show _ = _
            rw [he, goW, if_neg hb, cur_snoc s a i ha hlt]
          clear he hb hpl
          go_wp2_with fail
          go_roundw
          case rel => exact ⟨i + 1, a, out, by go_num, rfl, by omega, by omega, .inl ⟨by omega, by omega, unhide HE⟩, unhide HO, unhide HB⟩
          case measure => simp [intOf]; omega
      · obtain rfl : i = s.size := by omega
        have hee : (((s.size : Nat) : Int) == ((s.size : Nat) : Int)) = true := by simp
        rw [List.drop_of_length_le (i := s.size) (l := s.data.toList) (by rw [data_len]; omega), goW] at he
        rcases Nat.eq_or_lt_of_le ha with rfl | hai
        · have HE : Hid (wds s.data.toList = bys out) := by
            show _ = _
            rw [he, Nat.sub_self, List.take_zero, if_pos rfl, List.append_nil]
          clear he hpl
          go_wp2_with fail
          go_roundw
          case rel => exact ⟨s.size + 1, s.size + 1, out, by go_num, by go_num, by omega, by omega, .inr ⟨rfl, unhide HE⟩, unhide HO, unhide HB⟩
          case measure => simp [intOf]
        · have HE : Hid (wds s.data.toList = bys (out ++ [s.extract a s.size])) := by
            show _ = _
            rw [he, if_neg (cur_ne s a s.size hai (Nat.le_refl _)), bys_snoc, Lib.extract_data]
          have hai' : (a : Int) < s.size := by omega
          have hai2 : (a : Int) ≤ s.size := by omega
          clear he hpl
          go_wp2_with (at_builtin; go_must (refine wpList_append_own _ rfl _ _ 34 rfl w.heap.size 9 i0 _ 1 16 Tryd.underlying34 hi0 hz0 hz1 hz2 rfl (by decide) _ out.length (out.map Value.string) rfl ((unhide HO).alloc _) ⟨wr.heap.size, 0, none⟩ 1 1 [.string (s.extract a s.size)] rfl rfl (cellsT wr _ _) (by simp [Value.oneCell']) (by unfold maxLen; omega) (by omega) (by simp; omega) ?_); intro v4 w4 hown4 hg4 _; have HO4 := hide hown4; have HB4 := hide (((unhide HB).alloc hsz _).grown hg4 (by rw [size_madeT]; omega) (fun k hk => ((unhide HO).lt k hk).1)); clear hown4 hg4)
          go_roundw
          case rel => exact ⟨s.size + 1, s.size + 1, out ++ [s.extract a s.size], by go_num, by go_num, by simp; omega, by omega, .inr ⟨rfl, unhide HE⟩, by show World.ownsRow _ _ _ _ _ _ _; simpa using unhide HO4, unhide HB4⟩
          case measure => simp [intOf]
    · have hgt : ¬ ((i : Int) ≤ s.size) := by omega
      have HE := hide he
      clear he hpl
      go_wp2_with fail
      go_ret
      exact ⟨_, rfl, out, unhide HO, (unhide HE).symm, unhide HB⟩
end Go.Proofs.YtjjopdkbdebfoaaDoor
