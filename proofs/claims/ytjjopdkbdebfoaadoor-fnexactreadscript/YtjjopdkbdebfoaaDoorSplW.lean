/-
  Of Go's library, at a text of one byte: where it stands in a text, how often, and the pieces between: proved by walking the functions.
-/
import Derived.Test.YtjjopdkbdebfoaaDoorWrdS
import Derived.Laws.MakeOwn
namespace Go.Proofs.YtjjopdkbdebfoaaDoor
open Go.RowKit
set_option linter.unusedVariables false

set_option maxRecDepth 100000 in
set_option maxHeartbeats 1000000 in
theorem idxByte_any (s : ByteArray) (c : UInt8) (w : World) :
    Calls Tryd.prog 54 #[.string s, .int .u8 (c.toNat : Int)] w fun e w' => e = .returned (.int .i64 (Lib.indexByte s.data.toList c)) ∧ w' = w := by
  have hc : ((c.toNat : Int).toNat).toUInt8 = c := by simp
  go_enter Tryd.func54, Tryd.ntmps54
  go_wp2
  rw [run_callFunc_extern Tryd.func61 (by kernel_rfl) (by kernel_rfl) (by kernel_rfl) (e := Extern.BytealgIndexByte.indexByte) (by kernel_rfl), Lib.run_indexByteString, hc]
  simp only [Result.andThen]
  rw [Oper.upon_value]
  go_wp2
  go_ret
  exact ⟨rfl, rfl⟩

set_option maxRecDepth 100000 in
set_option maxHeartbeats 2000000 in
theorem index1_any (s : ByteArray) (c : UInt8) (w : World) :
    Calls Tryd.prog 47 #[.string s, .string ⟨#[c]⟩] w fun e w' => e = .returned (.int .i64 (Lib.indexByte s.data.toList c)) ∧ w' = w := by
  have HI := hide (fun W => idxByte_any s c W)
  go_enter Tryd.func47, Tryd.ntmps47
  go_wp2_with (go_at_call 54; refine (unhide HI _).mono ?_; rintro e w' ⟨rfl, rfl⟩)
  · have h : ([c] == s.toList) = true := by assumption
    go_ret
    refine ⟨?_, rfl⟩
    have e : s.data.toList = [c] := by rw [← Lib.toList_data]; exact (beq_iff_eq.1 h).symm
    rw [e]
    simp [Lib.indexByte]
  · go_ret
    exact ⟨rfl, rfl⟩
set_option maxRecDepth 100000 in
theorem strIndex_any (s : ByteArray) (c : UInt8) (w : World) :
    Calls Tryd.prog 46 #[.string s, .string ⟨#[c]⟩] w fun e w' => e = .returned (.int .i64 (Lib.indexByte s.data.toList c)) ∧ w' = w := by
  have HI := hide (fun W => index1_any s c W)
  go_enter Tryd.func46, Tryd.ntmps46
  go_wp2_with (go_at_call 47; refine (unhide HI _).mono ?_; rintro e w' ⟨rfl, rfl⟩)
  go_ret
  exact ⟨rfl, rfl⟩
set_option maxRecDepth 100000 in
set_option maxHeartbeats 1000000 in
theorem strCount_any (s : ByteArray) (c : UInt8) (w : World) :
    Calls Tryd.prog 45 #[.string s, .string ⟨#[c]⟩] w fun e w' => e = .returned (.int .i64 (s.data.toList.count c : Nat)) ∧ w' = w := by
  have hc : ((c.toNat : Int).toNat).toUInt8 = c := by simp
  go_enter Tryd.func45, Tryd.ntmps45
  go_wp2
  rw [run_callFunc_extern Tryd.func53 (by kernel_rfl) (by kernel_rfl) (by kernel_rfl) (e := Extern.BytealgCount.count) (by kernel_rfl), Lib.run_countString]
  simp only [Result.andThen]
  rw [Oper.upon_value]
  go_wp2
  go_ret
  exact ⟨by simp [Lib.countByte]; rfl, rfl⟩

/-- A text in its one cell. -/
def tx1 (s : ByteArray) : List Value := [.string s]
theorem tx1_len (s : ByteArray) : (tx1 s).length = 1 := rfl
theorem thereT1 {W : World} {B k : Nat} (h : W.there B (k * 1) 1) : ∃ u, W.cell? ⟨B, k, none⟩ = some u ∧ W.frozen? ⟨B, k, none⟩ = false := by
  have h1 := h 0 (by omega)
  rw [Nat.mul_one, Nat.add_zero] at h1
  obtain ⟨u, hu⟩ := Option.isSome_iff_exists.1 h1.1
  exact ⟨u, hu, h1.2⟩

set_option maxRecDepth 100000 in
set_option maxHeartbeats 2000000 in
theorem genSplit_any (s : ByteArray) (c : UInt8) (w : World) (hs : s.size ≤ 1048576) :
    Calls Tryd.prog 36 #[.string s, .string ⟨#[c]⟩, .int .i64 0, .int .i64 (-1)] w fun e w' => ∃ v l, e = .returned v ∧ OwnR tx1 1 w.heap.size w' v l ∧ bys l = pcs c s.data.toList ∧ Below w.heap.size w w' := by
  obtain ⟨i0, hi, hz0, hz1, hz2⟩ := info_parts infoT
  have HCT := hide (fun W => strCount_any s c W)
  have HIX := hide (fun r W => strIndex_any r c W)
  have hcl : s.data.toList.count c ≤ s.size := by rw [← data_len]; exact List.count_le_length
  generalize hN : s.data.toList.count c = N at HCT hcl
  have HN := hide hN
  clear hN
  have hmin : ∀ W, (Builtin.min_ #[3, 3] 3 #[.int .i64 ((N : Int) + 1), .int .i64 ((s.size : Int) + 1)]).run Tryd.prog W = .ok (.int .i64 ((N : Int) + 1)) W := fun W => by
    have hle : (N : Int) + 1 ≤ (s.size : Int) + 1 := by omega
    go_simp
    omega
  go_enter Tryd.func36, Tryd.ntmps36
  go_wp2_with first
    | (go_at_call 45; refine (unhide HCT _).mono ?_; rintro e w' ⟨rfl, rfl⟩)
    | (at_make; go_must (refine wpList_make_full _ rfl _ _ 34 rfl w'.heap.size 9 i0 _ 1 Tryd.underlying34 hi hz0 hz1 _ _ _ _ (N + 1) rfl rfl rfl rfl (by rw [hz2]; omega) (by unfold maxLen; omega) (Nat.le_refl _) ?_); intro w1 hown hgrow)
  have HA := hide (fill_made (f := tx1) hown hgrow)
  clear hown hgrow hi hz0 hz1 hz2 hmin HCT
  go_loopw [0, 10] (fun sv iv wr => ∃ (r : ByteArray) (done : List ByteArray) (k : Nat), sv = .string r ∧ iv = .int .i64 k ∧ Hid (k = done.length) ∧ k ≤ N ∧ r.size ≤ s.size ∧ Hid (pcs c s.data.toList = bys done ++ pcs c r.data.toList ∧ r.data.toList.count c + k = N) ∧ FillR tx1 1 (N + 1) w'.heap.size w' wr done) (fun _ iv _ => N - (intOf iv).toNat)
  case atStart => exact ⟨s, [], 0, rfl, rfl, rfl, Nat.zero_le _, Nat.le_refl _, ⟨rfl, unhide HN⟩, unhide HA⟩
  case round =>
    obtain ⟨r, done, k, rfl, rfl, hkd, hk, hrs, hpl, hfil⟩ := hrel
    have HF := hide hfil
    have hB := hfil.1
    clear hfil HA
    have HSI := hide (fun W => unhide HIX r W)
    by_cases hlt : k < N
    · rcases ib_cases r.data.toList c with hm | ⟨m, hm⟩
      · have := (pcs_miss c _ hm).2
        have h2 := (unhide hpl).2
        omega
      · obtain ⟨h1, h2, h3⟩ := pcs_hit c _ m hm
        rw [data_len] at h3
        have HP : Hid (pcs c s.data.toList = bys (done ++ [r.extract 0 m]) ++ pcs c (r.extract (m + 1) r.size).data.toList ∧ (r.extract (m + 1) r.size).data.toList.count c + (k + 1) = N) := by
          obtain ⟨h4, h5⟩ := unhide hpl
          have e1 : (r.extract 0 m).data.toList = r.data.toList.take m := by rw [Lib.extract_data]; simp
          have e2 : (r.extract (m + 1) r.size).data.toList = r.data.toList.drop (m + 1) := by rw [Lib.extract_data, List.take_of_length_le (by rw [List.length_drop, data_len]; omega)]
          rw [bys_snoc, e1, e2]
          exact ⟨by rw [h4, h1]; simp, by omega⟩
        have hes : (r.extract (m + 1) r.size).size ≤ s.size := by rw [ByteArray.size_extract]; omega
        obtain ⟨x0, y0, z0⟩ := thereT1 (fill_there (unhide HF) (show k < N + 1 by omega))
        have hlt' : (k : Int) < N := by omega
        have hkN : (k : Int) < (N : Int) + 1 := by omega
        have hm0 : ¬ ((m : Int) < 0) := by omega
        have hm1 : (m : Int) ≤ r.size := by omega
        have hm2 : (m : Int) + 1 ≤ r.size := by omega
        have hw1 : IntKind.i64.wrap ((m : Int) + 1) = (m : Int) + 1 := by rw [IntKind.wrap_i64]; omega
        rw [hm] at HSI
        clear hm h1 h2 hpl
        go_wp2_with (go_at_call 46; refine (unhide HSI _).mono ?_; rintro e w2 ⟨rfl, rfl⟩)
        go_roundw
        case rel =>
          refine ⟨r.extract (m + 1) r.size, done ++ [r.extract 0 m], k + 1, rfl, by go_num, by have := unhide hkd; show k + 1 = _; simp; omega, by omega, hes, unhide HP, ?_⟩
          have h := fill_step (r.extract 0 m) (unhide HF) (by have := unhide hkd; omega) tx1_len
          rw [← unhide hkd, Nat.mul_one] at h
          exact h
        case measure => simp [intOf]; omega
    · obtain rfl : k = N := by omega
      have h0 : r.data.toList.count c = 0 := by have := (unhide hpl).2; omega
      have hp1 : pcs c r.data.toList = [r.data.toList] := by
        rcases ib_cases r.data.toList c with hm | ⟨m, hm⟩
        · exact (pcs_miss c _ hm).1
        · have := (pcs_hit c _ m hm).2.1
          omega
      have HP : Hid (pcs c s.data.toList = bys (done ++ [r])) := by
        show _ = _
        rw [(unhide hpl).1, hp1, bys_snoc]
      obtain ⟨x0, y0, z0⟩ := thereT1 (fill_there (unhide HF) (show k < k + 1 by omega))
      have hw1 : IntKind.i64.wrap ((k : Int) + 1) = (k : Int) + 1 := by rw [IntKind.wrap_i64]; omega
      have hkk : (k : Int) < (k : Int) + 1 := by omega
      clear h0 hp1 hpl
      go_wp2_with fail
      go_ret
      have h := fill_step r (unhide HF) (by have := unhide hkd; omega) tx1_len
      rw [← unhide hkd, Nat.mul_one] at h
      exact ⟨_, done ++ [r], rfl, fill_own h (by have := unhide hkd; simp; omega) (by omega), (unhide HP).symm, h.2.2.2.2⟩
end Go.Proofs.YtjjopdkbdebfoaaDoor
