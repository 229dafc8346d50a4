/-
  A text cut at a byte, a line that says nothing, as the program has them: proved by walking the functions.
-/
import Derived.Test.YtjjopdkbdebfoaaDoorNumT
import Derived.Test.YtjjopdkbdebfoaaDoorWrdI
import Derived.Test.YtjjopdkbdebfoaaDoorScrP
namespace Go.Proofs.YtjjopdkbdebfoaaDoor
open Go.RowKit
set_option linter.unusedVariables false

/-- A text ahead of a byte, and behind it. -/
def kA (c : UInt8) (s : ByteArray) : ByteArray := if Lib.indexByte s.data.toList c = -1 then s else s.extract 0 (Lib.indexByte s.data.toList c).toNat
def kB (c : UInt8) (s : ByteArray) : ByteArray := if Lib.indexByte s.data.toList c = -1 then ⟨#[]⟩ else s.extract ((Lib.indexByte s.data.toList c).toNat + 1) s.size
theorem kA_size (c : UInt8) (s : ByteArray) : (kA c s).size ≤ s.size := by
  unfold kA
  split
  · exact Nat.le_refl _
  · rw [ByteArray.size_extract]; omega
theorem kB_size (c : UInt8) (s : ByteArray) (h : 0 < s.size) : (kB c s).size < s.size := by
  unfold kB
  split
  · exact h
  · rw [ByteArray.size_extract]; omega
theorem kL_lines (s : ByteArray) (h : 0 < s.size) : lns s.data.toList = (kA 10 s).data.toList :: lns (kB 10 s).data.toList := by
  have hne : s.data.toList ≠ [] := by
    intro e
    have := data_len s
    rw [e] at this
    simp at this
    omega
  unfold kA kB
  rcases ib_cases s.data.toList 10 with hm | ⟨m, hm⟩
  · rw [if_pos hm, if_pos hm, lns_miss hm hne]; rfl
  · have h1 : ¬ ((m : Int) = -1) := by omega
    rw [hm, if_neg h1, if_neg h1, lns_hit hm]
    rw [Lib.extract_data, Lib.extract_data]
    have e : (s.data.toList.drop ((m : Int).toNat + 1)).take (s.size - ((m : Int).toNat + 1)) = s.data.toList.drop (m + 1) := by
      rw [Int.toNat_natCast]
      exact List.take_of_length_le (by rw [List.length_drop, data_len]; exact Nat.le_refl _)
    rw [e, Int.toNat_natCast]
    simp
set_option maxRecDepth 100000 in
set_option maxHeartbeats 1000000 in
theorem liteCutC_any (c : UInt8) (s : ByteArray) (w : World) (hs : s.size ≤ 1048576) :
    Calls Tryd.prog 37 #[.string s, .string ⟨#[c]⟩] w fun e w' => ∃ n b, e = .returned (.tuple #[.string (kA c s), .string (kB c s), .bool b]) ∧ w' = w.drewN n := by
  have HI := hide (fun W => index1_any s c W)
  rcases ib_cases s.data.toList c with hm | ⟨m, hm⟩
  · have HE : Hid (kA c s = s ∧ kB c s = ⟨#[]⟩) := ⟨if_pos hm, if_pos hm⟩
    rw [hm] at HI
    clear hm
    go_enter Tryd.func37, Tryd.ntmps37
    go_wp2_with (go_at_call 47; refine (unhide HI _).mono ?_; rintro e w' ⟨rfl, rfl⟩)
    go_ret3
    exact ⟨0, false, by rw [(unhide HE).1, (unhide HE).2]; rfl, rfl⟩
  · have hml := (pcs_hit c _ m hm).2.2
    rw [data_len] at hml
    have HE : Hid (kA c s = s.extract 0 m ∧ kB c s = s.extract (m + 1) s.size) := by
      have h1 : ¬ ((m : Int) = -1) := by omega
      unfold kA kB
      rw [hm, if_neg h1, if_neg h1]
      exact ⟨by simp, by simp⟩
    have h1 : (0 : Int) ≤ m := by omega
    have h2 : (m : Int) ≤ s.size := by omega
    have h3 : (m : Int) + 1 ≤ s.size := by omega
    have hw1 : IntKind.i64.wrap ((m : Int) + 1) = (m : Int) + 1 := by rw [IntKind.wrap_i64]; omega
    rw [hm] at HI
    clear hm
    go_enter Tryd.func37, Tryd.ntmps37
    go_wp2_with (go_at_call 47; refine (unhide HI _).mono ?_; rintro e w' ⟨rfl, rfl⟩)
    go_quiet (fail)
    go_wp2_with fail
    go_ret3
    exact ⟨nq, true, by rw [(unhide HE).1, (unhide HE).2]; rfl, rfl⟩
set_option maxRecDepth 100000 in
theorem strCutC_any (c : UInt8) (s : ByteArray) (w : World) (hs : s.size ≤ 1048576) :
    Calls Tryd.prog 29 #[.string s, .string ⟨#[c]⟩] w fun e w' => ∃ n b, e = .returned (.tuple #[.string (kA c s), .string (kB c s), .bool b]) ∧ w' = w.drewN n := by
  have HI := hide (liteCutC_any c s w hs)
  go_enter Tryd.func29, Tryd.ntmps29
  go_wp2_with fail
  refine (unhide HI).mono ?_
  rintro e w' ⟨n, b, rfl, rfl⟩
  go_wp2_with fail
  go_ret3
  exact ⟨n, b, rfl, rfl⟩
set_option maxRecDepth 100000 in
set_option maxHeartbeats 1000000 in
theorem hasPre_any (s : ByteArray) (w : World) :
    Calls Tryd.prog 30 #[.string s, .string ⟨#[35]⟩] w fun e w' => e = .returned (.bool (s.data.toList.head? == some 35)) ∧ w' = w := by
  have h01 : (s.extract 0 1).toList = s.data.toList.take 1 := by rw [Lib.toList_data, Lib.extract_data]; simp
  by_cases h0 : 0 < s.size
  · have h1 : (1 : Int) ≤ s.size := by omega
    by_cases hy : s[0] = 35
    · have e1 : ((s.extract 0 1).toList == [35]) = true := by rw [h01, data_cons s h0, hy]; rfl
      have HE : Hid ((s.data.toList.head? == some 35) = true) := by show _ = _; rw [data_cons s h0, hy]; rfl
      clear h01 hy
      go_enter Tryd.func30, Tryd.ntmps30
      go_wp2
      go_ret
      exact ⟨by rw [unhide HE]; rfl, rfl⟩
    · have e1 : ((s.extract 0 1).toList == [35]) = false := by
        rw [h01, data_cons s h0, beq_eq_false_iff_ne]
        intro e
        exact hy (by simpa using e)
      have HE : Hid ((s.data.toList.head? == some 35) = false) := by show _ = _; rw [data_cons s h0]; simpa using hy
      clear h01 hy
      go_enter Tryd.func30, Tryd.ntmps30
      go_wp2
      go_ret
      exact ⟨by rw [unhide HE]; rfl, rfl⟩
  · have h1 : (s.size : Int) < 1 := by omega
    have HE : Hid ((s.data.toList.head? == some 35) = false) := by
      show _ = _
      have : s.data.toList = [] := List.eq_nil_of_length_eq_zero (by rw [data_len]; omega)
      rw [this]; rfl
    clear h01
    go_enter Tryd.func30, Tryd.ntmps30
    go_wp2
    go_ret
    exact ⟨by rw [unhide HE]; rfl, rfl⟩
end Go.Proofs.YtjjopdkbdebfoaaDoor
