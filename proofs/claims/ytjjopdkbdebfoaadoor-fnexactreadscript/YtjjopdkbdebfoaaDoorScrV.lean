/-
  The lines of a text, as the program goes along them: an iterator; proved by walking the functions.
-/
import Derived.RangeFuncNested
import Derived.RangeFuncBound
import Derived.RangeFuncCalls
import Derived.RangeFuncLeaves
import Derived.Shelf.Abstract
import Derived.Shelf.RegionOpen
import Derived.WalkKit
import Derived.OwnWalkIn
import Derived.TacticsInMore
import Derived.LoopNIn
import Derived.LoopIn
import Derived.Test.YtjjopdkbdebfoaaDoorScrU
namespace Go.Proofs.YtjjopdkbdebfoaaDoor
open Go.RowKit Go.Shelf
set_option linter.unusedVariables false
attribute [local go_sem] Oper.semAt_some

/-- A line with its number. -/
abbrev NL := { p : Nat × ByteArray // p.2.size ≤ 1048576 }
def nlE (x : NL) : Array Value := #[.int .i64 (x.1.1 : Int), .string x.1.2]
def nlL (x : NL) : Nat × List UInt8 := (x.1.1, x.1.2.data.toList)
/-- Lines numbered from one on. -/
def nlN : Nat → List (List UInt8) → List (Nat × List UInt8)
  | _, [] => []
  | n, l :: r => (n, l) :: nlN (n + 1) r
set_option maxRecDepth 100000 in
set_option maxHeartbeats 1000000 in
theorem linesOf_in (s : ByteArray) (n : Nat) (w : World) :
    CallsIn Fence.wide n Tryd.prog 19 #[.string s] w fun e w' => e = .returned (.func (.func 28) #[] #[.pointer (some ⟨w.heap.size, 0, none⟩)]) ∧ w' = w.alloc (.cells #[.string s] 9) := by
  refine callsIn_of_wp Tryd.func19 rfl trivial ?_ rfl
  simp only [Tryd.ntmps19, List.size_toArray, List.length_cons, List.length_nil, Nat.reduceAdd, Nat.reduceSub, Array.replicate_succ, Array.replicate_zero, List.push_toArray, List.append_toArray, List.nil_append, List.cons_append]
  gi_wp2
  go_ret
  exact ⟨rfl, rfl⟩
/-- What a value of the loop is as a text's length. -/
def stL (v : Value) : Nat := match v with | .string s => s.size | _ => 0
set_option maxRecDepth 100000 in
set_option maxHeartbeats 2000000 in
theorem lines1_in (n : Nat) (hn : 1 ≤ n) (l Bs n₀ : Nat) (s : ByteArray) (hs : s.size ≤ 1048576) (J Jx : List NL → World → Prop)
    (hA : ∀ pre (W : World) k, J pre W → J pre (W.drewN k))
    (hY : ∀ pre x W, J pre W → pre.length < 2000000 → YieldAt Fence.wide (n - 1) Tryd.prog l (nlE x) W fun e W' =>
      (e = .returned (.bool true) ∧ J (pre ++ [x]) W' ∧ Below n₀ W W') ∨ (e = .returned (.bool false) ∧ Jx (pre ++ [x]) W'))
    (W : World) (hBs : W.cell? ⟨Bs, 0, none⟩ = some (.string s)) (h0 : J [] W) :
    CallsIn Fence.wide n Tryd.prog 28 #[.func (.yield l) #[] #[], .pointer (some ⟨Bs, 0, none⟩)] W fun e W' => (∃ v, e = .returned v) ∧
      ((∃ ys, (ys.map nlL = nlN 1 (lns s.data.toList)) ∧ J ys W') ∨ (∃ pre, (pre.map nlL <+: nlN 1 (lns s.data.toList)) ∧ Jx pre W')) := by
  refine callsIn_of_wp Tryd.func28 rfl trivial ?_ rfl
  simp only [Tryd.ntmps28, List.size_toArray, List.length_cons, List.length_nil, Nat.reduceAdd, Nat.reduceSub, Array.replicate_succ, Array.replicate_zero, List.push_toArray, List.append_toArray, List.nil_append, List.cons_append]
  gi_wp2
  gi_loopw [3, 4] (fun r i wr => ∃ (pre : List NL) (t : ByteArray), r = .string t ∧ i = .int .i64 ((pre.length : Int) + 1) ∧ t.size + pre.length ≤ s.size ∧ pre.map nlL ++ nlN (pre.length + 1) (lns t.data.toList) = nlN 1 (lns s.data.toList) ∧ J pre wr)
    (fun r i wr => stL r)
  case atStart => exact ⟨[], s, rfl, rfl, by simp, by simp, h0⟩
  case round =>
    obtain ⟨pre, t, rfl, rfl, hsz, hln, hJs⟩ := hrel
    have HLN := hide hln
    clear hln
    have hts : t.size ≤ 1048576 := by omega
    have hpl : pre.length ≤ 1048576 := by omega
    by_cases ht : 0 < t.size
    · have e1 : (t.toList == []) = false := by
        rw [Lib.toList_data, beq_eq_false_iff_ne]
        intro e
        have := data_len t
        rw [e] at this
        simp at this
        omega
      have hw1 : IntKind.i64.wrap ((pre.length : Int) + 1 + 1) = (pre.length : Int) + 1 + 1 := by rw [IntKind.wrap_i64]; omega
      have HC := hide (fun W => (callsIn_wide (n := n - 1)).2 (strCutC_any 10 t W hts))
      have HK := hide (kL_lines t ht)
      have HB := hide (kB_size 10 t ht)
      have hkA := Nat.le_trans (kA_size 10 t) hts
      generalize kA 10 t = ka at *
      generalize kB 10 t = kb at *
      gi_wp2_with (refine ⟨trivial, ?_⟩; gi_at_call 29; refine (unhide HC _).mono ?_; rintro e w' ⟨k, b, rfl, hw'⟩; (obtain ⟨fn, tmps, assign, body, hy, hR⟩ := hY pre ⟨(pre.length + 1, ka), hkA⟩ w' (by rw [hw']; exact hA _ _ _ hJs) (by omega)); clear hw'; simp only [nlE, Int.natCast_add, Int.cast_ofNat_Int] at hy)
      refine hR.mono ?_
      rintro e W3 (⟨rfl, hJ3, hk3⟩ | ⟨rfl, hJx3⟩)
      · gi_wp2
        go_roundw
        case rel =>
          refine ⟨pre ++ [⟨(pre.length + 1, ka), hkA⟩], kb, rfl, by simp, ?_, ?_, hJ3⟩
          · have := unhide HB
            simp only [List.length_append, List.length_cons, List.length_nil]
            omega
          · rw [← unhide HLN, unhide HK]
            simp [nlN, nlL]
        case measure => exact unhide HB
      · gi_wp2
        refine bodyPost_ret (results_none rfl _ _ _) rfl ?_
        refine ⟨⟨_, rfl⟩, .inr ⟨pre ++ [⟨(pre.length + 1, ka), hkA⟩], ⟨nlN (pre.length + 1 + 1) (lns kb.data.toList), ?_⟩, hJx3⟩⟩
        rw [← unhide HLN, unhide HK]
        simp [nlN, nlL]
    · have e0 : t.data.toList = [] := List.eq_nil_of_length_eq_zero (by rw [data_len]; omega)
      have e1 : (t.toList == []) = true := by rw [Lib.toList_data, e0]; rfl
      rw [e0, lns_nil] at HLN
      clear e0
      gi_wp2
      go_end0
      exact ⟨⟨_, rfl⟩, .inl ⟨pre, by rw [← unhide HLN]; simp [nlN], hJs⟩⟩
end Go.Proofs.YtjjopdkbdebfoaaDoor
