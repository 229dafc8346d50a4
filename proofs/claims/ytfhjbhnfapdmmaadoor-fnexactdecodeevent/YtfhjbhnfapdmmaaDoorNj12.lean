/-
  errors.As walked at the reader's own error: it answers true and lays the error into the target; the code of a fault is the reader's own.
-/
import Derived.Test.YtfhjbhnfapdmmaaDoorNj02
import Derived.Test.YtfhjbhnfapdmmaaDoorNj11
import Derived.WalkLawsBesides
namespace Go.Proofs.YtfhjbhnfapdmmaaDoor
open Go.RowKit Go.Extern.Stop Go.Stop Go.Extern
set_option linter.unusedVariables false

/-- The variable that errors.As holds types against, as the program's text lays it. -/
def ErrT (w : World) : Prop := w.cell? ⟨1, 0, none⟩ = some (.iface 126 (.agg #[.pointer (some ⟨2, 81, none⟩)]))
theorem errT_below {B : Nat} {w w' : World} (h : ErrT w) (hb : Below B w w') (hB : w.heap.size ≤ B) : ErrT w' :=
  (hb.cell (p := ⟨_, 0, none⟩) (Nat.lt_of_lt_of_le (World.block_lt_of_cell? w _ h) hB)).trans h

set_option maxRecDepth 100000 in
set_option maxHeartbeats 4000000 in
theorem as_hit (F : Nat) (c k : Int) (x0 x1 : Value) (w : World) (hg : ErrT w) (hf0 : w.cell? ⟨F, 0, none⟩ = some x0) (hf1 : w.cell? ⟨F, 1, none⟩ = some x1)
    (hz0 : w.frozen? ⟨F, 0, none⟩ = false) (hz1 : w.frozen? ⟨F, 1, none⟩ = false) :
    Calls Tryd.prog 74 #[.iface 101 (.agg #[.int .i64 c, .int .i64 k]), .iface 103 (.pointer (some ⟨F, 0, none⟩))] w fun ev w' => ev = .returned (.bool true) ∧
      w' = (((((w.alloc (.cells #[.pointer (some ⟨F, 0, none⟩)] 103)).alloc (.cells #[.pointer (some ⟨2, 103, none⟩), .pointer (some ⟨w.heap.size, 0, none⟩), .int .u64 150] 111)).alloc
        (.cells #[.pointer (some ⟨2, 103, none⟩), .pointer (some ⟨w.heap.size, 0, none⟩), .int .u64 150] 111)).alloc (.cells #[.int .i64 c, .int .i64 k] 101)).setCell ⟨F, 0, none⟩ (.int .i64 c)).setCell ⟨F, 1, none⟩ (.int .i64 k) := by
  have e1 := @run_callFunc_extern Tryd.prog 84 _ (fun args => ReflectliteValue.unpack (args.getD 0 (.tuple #[]))) Tryd.func84 (by kernel_rfl) (by kernel_rfl) (by kernel_rfl) (by kernel_rfl)
  have e2 := @run_callFunc_extern Tryd.prog 85 _ (ReflectliteValue.methodAny (ReflectliteValue.valueError "reflectlite.Value.Type" 0) (fun t _ _ _ => ReflectliteType.toType t)) Tryd.func85 (by kernel_rfl) (by kernel_rfl) (by kernel_rfl) (by kernel_rfl)
  have e3 := @run_callFunc_extern Tryd.prog 86 _ (ReflectliteValue.method (ReflectliteValue.valueError "reflectlite.Value.IsNil" 0) ReflectliteValue.isNil) Tryd.func86 (by kernel_rfl) (by kernel_rfl) (by kernel_rfl) (by kernel_rfl)
  have e4 := @run_callFunc_extern Tryd.prog 108 _ (ReflectliteType.abiMethod fun t => do pure (.int .u8 (← Rtype.kind t))) Tryd.func108 (by kernel_rfl) (by kernel_rfl) (by kernel_rfl) (by kernel_rfl)
  have e5 := @run_callFunc_extern Tryd.prog 118 _ (ReflectliteType.method ReflectliteType.elem) Tryd.func118 (by kernel_rfl) (by kernel_rfl) (by kernel_rfl) (by kernel_rfl)
  have e6 := @run_callFunc_extern Tryd.prog 119 _ (ReflectliteType.relation "Implements" ReflectliteType.implements_) Tryd.func119 (by kernel_rfl) (by kernel_rfl) (by kernel_rfl) (by kernel_rfl)
  have e7 := @run_callFunc_extern Tryd.prog 91 _ ReflectliteType.typeOf Tryd.func91 (by kernel_rfl) (by kernel_rfl) (by kernel_rfl) (by kernel_rfl)
  have e8 := @run_callFunc_extern Tryd.prog 116 _ (ReflectliteType.relation "AssignableTo" ReflectliteType.assignableTo) Tryd.func116 (by kernel_rfl) (by kernel_rfl) (by kernel_rfl) (by kernel_rfl)
  have e9 := @run_callFunc_extern Tryd.prog 92 _ (ReflectliteValue.method (ReflectliteValue.valueError "reflectlite.Value.Elem" 0) ReflectliteValue.elem) Tryd.func92 (by kernel_rfl) (by kernel_rfl) (by kernel_rfl) (by kernel_rfl)
  have e10 := @run_callFunc_extern Tryd.prog 93 _ ReflectliteValue.set Tryd.func93 (by kernel_rfl) (by kernel_rfl) (by kernel_rfl) (by kernel_rfl)
  have tO := typeOfF
  have mA := methodAssignableTo
  have aF := assignableF
  have vF := valueOfF
  have vP := valueOfP
  have tP := typeP
  have mK := methodKind
  have mE := methodElem
  have mI := methodImplements
  have kP := kindP
  have kF := kindF
  have lP := elemP
  have iF := implementsF
  have hFl : F < w.heap.size := World.block_lt_of_cell? w _ hf0
  have hEl : 1 < w.heap.size := World.block_lt_of_cell? w _ hg
  have n8 := isNilP ⟨w.heap.size, 0, none⟩ ⟨F, 0, none⟩ ((w.alloc (.cells #[.pointer (some ⟨F, 0, none⟩)] 103)).alloc (.cells #[.pointer (some ⟨2, 103, none⟩), .pointer (some ⟨w.heap.size, 0, none⟩), .int .u64 150] 111)) (by simp)
  have hg2 : ((w.alloc (.cells #[.pointer (some ⟨F, 0, none⟩)] 103)).alloc (.cells #[.pointer (some ⟨2, 103, none⟩), .pointer (some ⟨w.heap.size, 0, none⟩), .int .u64 150] 111)).cell? ⟨1, 0, none⟩ = some (.iface 126 (.agg #[.pointer (some ⟨2, 81, none⟩)])) := by
    rw [World.cell?_alloc_lt _ _ ⟨1, 0, none⟩ (by simp; omega), World.cell?_alloc_lt _ _ ⟨1, 0, none⟩ hEl]; exact hg
  have el := elemVP ⟨w.heap.size, 0, none⟩ ⟨F, 0, none⟩ (((w.alloc (.cells #[.pointer (some ⟨F, 0, none⟩)] 103)).alloc (.cells #[.pointer (some ⟨2, 103, none⟩), .pointer (some ⟨w.heap.size, 0, none⟩), .int .u64 150] 111)).alloc (.cells #[.pointer (some ⟨2, 103, none⟩), .pointer (some ⟨w.heap.size, 0, none⟩), .int .u64 150] 111)) (by rw [World.cell?_alloc_lt _ _ ⟨w.heap.size, 0, none⟩ (by simp; omega)]; simp)
  have st := setF F (w.heap.size + 1 + 1 + 1) c k x0 x1 ((((w.alloc (.cells #[.pointer (some ⟨F, 0, none⟩)] 103)).alloc (.cells #[.pointer (some ⟨2, 103, none⟩), .pointer (some ⟨w.heap.size, 0, none⟩), .int .u64 150] 111)).alloc (.cells #[.pointer (some ⟨2, 103, none⟩), .pointer (some ⟨w.heap.size, 0, none⟩), .int .u64 150] 111)).alloc (.cells #[.int .i64 c, .int .i64 k] 101))
    (by rw [World.cell?_alloc_at _ _ _ _ (by simp)]; rfl) (by rw [World.cell?_alloc_at _ _ _ _ (by simp)]; rfl)
    (by rw [World.cell?_alloc_lt _ _ ⟨F, 0, none⟩ (by simp; omega), World.cell?_alloc_lt _ _ ⟨F, 0, none⟩ (by simp; omega), World.cell?_alloc_lt _ _ ⟨F, 0, none⟩ (by simp; omega), World.cell?_alloc_lt _ _ ⟨F, 0, none⟩ hFl]; exact hf0)
    (by rw [World.cell?_alloc_lt _ _ ⟨F, 1, none⟩ (by simp; omega), World.cell?_alloc_lt _ _ ⟨F, 1, none⟩ (by simp; omega), World.cell?_alloc_lt _ _ ⟨F, 1, none⟩ (by simp; omega), World.cell?_alloc_lt _ _ ⟨F, 1, none⟩ hFl]; exact hf1)
    (by rw [World.frozen?_alloc_old _ _ ⟨F, 0, none⟩ (by simp; omega), World.frozen?_alloc_old _ _ ⟨F, 0, none⟩ (by simp; omega), World.frozen?_alloc_old _ _ ⟨F, 0, none⟩ (by simp; omega), World.frozen?_alloc_old _ _ ⟨F, 0, none⟩ (Nat.ne_of_lt hFl)]; exact hz0)
    (by rw [World.frozen?_alloc_old _ _ ⟨F, 1, none⟩ (by simp; omega), World.frozen?_alloc_old _ _ ⟨F, 1, none⟩ (by simp; omega), World.frozen?_alloc_old _ _ ⟨F, 1, none⟩ (by simp; omega), World.frozen?_alloc_old _ _ ⟨F, 1, none⟩ (Nat.ne_of_lt hFl)]; exact hz1)
  clear hf0 hf1 hz0 hz1 hg
  go_enter Tryd.func74, Tryd.ntmps74
  go_wp2
  refine wp_loop_rounds 1 ?_
  rw [rounds_succ]
  go_wp2
  go_ret
  exact ⟨rfl, rfl⟩
end Go.Proofs.YtfhjbhnfapdmmaaDoor
namespace Go.Proofs.YtfhjbhnfapdmmaaDoor
open Go.RowKit
set_option linter.unusedVariables false

set_option maxRecDepth 100000 in
set_option maxHeartbeats 1000000 in
theorem codeOf_any (c k : Int) (w : World) (hg : ErrT w) :
    Calls Tryd.prog 47 #[faultV c k] w fun e w' => e = .returned (.int .i64 c) ∧ Below w.heap.size w w' := by
  have HG := hide (errT_below hg ((Below.refl _ w).alloc (Nat.le_refl _) (.cells #[.int .i64 0, .int .i64 0] 101)) (Nat.le_refl _))
  clear hg
  unfold faultV
  go_enter Tryd.func47, Tryd.ntmps47
  go_wp2_with fail
  refine (as_hit w.heap.size c k (.int .i64 0) (.int .i64 0) _ (unhide HG) (by simp) (by simp) (by simp) (by simp)).mono ?_
  rintro e w1 ⟨rfl, hw1⟩
  have hc0 : w1.cell? ⟨w.heap.size, 0, none⟩ = some (.int .i64 c) := by
    rw [hw1, World.cell?_setCell_other _ _ _ _ (addr_ne (by omega))]
    refine World.cell?_setCell_same _ _ _ (u := .int .i64 0) ?_
    rw [World.cell?_alloc_lt _ _ ⟨w.heap.size, 0, none⟩ (by simp; omega), World.cell?_alloc_lt _ _ ⟨w.heap.size, 0, none⟩ (by simp; omega), World.cell?_alloc_lt _ _ ⟨w.heap.size, 0, none⟩ (by simp; omega), World.cell?_alloc_lt _ _ ⟨w.heap.size, 0, none⟩ (by simp)]
    simp
  have hb : Hid (Below w.heap.size w w1) := by
    rw [hw1]
    exact ((((((Below.refl _ w).alloc (Nat.le_refl _) _).alloc (by simp) _).alloc (by simp; omega) _).alloc (by simp; omega) _).alloc (by simp; omega) _ |>.setCell (p := ⟨w.heap.size, 0, none⟩) (Nat.le_refl _) _).setCell (p := ⟨w.heap.size, 1, none⟩) (Nat.le_refl _) _
  clear hw1
  go_wp2_with fail
  go_ret
  exact ⟨rfl, unhide hb⟩

set_option maxRecDepth 100000 in
theorem number_empty (B : Nat) (w : World) (a : Option Addr) (cap : Nat) (hr : Rdr B w (.slice a 0 cap) 0) :
    Calls Tryd.prog 78 #[.pointer (some ⟨B, 0, none⟩)] w fun e w' => NumEnd B (.slice a 0 cap) w none e w' := by
  go_enter Tryd.func78, Tryd.ntmps78
  go_wp2_with fail
  refine wp_loop_rounds 1 ?_
  rw [rounds_succ]
  go_wp2_with fail
  refine (take_end B 1 0 a 0 cap _ hr (by omega) (by omega) (by omega) (by omega) (by omega)).mono ?_
  rintro e w1 ⟨rfl, q, rfl⟩
  go_wp2_with fail
  exact ⟨rfl, numEnd_fail (gr_drewN _ _ _) rfl _⟩

/-- The bytes are read with the reader in a new block. -/
theorem number_any (B : Nat) (v : Value) (l : List Int) (k : Nat) (w w0 : World) (hrd : Rd w v l) (hcap : ∀ a n c, v = .slice a n c → n ≤ c) (hBw : w.heap.size ≤ B) (hbel : Below w.heap.size w w0) (hr : Rdr B w0 v k) (hk : k ≤ l.length) (hl : l.length ≤ 65536) (hb : Bts l) :
    Calls Tryd.prog 78 #[.pointer (some ⟨B, 0, none⟩)] w0 fun e w' => NumEnd B v w0 (getU l k) e w' := by
  have hrd0 := rd_below hrd hbel (Nat.le_refl _)
  obtain ⟨a, cap, rfl, _, hc⟩ := hrd0
  obtain ⟨a', cap', e', _, hc'⟩ := hrd
  by_cases hne : l = []
  · subst hne
    obtain rfl : k = 0 := by simpa using hk
    have : getU [] 0 = none := rfl
    rw [this]
    exact number_empty B w0 a cap hr
  · obtain ⟨b, off, rfl, hcell⟩ := hc hne
    have hlt : b < w.heap.size := by
      simp only [Value.slice.injEq] at e'
      obtain ⟨rfl, _, rfl⟩ := e'
      obtain ⟨b2, o2, e2, hcell2⟩ := hc' hne
      simp only [Option.some.injEq, Addr.mk.injEq] at e2
      obtain ⟨rfl, rfl, _⟩ := e2
      have hp : 0 < l.length := List.length_pos_iff.2 hne
      exact World.block_lt_of_cell? w _ (hcell2 0 hp)
    exact number_some B w0 b off cap k l hr hk hl (hcap _ _ _ rfl) (by omega) hcell hb
end Go.Proofs.YtfhjbhnfapdmmaaDoor
namespace Go.Proofs.YtfhjbhnfapdmmaaDoor
open Go.RowKit

/-- The float is a NaN. -/
def nanB (x : Nat) : Bool := FloatKind.f64.format.order x x != some Ordering.eq

theorem read_rung (neg : Bool) (r : Nat) (h : r ≤ Ieee.double.infRung) : ¬ (Ieee.double.read (Ieee.double.word neg r)).isNaN = true := by
  have h1 : Ieee.double.infRung = 9218868437227405312 := by decide
  have h2 : Ieee.double.signWeight = 9223372036854775808 := by decide
  have hr : Ieee.double.word neg r % Ieee.double.signWeight = r := by
    unfold Ieee.Format.word
    cases neg <;> simp only [h2, if_true, if_false, Bool.false_eq_true] <;> omega
  unfold Ieee.Format.read
  simp only [hr]
  split
  · simp [Ieee.Datum.isNaN]
  · split
    · simp [Ieee.Datum.isNaN]
    · rw [if_pos (by omega)]; simp [Ieee.Datum.isNaN]
theorem datum_self (d : Ieee.Datum) (h : ¬ d.isNaN = true) : d.order d = some Ordering.eq := by
  cases d with
  | nan s f => simp [Ieee.Datum.isNaN] at h
  | infinity s => cases s <;> rfl
  | number s m i => simp [Ieee.Datum.order, Std.ReflCmp.compare_self]
theorem ofInt_order (n : Int) : FloatKind.f64.format.order (floatOfInt .f64 n) (floatOfInt .f64 n) = some Ordering.eq := by
  refine datum_self _ ?_
  show ¬ (Ieee.double.read (Ieee.double.nearest (n < 0) n.natAbs 0)).isNaN = true
  unfold Ieee.Format.nearest
  split
  · exact read_rung _ _ (Nat.zero_le _)
  · exact read_rung _ _ (Nat.min_le_right _ _)
end Go.Proofs.YtfhjbhnfapdmmaaDoor
