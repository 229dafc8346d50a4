/-
  errors.As walked at the reader's own error: it answers true and lays the error into the target; the code of a fault is the reader's own.
-/
import Derived.Test.YtoaoiiafmojaaaaDoorAsH
namespace Go.Proofs.YtoaoiiafmojaaaaDoor
open Go.RowKit Go.Extern.Stop Go.Stop Go.Extern
set_option linter.unusedVariables false

/-- The variable that errors.As holds types against, as the program's text lays it. -/
def ErrT (w : World) : Prop := w.cell? ⟨1, 0, none⟩ = some (.iface 89 (.agg #[.pointer (some ⟨2, 56, none⟩)]))
theorem errT_below {B : Nat} {w w' : World} (h : ErrT w) (hb : Below B w w') (hB : w.heap.size ≤ B) : ErrT w' :=
  (hb.cell (p := ⟨_, 0, none⟩) (Nat.lt_of_lt_of_le (World.block_lt_of_cell? w _ h) hB)).trans h

set_option maxRecDepth 100000 in
set_option maxHeartbeats 4000000 in
theorem as_hit (F : Nat) (c k : Int) (x0 x1 : Value) (w : World) (hg : ErrT w) (hf0 : w.cell? ⟨F, 0, none⟩ = some x0) (hf1 : w.cell? ⟨F, 1, none⟩ = some x1)
    (hz0 : w.frozen? ⟨F, 0, none⟩ = false) (hz1 : w.frozen? ⟨F, 1, none⟩ = false) :
    Calls Tryd.prog 37 #[.iface 72 (.agg #[.int .i64 c, .int .i64 k]), .iface 74 (.pointer (some ⟨F, 0, none⟩))] w fun ev w' => ev = .returned (.bool true) ∧
      w' = (((((w.alloc (.cells #[.pointer (some ⟨F, 0, none⟩)] 74)).alloc (.cells #[.pointer (some ⟨2, 74, none⟩), .pointer (some ⟨w.heap.size, 0, none⟩), .int .u64 150] 78)).alloc
        (.cells #[.pointer (some ⟨2, 74, none⟩), .pointer (some ⟨w.heap.size, 0, none⟩), .int .u64 150] 78)).alloc (.cells #[.int .i64 c, .int .i64 k] 72)).setCell ⟨F, 0, none⟩ (.int .i64 c)).setCell ⟨F, 1, none⟩ (.int .i64 k) := by
  have e1 := @run_callFunc_extern Tryd.prog 41 _ (fun args => ReflectliteValue.unpack (args.getD 0 (.tuple #[]))) Tryd.func41 (by kernel_rfl) (by kernel_rfl) (by kernel_rfl) (by kernel_rfl)
  have e2 := @run_callFunc_extern Tryd.prog 42 _ (ReflectliteValue.methodAny (ReflectliteValue.valueError "reflectlite.Value.Type" 0) (fun t _ _ _ => ReflectliteType.toType t)) Tryd.func42 (by kernel_rfl) (by kernel_rfl) (by kernel_rfl) (by kernel_rfl)
  have e3 := @run_callFunc_extern Tryd.prog 43 _ (ReflectliteValue.method (ReflectliteValue.valueError "reflectlite.Value.IsNil" 0) ReflectliteValue.isNil) Tryd.func43 (by kernel_rfl) (by kernel_rfl) (by kernel_rfl) (by kernel_rfl)
  have e4 := @run_callFunc_extern Tryd.prog 62 _ (ReflectliteType.abiMethod fun t => do pure (.int .u8 (← Rtype.kind t))) Tryd.func62 (by kernel_rfl) (by kernel_rfl) (by kernel_rfl) (by kernel_rfl)
  have e5 := @run_callFunc_extern Tryd.prog 72 _ (ReflectliteType.method ReflectliteType.elem) Tryd.func72 (by kernel_rfl) (by kernel_rfl) (by kernel_rfl) (by kernel_rfl)
  have e6 := @run_callFunc_extern Tryd.prog 73 _ (ReflectliteType.relation "Implements" ReflectliteType.implements_) Tryd.func73 (by kernel_rfl) (by kernel_rfl) (by kernel_rfl) (by kernel_rfl)
  have e7 := @run_callFunc_extern Tryd.prog 45 _ ReflectliteType.typeOf Tryd.func45 (by kernel_rfl) (by kernel_rfl) (by kernel_rfl) (by kernel_rfl)
  have e8 := @run_callFunc_extern Tryd.prog 70 _ (ReflectliteType.relation "AssignableTo" ReflectliteType.assignableTo) Tryd.func70 (by kernel_rfl) (by kernel_rfl) (by kernel_rfl) (by kernel_rfl)
  have e9 := @run_callFunc_extern Tryd.prog 46 _ (ReflectliteValue.method (ReflectliteValue.valueError "reflectlite.Value.Elem" 0) ReflectliteValue.elem) Tryd.func46 (by kernel_rfl) (by kernel_rfl) (by kernel_rfl) (by kernel_rfl)
  have e10 := @run_callFunc_extern Tryd.prog 47 _ ReflectliteValue.set Tryd.func47 (by kernel_rfl) (by kernel_rfl) (by kernel_rfl) (by kernel_rfl)
  have tO := typeOfF
  have mA := methodAssignableTo
  have aF := assignableF
  have vF := valueOfF
  have vP := valueOfP
  have tP := typeP
  have mK := methodKind
  have mE := methodElem
  have mI := methodImplements
  have kP := kindP
  have kF := kindF
  have lP := elemP
  have iF := implementsF
  have hFl : F < w.heap.size := World.block_lt_of_cell? w _ hf0
  have hEl : 1 < w.heap.size := World.block_lt_of_cell? w _ hg
  have n8 := isNilP ⟨w.heap.size, 0, none⟩ ⟨F, 0, none⟩ ((w.alloc (.cells #[.pointer (some ⟨F, 0, none⟩)] 74)).alloc (.cells #[.pointer (some ⟨2, 74, none⟩), .pointer (some ⟨w.heap.size, 0, none⟩), .int .u64 150] 78)) (by simp)
  have hg2 : ((w.alloc (.cells #[.pointer (some ⟨F, 0, none⟩)] 74)).alloc (.cells #[.pointer (some ⟨2, 74, none⟩), .pointer (some ⟨w.heap.size, 0, none⟩), .int .u64 150] 78)).cell? ⟨1, 0, none⟩ = some (.iface 89 (.agg #[.pointer (some ⟨2, 56, none⟩)])) := by
    rw [World.cell?_alloc_lt _ _ ⟨1, 0, none⟩ (by simp; omega), World.cell?_alloc_lt _ _ ⟨1, 0, none⟩ hEl]; exact hg
  have el := elemVP ⟨w.heap.size, 0, none⟩ ⟨F, 0, none⟩ (((w.alloc (.cells #[.pointer (some ⟨F, 0, none⟩)] 74)).alloc (.cells #[.pointer (some ⟨2, 74, none⟩), .pointer (some ⟨w.heap.size, 0, none⟩), .int .u64 150] 78)).alloc (.cells #[.pointer (some ⟨2, 74, none⟩), .pointer (some ⟨w.heap.size, 0, none⟩), .int .u64 150] 78)) (by rw [World.cell?_alloc_lt _ _ ⟨w.heap.size, 0, none⟩ (by simp; omega)]; simp)
  have st := setF F (w.heap.size + 1 + 1 + 1) c k x0 x1 ((((w.alloc (.cells #[.pointer (some ⟨F, 0, none⟩)] 74)).alloc (.cells #[.pointer (some ⟨2, 74, none⟩), .pointer (some ⟨w.heap.size, 0, none⟩), .int .u64 150] 78)).alloc (.cells #[.pointer (some ⟨2, 74, none⟩), .pointer (some ⟨w.heap.size, 0, none⟩), .int .u64 150] 78)).alloc (.cells #[.int .i64 c, .int .i64 k] 72))
    (by rw [World.cell?_alloc_at _ _ _ _ (by simp)]; rfl) (by rw [World.cell?_alloc_at _ _ _ _ (by simp)]; rfl)
    (by rw [World.cell?_alloc_lt _ _ ⟨F, 0, none⟩ (by simp; omega), World.cell?_alloc_lt _ _ ⟨F, 0, none⟩ (by simp; omega), World.cell?_alloc_lt _ _ ⟨F, 0, none⟩ (by simp; omega), World.cell?_alloc_lt _ _ ⟨F, 0, none⟩ hFl]; exact hf0)
    (by rw [World.cell?_alloc_lt _ _ ⟨F, 1, none⟩ (by simp; omega), World.cell?_alloc_lt _ _ ⟨F, 1, none⟩ (by simp; omega), World.cell?_alloc_lt _ _ ⟨F, 1, none⟩ (by simp; omega), World.cell?_alloc_lt _ _ ⟨F, 1, none⟩ hFl]; exact hf1)
    (by rw [World.frozen?_alloc_old _ _ ⟨F, 0, none⟩ (by simp; omega), World.frozen?_alloc_old _ _ ⟨F, 0, none⟩ (by simp; omega), World.frozen?_alloc_old _ _ ⟨F, 0, none⟩ (by simp; omega), World.frozen?_alloc_old _ _ ⟨F, 0, none⟩ (Nat.ne_of_lt hFl)]; exact hz0)
    (by rw [World.frozen?_alloc_old _ _ ⟨F, 1, none⟩ (by simp; omega), World.frozen?_alloc_old _ _ ⟨F, 1, none⟩ (by simp; omega), World.frozen?_alloc_old _ _ ⟨F, 1, none⟩ (by simp; omega), World.frozen?_alloc_old _ _ ⟨F, 1, none⟩ (Nat.ne_of_lt hFl)]; exact hz1)
  clear hf0 hf1 hz0 hz1 hg
  go_enter Tryd.func37, Tryd.ntmps37
  go_wp2
  refine wp_loop_rounds 1 ?_
  rw [rounds_succ]
  go_wp2
  go_ret
  exact ⟨rfl, rfl⟩
end Go.Proofs.YtoaoiiafmojaaaaDoor
