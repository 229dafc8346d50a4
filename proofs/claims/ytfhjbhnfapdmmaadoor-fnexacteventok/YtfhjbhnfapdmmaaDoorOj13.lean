/-
  errors.As at the reader's own error type, proved by walking it: it answers true and lays the error into the target; and the code of a fault.
-/
import Derived.Test.YtfhjbhnfapdmmaaDoorOj12
namespace Go.Proofs.YtfhjbhnfapdmmaaDoor
open Go.RowKit Go.Extern.Stop Go.Stop Go.Extern
set_option linter.unusedVariables false

theorem load2 {P : Program} (V : Nat) (x y : Value) (W : World) (hv0 : W.cell? ⟨V, 0, none⟩ = some x) (hv1 : W.cell? ⟨V, 1, none⟩ = some y) :
    (loadCellsFrom ⟨V, 0, none⟩ 0 2 #[]).run P W = .ok #[x, y] W := by
  simp [loadCellsFrom, hv0, hv1, Addr.add, Result.andThen]
theorem store2 {P : Program} (F : Nat) (c k : Int) (x0 x1 : Value) (W : World)
    (hf0 : W.cell? ⟨F, 0, none⟩ = some x0) (hf1 : W.cell? ⟨F, 1, none⟩ = some x1) (hz0 : W.frozen? ⟨F, 0, none⟩ = false) (hz1 : W.frozen? ⟨F, 1, none⟩ = false) :
    (storeCells ⟨F, 0, none⟩ [.int .i64 c, .int .i64 k]).run P W = .ok () ((W.setCell ⟨F, 0, none⟩ (.int .i64 c)).setCell ⟨F, 1, none⟩ (.int .i64 k)) := by
  have h1 : (W.setCell ⟨F, 0, none⟩ (.int .i64 c)).cell? ⟨F, 1, none⟩ = some x1 := by
    rw [World.cell?_setCell_other _ _ _ _ (addr_ne (by omega))]; exact hf1
  have h2 : (W.setCell ⟨F, 0, none⟩ (.int .i64 c)).frozen? ⟨F, 1, none⟩ = false := by rw [World.frozen?_setCell]; exact hz1
  simp only [storeCells, Sem.run_bind, Addr.add]
  rw [run_store P W _ _ _ (by rfl)]
  simp [hf0, hz0, Result.andThen]
  rw [run_store P _ _ _ _ (by rfl)]
  simp [h1, h2]
theorem set_two {α : Type} (f : Value → Value → α) (g : Array Value → α) (v x : Value) :
    ReflectliteValue.set.match_3 (fun _ => α) #[v, x] f g = f v x := rfl
theorem setF (F V : Nat) (c k : Int) (x0 x1 : Value) (W : World) (hv0 : W.cell? ⟨V, 0, none⟩ = some (.int .i64 c)) (hv1 : W.cell? ⟨V, 1, none⟩ = some (.int .i64 k))
    (hf0 : W.cell? ⟨F, 0, none⟩ = some x0) (hf1 : W.cell? ⟨F, 1, none⟩ = some x1) (hz0 : W.frozen? ⟨F, 0, none⟩ = false) (hz1 : W.frozen? ⟨F, 1, none⟩ = false) :
    (ReflectliteValue.set #[.agg #[.pointer (some ⟨2, 101, none⟩), .pointer (some ⟨F, 0, none⟩), .int .u64 409], .agg #[.pointer (some ⟨2, 101, none⟩), .pointer (some ⟨V, 0, none⟩), .int .u64 153]]).run Tryd.prog W
      = .ok (.tuple #[]) ((W.setCell ⟨F, 0, none⟩ (.int .i64 c)).setCell ⟨F, 1, none⟩ (.int .i64 k)) := by
  unfold ReflectliteValue.set
  rw [set_two]
  simp only [Sem.run_bind, partsFa, partsF, Result.andThen]
  simp [ReflectliteValue.flagAddr, loadVar, loadCells, Result.andThen, directF, storeVar, Value.cells]
  rw [load2 V _ _ W hv0 hv1]
  simp
  rw [store2 F c k x0 x1 W hf0 hf1 hz0 hz1]
end Go.Proofs.YtfhjbhnfapdmmaaDoor
namespace Go.Proofs.YtfhjbhnfapdmmaaDoor
open Go.RowKit Go.Extern.Stop Go.Stop Go.Extern
set_option linter.unusedVariables false

/-- The variable that errors.As holds types against, as the program's text lays it. -/
def ErrT (w : World) : Prop := w.cell? ⟨1, 0, none⟩ = some (.iface 126 (.agg #[.pointer (some ⟨2, 81, none⟩)]))
theorem errT_below {B : Nat} {w w' : World} (h : ErrT w) (hb : Below B w w') (hB : w.heap.size ≤ B) : ErrT w' :=
  (hb.cell (p := ⟨_, 0, none⟩) (Nat.lt_of_lt_of_le (World.block_lt_of_cell? w _ h) hB)).trans h

set_option maxRecDepth 100000 in
set_option maxHeartbeats 4000000 in
theorem as_hit (F : Nat) (c k : Int) (x0 x1 : Value) (w : World) (hg : ErrT w) (hf0 : w.cell? ⟨F, 0, none⟩ = some x0) (hf1 : w.cell? ⟨F, 1, none⟩ = some x1)
    (hz0 : w.frozen? ⟨F, 0, none⟩ = false) (hz1 : w.frozen? ⟨F, 1, none⟩ = false) :
    Calls Tryd.prog 74 #[.iface 101 (.agg #[.int .i64 c, .int .i64 k]), .iface 103 (.pointer (some ⟨F, 0, none⟩))] w fun ev w' => ev = .returned (.bool true) ∧
      w' = (((((w.alloc (.cells #[.pointer (some ⟨F, 0, none⟩)] 103)).alloc (.cells #[.pointer (some ⟨2, 103, none⟩), .pointer (some ⟨w.heap.size, 0, none⟩), .int .u64 150] 111)).alloc
        (.cells #[.pointer (some ⟨2, 103, none⟩), .pointer (some ⟨w.heap.size, 0, none⟩), .int .u64 150] 111)).alloc (.cells #[.int .i64 c, .int .i64 k] 101)).setCell ⟨F, 0, none⟩ (.int .i64 c)).setCell ⟨F, 1, none⟩ (.int .i64 k) := by
  have e1 := @run_callFunc_extern Tryd.prog 84 _ (fun args => ReflectliteValue.unpack (args.getD 0 (.tuple #[]))) Tryd.func84 (by kernel_rfl) (by kernel_rfl) (by kernel_rfl) (by kernel_rfl)
  have e2 := @run_callFunc_extern Tryd.prog 85 _ (ReflectliteValue.methodAny (ReflectliteValue.valueError "reflectlite.Value.Type" 0) (fun t _ _ _ => ReflectliteType.toType t)) Tryd.func85 (by kernel_rfl) (by kernel_rfl) (by kernel_rfl) (by kernel_rfl)
  have e3 := @run_callFunc_extern Tryd.prog 86 _ (ReflectliteValue.method (ReflectliteValue.valueError "reflectlite.Value.IsNil" 0) ReflectliteValue.isNil) Tryd.func86 (by kernel_rfl) (by kernel_rfl) (by kernel_rfl) (by kernel_rfl)
  have e4 := @run_callFunc_extern Tryd.prog 108 _ (ReflectliteType.abiMethod fun t => do pure (.int .u8 (← Rtype.kind t))) Tryd.func108 (by kernel_rfl) (by kernel_rfl) (by kernel_rfl) (by kernel_rfl)
  have e5 := @run_callFunc_extern Tryd.prog 118 _ (ReflectliteType.method ReflectliteType.elem) Tryd.func118 (by kernel_rfl) (by kernel_rfl) (by kernel_rfl) (by kernel_rfl)
  have e6 := @run_callFunc_extern Tryd.prog 119 _ (ReflectliteType.relation "Implements" ReflectliteType.implements_) Tryd.func119 (by kernel_rfl) (by kernel_rfl) (by kernel_rfl) (by kernel_rfl)
  have e7 := @run_callFunc_extern Tryd.prog 91 _ ReflectliteType.typeOf Tryd.func91 (by kernel_rfl) (by kernel_rfl) (by kernel_rfl) (by kernel_rfl)
  have e8 := @run_callFunc_extern Tryd.prog 116 _ (ReflectliteType.relation "AssignableTo" ReflectliteType.assignableTo) Tryd.func116 (by kernel_rfl) (by kernel_rfl) (by kernel_rfl) (by kernel_rfl)
  have e9 := @run_callFunc_extern Tryd.prog 92 _ (ReflectliteValue.method (ReflectliteValue.valueError "reflectlite.Value.Elem" 0) ReflectliteValue.elem) Tryd.func92 (by kernel_rfl) (by kernel_rfl) (by kernel_rfl) (by kernel_rfl)
  have e10 := @run_callFunc_extern Tryd.prog 93 _ ReflectliteValue.set Tryd.func93 (by kernel_rfl) (by kernel_rfl) (by kernel_rfl) (by kernel_rfl)
  have tO := typeOfF
  have mA := methodAssignableTo
  have aF := assignableF
  have vF := valueOfF
  have vP := valueOfP
  have tP := typeP
  have mK := methodKind
  have mE := methodElem
  have mI := methodImplements
  have kP := kindP
  have kF := kindF
  have lP := elemP
  have iF := implementsF
  have hFl : F < w.heap.size := World.block_lt_of_cell? w _ hf0
  have hEl : 1 < w.heap.size := World.block_lt_of_cell? w _ hg
  have n8 := isNilP ⟨w.heap.size, 0, none⟩ ⟨F, 0, none⟩ ((w.alloc (.cells #[.pointer (some ⟨F, 0, none⟩)] 103)).alloc (.cells #[.pointer (some ⟨2, 103, none⟩), .pointer (some ⟨w.heap.size, 0, none⟩), .int .u64 150] 111)) (by simp)
  have hg2 : ((w.alloc (.cells #[.pointer (some ⟨F, 0, none⟩)] 103)).alloc (.cells #[.pointer (some ⟨2, 103, none⟩), .pointer (some ⟨w.heap.size, 0, none⟩), .int .u64 150] 111)).cell? ⟨1, 0, none⟩ = some (.iface 126 (.agg #[.pointer (some ⟨2, 81, none⟩)])) := by
    rw [World.cell?_alloc_lt _ _ ⟨1, 0, none⟩ (by simp; omega), World.cell?_alloc_lt _ _ ⟨1, 0, none⟩ hEl]; exact hg
  have el := elemVP ⟨w.heap.size, 0, none⟩ ⟨F, 0, none⟩ (((w.alloc (.cells #[.pointer (some ⟨F, 0, none⟩)] 103)).alloc (.cells #[.pointer (some ⟨2, 103, none⟩), .pointer (some ⟨w.heap.size, 0, none⟩), .int .u64 150] 111)).alloc (.cells #[.pointer (some ⟨2, 103, none⟩), .pointer (some ⟨w.heap.size, 0, none⟩), .int .u64 150] 111)) (by rw [World.cell?_alloc_lt _ _ ⟨w.heap.size, 0, none⟩ (by simp; omega)]; simp)
  have st := setF F (w.heap.size + 1 + 1 + 1) c k x0 x1 ((((w.alloc (.cells #[.pointer (some ⟨F, 0, none⟩)] 103)).alloc (.cells #[.pointer (some ⟨2, 103, none⟩), .pointer (some ⟨w.heap.size, 0, none⟩), .int .u64 150] 111)).alloc (.cells #[.pointer (some ⟨2, 103, none⟩), .pointer (some ⟨w.heap.size, 0, none⟩), .int .u64 150] 111)).alloc (.cells #[.int .i64 c, .int .i64 k] 101))
    (by rw [World.cell?_alloc_at _ _ _ _ (by simp)]; rfl) (by rw [World.cell?_alloc_at _ _ _ _ (by simp)]; rfl)
    (by rw [World.cell?_alloc_lt _ _ ⟨F, 0, none⟩ (by simp; omega), World.cell?_alloc_lt _ _ ⟨F, 0, none⟩ (by simp; omega), World.cell?_alloc_lt _ _ ⟨F, 0, none⟩ (by simp; omega), World.cell?_alloc_lt _ _ ⟨F, 0, none⟩ hFl]; exact hf0)
    (by rw [World.cell?_alloc_lt _ _ ⟨F, 1, none⟩ (by simp; omega), World.cell?_alloc_lt _ _ ⟨F, 1, none⟩ (by simp; omega), World.cell?_alloc_lt _ _ ⟨F, 1, none⟩ (by simp; omega), World.cell?_alloc_lt _ _ ⟨F, 1, none⟩ hFl]; exact hf1)
    (by rw [World.frozen?_alloc_old _ _ ⟨F, 0, none⟩ (by simp; omega), World.frozen?_alloc_old _ _ ⟨F, 0, none⟩ (by simp; omega), World.frozen?_alloc_old _ _ ⟨F, 0, none⟩ (by simp; omega), World.frozen?_alloc_old _ _ ⟨F, 0, none⟩ (Nat.ne_of_lt hFl)]; exact hz0)
    (by rw [World.frozen?_alloc_old _ _ ⟨F, 1, none⟩ (by simp; omega), World.frozen?_alloc_old _ _ ⟨F, 1, none⟩ (by simp; omega), World.frozen?_alloc_old _ _ ⟨F, 1, none⟩ (by simp; omega), World.frozen?_alloc_old _ _ ⟨F, 1, none⟩ (Nat.ne_of_lt hFl)]; exact hz1)
  clear hf0 hf1 hz0 hz1 hg
  go_enter Tryd.func74, Tryd.ntmps74
  go_wp2
  refine wp_loop_rounds 1 ?_
  rw [rounds_succ]
  go_wp2
  go_ret
  exact ⟨rfl, rfl⟩
end Go.Proofs.YtfhjbhnfapdmmaaDoor
