/-
  errors.As at the reader's own error type, proved by walking it over the model's entries for internal/reflectlite: it answers true and lays the error into the target; and the code of a fault.
-/
import Derived.Test.YtmeekcdoajbjdaaGreatDoorGj07
import Derived.LaidEql
import Derived.Stop.Asserts
import Derived.RowKitTokens
namespace Go.Proofs.YtmeekcdoajbjdaaGreatDoor
open Go.RowKit Go.Extern.Stop Go.Stop Go.Extern
set_option linter.unusedVariables false

/-- The handle of a type. -/
def hnd (t : Nat) : Value := .pointer (some ⟨2, t, none⟩)
def fst2 (c k : Int) : Value := .agg #[.int .i64 c, .int .i64 k]

theorem valueOfP (t : Addr) (w : World) : (ReflectliteValue.unpack (.iface 111 (.pointer (some t)))).run Tryz.prog w
    = .ok (.agg #[.pointer (some ⟨2, 111, none⟩), .pointer (some ⟨w.heap.size, 0, none⟩), .int .u64 150]) (w.alloc (.cells #[.pointer (some t)] 111)) := by kernel_rfl
theorem typeP (a : Addr) (w : World) : (ReflectliteValue.methodAny (ReflectliteValue.valueError "reflectlite.Value.Type" 0) (fun t _ _ _ => ReflectliteType.toType t) #[.agg #[.pointer (some ⟨2, 111, none⟩), .pointer (some a), .int .u64 150]]).run Tryz.prog w
    = .ok (.iface 128 (.agg #[.pointer (some ⟨2, 111, none⟩)])) w := by kernel_rfl
theorem methodKind (h : Value) (w : World) : (Go.method 269 128 (.agg #[h]) "Kind").run Tryz.prog w = .ok (121, h) w := by kernel_rfl
theorem kindP (w : World) : ((ReflectliteType.abiMethod fun t => (fun a : Nat => Value.int IntKind.u8 (a : Int)) <$> Rtype.kind t) #[.pointer (some ⟨2, 111, none⟩)]).run Tryz.prog w = .ok (.int .u8 22) w := by kernel_rfl
theorem kindF (w : World) : ((ReflectliteType.abiMethod fun t => (fun a : Nat => Value.int IntKind.u8 (a : Int)) <$> Rtype.kind t) #[.pointer (some ⟨2, 109, none⟩)]).run Tryz.prog w = .ok (.int .u8 25) w := by kernel_rfl

theorem rlm (z : Sem Value) (f : TypeId → Addr → Nat → Nat → Sem Value) (v : Value) :
    ReflectliteValue.method z f #[v] = (do match ← ReflectliteValue.parts v with | none => z | some (t, a, fl) => f t a fl (fl % 32)) := rfl
theorem partsP (a : Addr) (w : World) : (ReflectliteValue.parts (.agg #[.pointer (some ⟨2, 111, none⟩), .pointer (some a), .int .u64 150])).run Tryz.prog w = .ok (some (111, a, 150)) w := by kernel_rfl
theorem isNilP (a p : Addr) (W : World) (ha : W.cell? a = some (.pointer (some p))) :
    (ReflectliteValue.method (ReflectliteValue.valueError "reflectlite.Value.IsNil" 0) ReflectliteValue.isNil #[.agg #[.pointer (some ⟨2, 111, none⟩), .pointer (some a), .int .u64 150]]).run Tryz.prog W = .ok (.bool false) W := by
  rw [rlm]
  simp only [Sem.run_bind, partsP, Result.andThen]
  simp [ReflectliteValue.isNil, loadVar, isAgg, underlying, Tryz.underlying111, ha, Result.andThen]
theorem methodElem (h : Value) (w : World) : (Go.method 269 128 (.agg #[h]) "Elem").run Tryz.prog w = .ok (131, .agg #[h]) w := by kernel_rfl
theorem methodImplements (h : Value) (w : World) : (Go.method 269 128 (.agg #[h]) "Implements").run Tryz.prog w = .ok (132, .agg #[h]) w := by kernel_rfl
theorem methodAssignableTo (h : Value) (w : World) : (Go.method 269 128 (.agg #[h]) "AssignableTo").run Tryz.prog w = .ok (129, .agg #[h]) w := by kernel_rfl
theorem elemP (w : World) : (ReflectliteType.method ReflectliteType.elem #[.agg #[.pointer (some ⟨2, 111, none⟩)]]).run Tryz.prog w = .ok (.iface 128 (.agg #[.pointer (some ⟨2, 109, none⟩)])) w := by kernel_rfl
theorem implementsF (w : World) : (ReflectliteType.relation "Implements" ReflectliteType.implements_ #[.agg #[.pointer (some ⟨2, 109, none⟩)], .iface 128 (.agg #[.pointer (some ⟨2, 98, none⟩)])]).run Tryz.prog w = .ok (.bool true) w := by kernel_rfl
theorem typeOfF (v : Value) (w : World) : (ReflectliteType.typeOf #[.iface 109 v]).run Tryz.prog w = .ok (.iface 128 (.agg #[.pointer (some ⟨2, 109, none⟩)])) w := by kernel_rfl
theorem assignableF (w : World) : (ReflectliteType.relation "AssignableTo" ReflectliteType.assignableTo #[.agg #[.pointer (some ⟨2, 109, none⟩)], .iface 128 (.agg #[.pointer (some ⟨2, 109, none⟩)])]).run Tryz.prog w = .ok (.bool true) w := by kernel_rfl
theorem valueOfF (c k : Int) (w : World) : (ReflectliteValue.unpack (.iface 109 (.agg #[.int .i64 c, .int .i64 k]))).run Tryz.prog w
    = .ok (.agg #[.pointer (some ⟨2, 109, none⟩), .pointer (some ⟨w.heap.size, 0, none⟩), .int .u64 153]) (w.alloc (.cells #[.int .i64 c, .int .i64 k] 109)) := by kernel_rfl
theorem elemOfP (w : World) : (Rtype.elem? 111).run Tryz.prog w = .ok (some 109) w := by kernel_rfl
theorem mkF (p : Addr) (w : World) : (ReflectliteValue.mk 109 p ReflectliteValue.flagAddr).run Tryz.prog w = .ok (.agg #[.pointer (some ⟨2, 109, none⟩), .pointer (some p), .int .u64 409]) w := by kernel_rfl
theorem elemVP (a p : Addr) (W : World) (ha : W.cell? a = some (.pointer (some p))) :
    (ReflectliteValue.method (ReflectliteValue.valueError "reflectlite.Value.Elem" 0) ReflectliteValue.elem #[.agg #[.pointer (some ⟨2, 111, none⟩), .pointer (some a), .int .u64 150]]).run Tryz.prog W
      = .ok (.agg #[.pointer (some ⟨2, 109, none⟩), .pointer (some p), .int .u64 409]) W := by
  rw [rlm]
  simp only [Sem.run_bind, partsP, Result.andThen]
  simp [ReflectliteValue.elem, loadVar, isAgg, underlying, Tryz.underlying111, ha, Result.andThen, elemOfP, mkF]
theorem partsFa (a : Addr) (w : World) : (ReflectliteValue.parts (.agg #[.pointer (some ⟨2, 109, none⟩), .pointer (some a), .int .u64 409])).run Tryz.prog w = .ok (some (109, a, 409)) w := by kernel_rfl
theorem partsF (a : Addr) (w : World) : (ReflectliteValue.parts (.agg #[.pointer (some ⟨2, 109, none⟩), .pointer (some a), .int .u64 153])).run Tryz.prog w = .ok (some (109, a, 153)) w := by kernel_rfl
theorem directF (w : World) : (Rtype.directlyAssignable 109 109).run Tryz.prog w = .ok true w := by kernel_rfl
end Go.Proofs.YtmeekcdoajbjdaaGreatDoor
namespace Go.Proofs.YtmeekcdoajbjdaaGreatDoor
open Go.RowKit Go.Extern.Stop Go.Stop Go.Extern
set_option linter.unusedVariables false

theorem load2 {P : Program} (V : Nat) (x y : Value) (W : World) (hv0 : W.cell? ⟨V, 0, none⟩ = some x) (hv1 : W.cell? ⟨V, 1, none⟩ = some y) :
    (loadCellsFrom ⟨V, 0, none⟩ 0 2 #[]).run P W = .ok #[x, y] W := by
  simp [loadCellsFrom, hv0, hv1, Addr.add, Result.andThen]
theorem store2 {P : Program} (F : Nat) (c k : Int) (x0 x1 : Value) (W : World)
    (hf0 : W.cell? ⟨F, 0, none⟩ = some x0) (hf1 : W.cell? ⟨F, 1, none⟩ = some x1) (hz0 : W.frozen? ⟨F, 0, none⟩ = false) (hz1 : W.frozen? ⟨F, 1, none⟩ = false) :
    (storeCells ⟨F, 0, none⟩ [.int .i64 c, .int .i64 k]).run P W = .ok () ((W.setCell ⟨F, 0, none⟩ (.int .i64 c)).setCell ⟨F, 1, none⟩ (.int .i64 k)) := by
  have h1 : (W.setCell ⟨F, 0, none⟩ (.int .i64 c)).cell? ⟨F, 1, none⟩ = some x1 := by
    rw [World.cell?_setCell_other _ _ _ _ (addr_ne (by omega))]; exact hf1
  have h2 : (W.setCell ⟨F, 0, none⟩ (.int .i64 c)).frozen? ⟨F, 1, none⟩ = false := by rw [World.frozen?_setCell]; exact hz1
  simp only [storeCells, Sem.run_bind, Addr.add]
  rw [run_store P W _ _ _ (by rfl)]
  simp [hf0, hz0, Result.andThen]
  rw [run_store P _ _ _ _ (by rfl)]
  simp [h1, h2]
theorem set_two {α : Type} (f : Value → Value → α) (g : Array Value → α) (v x : Value) :
    ReflectliteValue.set.match_3 (fun _ => α) #[v, x] f g = f v x := rfl
theorem setF (F V : Nat) (c k : Int) (x0 x1 : Value) (W : World) (hv0 : W.cell? ⟨V, 0, none⟩ = some (.int .i64 c)) (hv1 : W.cell? ⟨V, 1, none⟩ = some (.int .i64 k))
    (hf0 : W.cell? ⟨F, 0, none⟩ = some x0) (hf1 : W.cell? ⟨F, 1, none⟩ = some x1) (hz0 : W.frozen? ⟨F, 0, none⟩ = false) (hz1 : W.frozen? ⟨F, 1, none⟩ = false) :
    (ReflectliteValue.set #[.agg #[.pointer (some ⟨2, 109, none⟩), .pointer (some ⟨F, 0, none⟩), .int .u64 409], .agg #[.pointer (some ⟨2, 109, none⟩), .pointer (some ⟨V, 0, none⟩), .int .u64 153]]).run Tryz.prog W
      = .ok (.tuple #[]) ((W.setCell ⟨F, 0, none⟩ (.int .i64 c)).setCell ⟨F, 1, none⟩ (.int .i64 k)) := by
  unfold ReflectliteValue.set
  rw [set_two]
  simp only [Sem.run_bind, partsFa, partsF, Result.andThen]
  simp [ReflectliteValue.flagAddr, loadVar, loadCells, Result.andThen, directF, storeVar, Value.cells]
  rw [load2 V _ _ W hv0 hv1]
  simp
  rw [store2 F c k x0 x1 W hf0 hf1 hz0 hz1]
end Go.Proofs.YtmeekcdoajbjdaaGreatDoor
namespace Go.Proofs.YtmeekcdoajbjdaaGreatDoor
open Go.RowKit Go.Extern.Stop Go.Stop Go.Extern
set_option linter.unusedVariables false

/-- The variable that errors.As holds types against, as the program's text lays it. -/
def ErrT (w : World) : Prop := w.cell? ⟨1, 0, none⟩ = some (.iface 128 (.agg #[.pointer (some ⟨2, 98, none⟩)]))
theorem errT_below {B : Nat} {w w' : World} (h : ErrT w) (hb : Below B w w') (hB : w.heap.size ≤ B) : ErrT w' :=
  (hb.cell (p := ⟨_, 0, none⟩) (Nat.lt_of_lt_of_le (World.block_lt_of_cell? w _ h) hB)).trans h

set_option maxRecDepth 100000 in
set_option maxHeartbeats 4000000 in
theorem as_hit (F : Nat) (c k : Int) (x0 x1 : Value) (w : World) (hg : ErrT w) (hf0 : w.cell? ⟨F, 0, none⟩ = some x0) (hf1 : w.cell? ⟨F, 1, none⟩ = some x1)
    (hz0 : w.frozen? ⟨F, 0, none⟩ = false) (hz1 : w.frozen? ⟨F, 1, none⟩ = false) :
    Calls Tryz.prog 96 #[.iface 109 (.agg #[.int .i64 c, .int .i64 k]), .iface 111 (.pointer (some ⟨F, 0, none⟩))] w fun ev w' => ev = .returned (.bool true) ∧
      w' = (((((w.alloc (.cells #[.pointer (some ⟨F, 0, none⟩)] 111)).alloc (.cells #[.pointer (some ⟨2, 111, none⟩), .pointer (some ⟨w.heap.size, 0, none⟩), .int .u64 150] 118)).alloc
        (.cells #[.pointer (some ⟨2, 111, none⟩), .pointer (some ⟨w.heap.size, 0, none⟩), .int .u64 150] 118)).alloc (.cells #[.int .i64 c, .int .i64 k] 109)).setCell ⟨F, 0, none⟩ (.int .i64 c)).setCell ⟨F, 1, none⟩ (.int .i64 k) := by
  have e1 := @run_callFunc_extern Tryz.prog 100 _ (fun args => ReflectliteValue.unpack (args.getD 0 (.tuple #[]))) Tryz.func100 (by kernel_rfl) (by kernel_rfl) (by kernel_rfl) (by kernel_rfl)
  have e2 := @run_callFunc_extern Tryz.prog 101 _ (ReflectliteValue.methodAny (ReflectliteValue.valueError "reflectlite.Value.Type" 0) (fun t _ _ _ => ReflectliteType.toType t)) Tryz.func101 (by kernel_rfl) (by kernel_rfl) (by kernel_rfl) (by kernel_rfl)
  have e3 := @run_callFunc_extern Tryz.prog 102 _ (ReflectliteValue.method (ReflectliteValue.valueError "reflectlite.Value.IsNil" 0) ReflectliteValue.isNil) Tryz.func102 (by kernel_rfl) (by kernel_rfl) (by kernel_rfl) (by kernel_rfl)
  have e4 := @run_callFunc_extern Tryz.prog 121 _ (ReflectliteType.abiMethod fun t => do pure (.int .u8 (← Rtype.kind t))) Tryz.func121 (by kernel_rfl) (by kernel_rfl) (by kernel_rfl) (by kernel_rfl)
  have e5 := @run_callFunc_extern Tryz.prog 131 _ (ReflectliteType.method ReflectliteType.elem) Tryz.func131 (by kernel_rfl) (by kernel_rfl) (by kernel_rfl) (by kernel_rfl)
  have e6 := @run_callFunc_extern Tryz.prog 132 _ (ReflectliteType.relation "Implements" ReflectliteType.implements_) Tryz.func132 (by kernel_rfl) (by kernel_rfl) (by kernel_rfl) (by kernel_rfl)
  have e7 := @run_callFunc_extern Tryz.prog 104 _ ReflectliteType.typeOf Tryz.func104 (by kernel_rfl) (by kernel_rfl) (by kernel_rfl) (by kernel_rfl)
  have e8 := @run_callFunc_extern Tryz.prog 129 _ (ReflectliteType.relation "AssignableTo" ReflectliteType.assignableTo) Tryz.func129 (by kernel_rfl) (by kernel_rfl) (by kernel_rfl) (by kernel_rfl)
  have e9 := @run_callFunc_extern Tryz.prog 105 _ (ReflectliteValue.method (ReflectliteValue.valueError "reflectlite.Value.Elem" 0) ReflectliteValue.elem) Tryz.func105 (by kernel_rfl) (by kernel_rfl) (by kernel_rfl) (by kernel_rfl)
  have e10 := @run_callFunc_extern Tryz.prog 106 _ ReflectliteValue.set Tryz.func106 (by kernel_rfl) (by kernel_rfl) (by kernel_rfl) (by kernel_rfl)
  have tO := typeOfF
  have mA := methodAssignableTo
  have aF := assignableF
  have vF := valueOfF
  have vP := valueOfP
  have tP := typeP
  have mK := methodKind
  have mE := methodElem
  have mI := methodImplements
  have kP := kindP
  have kF := kindF
  have lP := elemP
  have iF := implementsF
  have hFl : F < w.heap.size := World.block_lt_of_cell? w _ hf0
  have hEl : 1 < w.heap.size := World.block_lt_of_cell? w _ hg
  have n8 := isNilP ⟨w.heap.size, 0, none⟩ ⟨F, 0, none⟩ ((w.alloc (.cells #[.pointer (some ⟨F, 0, none⟩)] 111)).alloc (.cells #[.pointer (some ⟨2, 111, none⟩), .pointer (some ⟨w.heap.size, 0, none⟩), .int .u64 150] 118)) (by simp)
  have hg2 : ((w.alloc (.cells #[.pointer (some ⟨F, 0, none⟩)] 111)).alloc (.cells #[.pointer (some ⟨2, 111, none⟩), .pointer (some ⟨w.heap.size, 0, none⟩), .int .u64 150] 118)).cell? ⟨1, 0, none⟩ = some (.iface 128 (.agg #[.pointer (some ⟨2, 98, none⟩)])) := by
    rw [World.cell?_alloc_lt _ _ ⟨1, 0, none⟩ (by simp; omega), World.cell?_alloc_lt _ _ ⟨1, 0, none⟩ hEl]; exact hg
  have el := elemVP ⟨w.heap.size, 0, none⟩ ⟨F, 0, none⟩ (((w.alloc (.cells #[.pointer (some ⟨F, 0, none⟩)] 111)).alloc (.cells #[.pointer (some ⟨2, 111, none⟩), .pointer (some ⟨w.heap.size, 0, none⟩), .int .u64 150] 118)).alloc (.cells #[.pointer (some ⟨2, 111, none⟩), .pointer (some ⟨w.heap.size, 0, none⟩), .int .u64 150] 118)) (by rw [World.cell?_alloc_lt _ _ ⟨w.heap.size, 0, none⟩ (by simp; omega)]; simp)
  have st := setF F (w.heap.size + 1 + 1 + 1) c k x0 x1 ((((w.alloc (.cells #[.pointer (some ⟨F, 0, none⟩)] 111)).alloc (.cells #[.pointer (some ⟨2, 111, none⟩), .pointer (some ⟨w.heap.size, 0, none⟩), .int .u64 150] 118)).alloc (.cells #[.pointer (some ⟨2, 111, none⟩), .pointer (some ⟨w.heap.size, 0, none⟩), .int .u64 150] 118)).alloc (.cells #[.int .i64 c, .int .i64 k] 109))
    (by rw [World.cell?_alloc_at _ _ _ _ (by simp)]; rfl) (by rw [World.cell?_alloc_at _ _ _ _ (by simp)]; rfl)
    (by rw [World.cell?_alloc_lt _ _ ⟨F, 0, none⟩ (by simp; omega), World.cell?_alloc_lt _ _ ⟨F, 0, none⟩ (by simp; omega), World.cell?_alloc_lt _ _ ⟨F, 0, none⟩ (by simp; omega), World.cell?_alloc_lt _ _ ⟨F, 0, none⟩ hFl]; exact hf0)
    (by rw [World.cell?_alloc_lt _ _ ⟨F, 1, none⟩ (by simp; omega), World.cell?_alloc_lt _ _ ⟨F, 1, none⟩ (by simp; omega), World.cell?_alloc_lt _ _ ⟨F, 1, none⟩ (by simp; omega), World.cell?_alloc_lt _ _ ⟨F, 1, none⟩ hFl]; exact hf1)
    (by rw [World.frozen?_alloc_old _ _ ⟨F, 0, none⟩ (by simp; omega), World.frozen?_alloc_old _ _ ⟨F, 0, none⟩ (by simp; omega), World.frozen?_alloc_old _ _ ⟨F, 0, none⟩ (by simp; omega), World.frozen?_alloc_old _ _ ⟨F, 0, none⟩ (Nat.ne_of_lt hFl)]; exact hz0)
    (by rw [World.frozen?_alloc_old _ _ ⟨F, 1, none⟩ (by simp; omega), World.frozen?_alloc_old _ _ ⟨F, 1, none⟩ (by simp; omega), World.frozen?_alloc_old _ _ ⟨F, 1, none⟩ (by simp; omega), World.frozen?_alloc_old _ _ ⟨F, 1, none⟩ (Nat.ne_of_lt hFl)]; exact hz1)
  clear hf0 hf1 hz0 hz1 hg
  go_enter Tryz.func96, Tryz.ntmps96
  go_wp2
  refine wp_loop_rounds 1 ?_
  rw [rounds_succ]
  go_wp2
  go_ret
  exact ⟨rfl, rfl⟩
end Go.Proofs.YtmeekcdoajbjdaaGreatDoor
namespace Go.Proofs.YtmeekcdoajbjdaaGreatDoor
open Go.RowKit
set_option linter.unusedVariables false

set_option maxRecDepth 100000 in
set_option maxHeartbeats 1000000 in
theorem codeOf_any (c k : Int) (w : World) (hg : ErrT w) :
    Calls Tryz.prog 83 #[faultV c k] w fun e w' => e = .returned (.int .i64 c) ∧ Below w.heap.size w w' := by
  have HG := hide (errT_below hg ((Below.refl _ w).alloc (Nat.le_refl _) (.cells #[.int .i64 0, .int .i64 0] 109)) (Nat.le_refl _))
  clear hg
  unfold faultV
  go_enter Tryz.func83, Tryz.ntmps83
  go_wp2_with fail
  refine (as_hit w.heap.size c k (.int .i64 0) (.int .i64 0) _ (unhide HG) (by simp) (by simp) (by simp) (by simp)).mono ?_
  rintro e w1 ⟨rfl, hw1⟩
  have hc0 : w1.cell? ⟨w.heap.size, 0, none⟩ = some (.int .i64 c) := by
    rw [hw1, World.cell?_setCell_other _ _ _ _ (addr_ne (by omega))]
    refine World.cell?_setCell_same _ _ _ (u := .int .i64 0) ?_
    rw [World.cell?_alloc_lt _ _ ⟨w.heap.size, 0, none⟩ (by simp; omega), World.cell?_alloc_lt _ _ ⟨w.heap.size, 0, none⟩ (by simp; omega), World.cell?_alloc_lt _ _ ⟨w.heap.size, 0, none⟩ (by simp; omega), World.cell?_alloc_lt _ _ ⟨w.heap.size, 0, none⟩ (by simp)]
    simp
  have hb : Hid (Below w.heap.size w w1) := by
    rw [hw1]
    exact ((((((Below.refl _ w).alloc (Nat.le_refl _) _).alloc (by simp) _).alloc (by simp; omega) _).alloc (by simp; omega) _).alloc (by simp; omega) _ |>.setCell (p := ⟨w.heap.size, 0, none⟩) (Nat.le_refl _) _).setCell (p := ⟨w.heap.size, 1, none⟩) (Nat.le_refl _) _
  clear hw1
  go_wp2_with fail
  go_ret
  exact ⟨rfl, unhide hb⟩

set_option maxRecDepth 100000 in
theorem number_empty (B : Nat) (w : World) (a : Option Addr) (cap : Nat) (hr : Rdr B w (.slice a 0 cap) 0) :
    Calls Tryz.prog 89 #[.pointer (some ⟨B, 0, none⟩)] w fun e w' => NumEnd B (.slice a 0 cap) w none e w' := by
  go_enter Tryz.func89, Tryz.ntmps89
  go_wp2_with fail
  refine wp_loop_rounds 1 ?_
  rw [rounds_succ]
  go_wp2_with fail
  refine (take_end B 1 0 a 0 cap _ hr (by omega) (by omega) (by omega) (by omega) (by omega)).mono ?_
  rintro e w1 ⟨rfl, q, rfl⟩
  go_wp2_with fail
  exact ⟨rfl, numEnd_fail (gr_drewN _ _ _) rfl _⟩

/-- The bytes are read with the reader in a new block. -/
theorem number_any (B : Nat) (v : Value) (l : List Int) (k : Nat) (w w0 : World) (hrd : Rd w v l) (hcap : ∀ a n c, v = .slice a n c → n ≤ c) (hBw : w.heap.size ≤ B) (hbel : Below w.heap.size w w0) (hr : Rdr B w0 v k) (hk : k ≤ l.length) (hl : l.length ≤ 65536) (hb : Bts l) :
    Calls Tryz.prog 89 #[.pointer (some ⟨B, 0, none⟩)] w0 fun e w' => NumEnd B v w0 (getU l k) e w' := by
  have hrd0 := rd_below hrd hbel (Nat.le_refl _)
  obtain ⟨a, cap, rfl, _, hc⟩ := hrd0
  obtain ⟨a', cap', e', _, hc'⟩ := hrd
  by_cases hne : l = []
  · subst hne
    obtain rfl : k = 0 := by simpa using hk
    have : getU [] 0 = none := rfl
    rw [this]
    exact number_empty B w0 a cap hr
  · obtain ⟨b, off, rfl, hcell⟩ := hc hne
    have hlt : b < w.heap.size := by
      simp only [Value.slice.injEq] at e'
      obtain ⟨rfl, _, rfl⟩ := e'
      obtain ⟨b2, o2, e2, hcell2⟩ := hc' hne
      simp only [Option.some.injEq, Addr.mk.injEq] at e2
      obtain ⟨rfl, rfl, _⟩ := e2
      have hp : 0 < l.length := List.length_pos_iff.2 hne
      exact World.block_lt_of_cell? w _ (hcell2 0 hp)
    exact number_some B w0 b off cap k l hr hk hl (hcap _ _ _ rfl) (by omega) hcell hb
end Go.Proofs.YtmeekcdoajbjdaaGreatDoor
