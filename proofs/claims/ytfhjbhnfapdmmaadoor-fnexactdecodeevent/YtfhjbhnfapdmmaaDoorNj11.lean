/-
  The reader of bytes: its error as a value, and what stays of it where other blocks are made or written; no function walked.
-/
import Derived.Test.YtfhjbhnfapdmmaaDoorNj10
import Derived.Defers
import Derived.Recover
import Derived.Laws.Pointers
import Derived.Stop.Asserts
import Derived.LaidEql
import Derived.RowKitTokens
namespace Go.Proofs.YtfhjbhnfapdmmaaDoor
open Go.RowKit
set_option linter.unusedVariables false

/-- The reader's error as a value. -/
def faultV (c k : Int) : Value := .iface 101 (.agg #[.int .i64 c, .int .i64 k])

theorem ta_fault (c k : Int) (w : World) : (Instr.typeAssert (.iface 101 (.agg #[.int .i64 c, .int .i64 k])) 20 81 true).run Tryd.prog w =
    .ok (.tuple #[.iface 101 (.agg #[.int .i64 c, .int .i64 k]), .bool true]) w := by kernel_rfl
theorem ta_nil (w : World) : (Instr.typeAssert .nilIface 20 81 true).run Tryd.prog w = .ok (.tuple #[.nilIface, .bool false]) w := by kernel_rfl
theorem rdr_below {B C : Nat} {w w' : World} {v : Value} {k : Int} (h : Rdr B w v k) (hb : Below C w w') (hB : B < C) : Rdr B w' v k :=
  ⟨(hb.cell (p := ⟨B, 0, none⟩) hB).trans h.1, (hb.cell (p := ⟨B, 1, none⟩) hB).trans h.2, (hb.frozen (p := ⟨B, 1, none⟩) hB).trans h.3⟩
theorem rdr_grown {B g : Nat} {w w' : World} {v : Value} {k : Int} (h : Rdr B w v k) (hb : w.grownBy w' (some g)) (hne : B ≠ g) : Rdr B w' v k := by
  have hlt := World.block_lt_of_cell? w _ h.1
  have hblk := hb.block B hlt (by simpa using hne)
  exact ⟨(World.cell?_of_block (a := ⟨B, 0, none⟩) hblk).trans h.1, (World.cell?_of_block (a := ⟨B, 1, none⟩) hblk).trans h.2, (World.frozen?_of_block (a := ⟨B, 1, none⟩) hblk).trans h.3⟩
theorem gr_err {B q : Nat} {w w2 : World} {x : Value} (hg : ((w.alloc (.cells #[.nilIface] 81)).drewN q).grownBy w2 (some B)) : w.grownBy (w2.setCell ⟨w.heap.size, 0, none⟩ x) (some B) := by
  refine ⟨hg.os, hg.tape, hg.output, ?_, fun i hi hne => ?_⟩
  · have := hg.size; simp [World.setCell] at this ⊢; omega
  · rw [Below.heap_setCell _ _ _ _ (by show i ≠ w.heap.size; omega), hg.block i (by simp; omega) hne]
    exact Below.heap_alloc w _ i hi
def CapOk (v : Value) : Prop := ∀ a n c, v = .slice a n c → n ≤ c
theorem rdr_new (w : World) (v : Value) (k : Int) : Rdr w.heap.size (w.alloc (.cells #[v, .int .i64 k] 79)) v k :=
  ⟨by simp, by simp, by simp⟩
theorem capOk_own {B : Nat} {w : World} {v : Value} {l : List Int} (h : OwnT B w v l) : CapOk v := by
  obtain ⟨g, cap, cur, t, rfl, _, _, h1, _⟩ := h
  intro a n c e
  simp only [Value.slice.injEq] at e
  omega
end Go.Proofs.YtfhjbhnfapdmmaaDoor
namespace Go.Proofs.YtfhjbhnfapdmmaaDoor
open Go.RowKit Go.Extern.Stop Go.Stop Go.Extern
set_option linter.unusedVariables false

/-- The handle of a type. -/
def hnd (t : Nat) : Value := .pointer (some ⟨2, t, none⟩)
def fst2 (c k : Int) : Value := .agg #[.int .i64 c, .int .i64 k]

theorem valueOfP (t : Addr) (w : World) : (ReflectliteValue.unpack (.iface 103 (.pointer (some t)))).run Tryd.prog w
    = .ok (.agg #[.pointer (some ⟨2, 103, none⟩), .pointer (some ⟨w.heap.size, 0, none⟩), .int .u64 150]) (w.alloc (.cells #[.pointer (some t)] 103)) := by kernel_rfl
theorem typeP (a : Addr) (w : World) : (ReflectliteValue.methodAny (ReflectliteValue.valueError "reflectlite.Value.Type" 0) (fun t _ _ _ => ReflectliteType.toType t) #[.agg #[.pointer (some ⟨2, 103, none⟩), .pointer (some a), .int .u64 150]]).run Tryd.prog w
    = .ok (.iface 126 (.agg #[.pointer (some ⟨2, 103, none⟩)])) w := by kernel_rfl
theorem methodKind (h : Value) (w : World) : (Go.method 267 126 (.agg #[h]) "Kind").run Tryd.prog w = .ok (108, h) w := by kernel_rfl
theorem kindP (w : World) : ((ReflectliteType.abiMethod fun t => (fun a : Nat => Value.int IntKind.u8 (a : Int)) <$> Rtype.kind t) #[.pointer (some ⟨2, 103, none⟩)]).run Tryd.prog w = .ok (.int .u8 22) w := by kernel_rfl
theorem kindF (w : World) : ((ReflectliteType.abiMethod fun t => (fun a : Nat => Value.int IntKind.u8 (a : Int)) <$> Rtype.kind t) #[.pointer (some ⟨2, 101, none⟩)]).run Tryd.prog w = .ok (.int .u8 25) w := by kernel_rfl

theorem rlm (z : Sem Value) (f : TypeId → Addr → Nat → Nat → Sem Value) (v : Value) :
    ReflectliteValue.method z f #[v] = (do match ← ReflectliteValue.parts v with | none => z | some (t, a, fl) => f t a fl (fl % 32)) := rfl
theorem partsP (a : Addr) (w : World) : (ReflectliteValue.parts (.agg #[.pointer (some ⟨2, 103, none⟩), .pointer (some a), .int .u64 150])).run Tryd.prog w = .ok (some (103, a, 150)) w := by kernel_rfl
theorem isNilP (a p : Addr) (W : World) (ha : W.cell? a = some (.pointer (some p))) :
    (ReflectliteValue.method (ReflectliteValue.valueError "reflectlite.Value.IsNil" 0) ReflectliteValue.isNil #[.agg #[.pointer (some ⟨2, 103, none⟩), .pointer (some a), .int .u64 150]]).run Tryd.prog W = .ok (.bool false) W := by
  rw [rlm]
  simp only [Sem.run_bind, partsP, Result.andThen]
  simp [ReflectliteValue.isNil, loadVar, isAgg, underlying, Tryd.underlying103, ha, Result.andThen]
theorem methodElem (h : Value) (w : World) : (Go.method 267 126 (.agg #[h]) "Elem").run Tryd.prog w = .ok (118, .agg #[h]) w := by kernel_rfl
theorem methodImplements (h : Value) (w : World) : (Go.method 267 126 (.agg #[h]) "Implements").run Tryd.prog w = .ok (119, .agg #[h]) w := by kernel_rfl
theorem methodAssignableTo (h : Value) (w : World) : (Go.method 267 126 (.agg #[h]) "AssignableTo").run Tryd.prog w = .ok (116, .agg #[h]) w := by kernel_rfl
theorem elemP (w : World) : (ReflectliteType.method ReflectliteType.elem #[.agg #[.pointer (some ⟨2, 103, none⟩)]]).run Tryd.prog w = .ok (.iface 126 (.agg #[.pointer (some ⟨2, 101, none⟩)])) w := by kernel_rfl
theorem implementsF (w : World) : (ReflectliteType.relation "Implements" ReflectliteType.implements_ #[.agg #[.pointer (some ⟨2, 101, none⟩)], .iface 126 (.agg #[.pointer (some ⟨2, 81, none⟩)])]).run Tryd.prog w = .ok (.bool true) w := by kernel_rfl
theorem typeOfF (v : Value) (w : World) : (ReflectliteType.typeOf #[.iface 101 v]).run Tryd.prog w = .ok (.iface 126 (.agg #[.pointer (some ⟨2, 101, none⟩)])) w := by kernel_rfl
theorem assignableF (w : World) : (ReflectliteType.relation "AssignableTo" ReflectliteType.assignableTo #[.agg #[.pointer (some ⟨2, 101, none⟩)], .iface 126 (.agg #[.pointer (some ⟨2, 101, none⟩)])]).run Tryd.prog w = .ok (.bool true) w := by kernel_rfl
theorem valueOfF (c k : Int) (w : World) : (ReflectliteValue.unpack (.iface 101 (.agg #[.int .i64 c, .int .i64 k]))).run Tryd.prog w
    = .ok (.agg #[.pointer (some ⟨2, 101, none⟩), .pointer (some ⟨w.heap.size, 0, none⟩), .int .u64 153]) (w.alloc (.cells #[.int .i64 c, .int .i64 k] 101)) := by kernel_rfl
theorem elemOfP (w : World) : (Rtype.elem? 103).run Tryd.prog w = .ok (some 101) w := by kernel_rfl
theorem mkF (p : Addr) (w : World) : (ReflectliteValue.mk 101 p ReflectliteValue.flagAddr).run Tryd.prog w = .ok (.agg #[.pointer (some ⟨2, 101, none⟩), .pointer (some p), .int .u64 409]) w := by kernel_rfl
theorem elemVP (a p : Addr) (W : World) (ha : W.cell? a = some (.pointer (some p))) :
    (ReflectliteValue.method (ReflectliteValue.valueError "reflectlite.Value.Elem" 0) ReflectliteValue.elem #[.agg #[.pointer (some ⟨2, 103, none⟩), .pointer (some a), .int .u64 150]]).run Tryd.prog W
      = .ok (.agg #[.pointer (some ⟨2, 101, none⟩), .pointer (some p), .int .u64 409]) W := by
  rw [rlm]
  simp only [Sem.run_bind, partsP, Result.andThen]
  simp [ReflectliteValue.elem, loadVar, isAgg, underlying, Tryd.underlying103, ha, Result.andThen, elemOfP, mkF]
theorem partsFa (a : Addr) (w : World) : (ReflectliteValue.parts (.agg #[.pointer (some ⟨2, 101, none⟩), .pointer (some a), .int .u64 409])).run Tryd.prog w = .ok (some (101, a, 409)) w := by kernel_rfl
theorem partsF (a : Addr) (w : World) : (ReflectliteValue.parts (.agg #[.pointer (some ⟨2, 101, none⟩), .pointer (some a), .int .u64 153])).run Tryd.prog w = .ok (some (101, a, 153)) w := by kernel_rfl
theorem directF (w : World) : (Rtype.directlyAssignable 101 101).run Tryd.prog w = .ok true w := by kernel_rfl
end Go.Proofs.YtfhjbhnfapdmmaaDoor
namespace Go.Proofs.YtfhjbhnfapdmmaaDoor
open Go.RowKit Go.Extern.Stop Go.Stop Go.Extern
set_option linter.unusedVariables false

theorem load2 {P : Program} (V : Nat) (x y : Value) (W : World) (hv0 : W.cell? ⟨V, 0, none⟩ = some x) (hv1 : W.cell? ⟨V, 1, none⟩ = some y) :
    (loadCellsFrom ⟨V, 0, none⟩ 0 2 #[]).run P W = .ok #[x, y] W := by
  simp [loadCellsFrom, hv0, hv1, Addr.add, Result.andThen]
theorem store2 {P : Program} (F : Nat) (c k : Int) (x0 x1 : Value) (W : World)
    (hf0 : W.cell? ⟨F, 0, none⟩ = some x0) (hf1 : W.cell? ⟨F, 1, none⟩ = some x1) (hz0 : W.frozen? ⟨F, 0, none⟩ = false) (hz1 : W.frozen? ⟨F, 1, none⟩ = false) :
    (storeCells ⟨F, 0, none⟩ [.int .i64 c, .int .i64 k]).run P W = .ok () ((W.setCell ⟨F, 0, none⟩ (.int .i64 c)).setCell ⟨F, 1, none⟩ (.int .i64 k)) := by
  have h1 : (W.setCell ⟨F, 0, none⟩ (.int .i64 c)).cell? ⟨F, 1, none⟩ = some x1 := by
    rw [World.cell?_setCell_other _ _ _ _ (addr_ne (by omega))]; exact hf1
  have h2 : (W.setCell ⟨F, 0, none⟩ (.int .i64 c)).frozen? ⟨F, 1, none⟩ = false := by rw [World.frozen?_setCell]; exact hz1
  simp only [storeCells, Sem.run_bind, Addr.add]
  rw [run_store P W _ _ _ (by rfl)]
  simp [hf0, hz0, Result.andThen]
  rw [run_store P _ _ _ _ (by rfl)]
  simp [h1, h2]
theorem set_two {α : Type} (f : Value → Value → α) (g : Array Value → α) (v x : Value) :
    ReflectliteValue.set.match_3 (fun _ => α) #[v, x] f g = f v x := rfl
theorem setF (F V : Nat) (c k : Int) (x0 x1 : Value) (W : World) (hv0 : W.cell? ⟨V, 0, none⟩ = some (.int .i64 c)) (hv1 : W.cell? ⟨V, 1, none⟩ = some (.int .i64 k))
    (hf0 : W.cell? ⟨F, 0, none⟩ = some x0) (hf1 : W.cell? ⟨F, 1, none⟩ = some x1) (hz0 : W.frozen? ⟨F, 0, none⟩ = false) (hz1 : W.frozen? ⟨F, 1, none⟩ = false) :
    (ReflectliteValue.set #[.agg #[.pointer (some ⟨2, 101, none⟩), .pointer (some ⟨F, 0, none⟩), .int .u64 409], .agg #[.pointer (some ⟨2, 101, none⟩), .pointer (some ⟨V, 0, none⟩), .int .u64 153]]).run Tryd.prog W
      = .ok (.tuple #[]) ((W.setCell ⟨F, 0, none⟩ (.int .i64 c)).setCell ⟨F, 1, none⟩ (.int .i64 k)) := by
  unfold ReflectliteValue.set
  rw [set_two]
  simp only [Sem.run_bind, partsFa, partsF, Result.andThen]
  simp [ReflectliteValue.flagAddr, loadVar, loadCells, Result.andThen, directF, storeVar, Value.cells]
  rw [load2 V _ _ W hv0 hv1]
  simp
  rw [store2 F c k x0 x1 W hf0 hf1 hz0 hz1]
end Go.Proofs.YtfhjbhnfapdmmaaDoor
