/-
  errors.As at the reader's own error type, proved by walking it: it answers true and lays the error into the target; and the code of a fault.
-/
import Derived.Test.YtoaoiiafmojaaaaDoorAsW
namespace Go.Proofs.YtoaoiiafmojaaaaDoor
open Go.RowKit Go.Extern.Stop Go.Stop Go.Extern
set_option linter.unusedVariables false

theorem load2 {P : Program} (V : Nat) (x y : Value) (W : World) (hv0 : W.cell? ⟨V, 0, none⟩ = some x) (hv1 : W.cell? ⟨V, 1, none⟩ = some y) :
    (loadCellsFrom ⟨V, 0, none⟩ 0 2 #[]).run P W = .ok #[x, y] W := by
  simp [loadCellsFrom, hv0, hv1, Addr.add, Result.andThen]
theorem store2 {P : Program} (F : Nat) (c k : Int) (x0 x1 : Value) (W : World)
    (hf0 : W.cell? ⟨F, 0, none⟩ = some x0) (hf1 : W.cell? ⟨F, 1, none⟩ = some x1) (hz0 : W.frozen? ⟨F, 0, none⟩ = false) (hz1 : W.frozen? ⟨F, 1, none⟩ = false) :
    (storeCells ⟨F, 0, none⟩ [.int .i64 c, .int .i64 k]).run P W = .ok () ((W.setCell ⟨F, 0, none⟩ (.int .i64 c)).setCell ⟨F, 1, none⟩ (.int .i64 k)) := by
  have h1 : (W.setCell ⟨F, 0, none⟩ (.int .i64 c)).cell? ⟨F, 1, none⟩ = some x1 := by
    rw [World.cell?_setCell_other _ _ _ _ (addr_ne (by omega))]; exact hf1
  have h2 : (W.setCell ⟨F, 0, none⟩ (.int .i64 c)).frozen? ⟨F, 1, none⟩ = false := by rw [World.frozen?_setCell]; exact hz1
  simp only [storeCells, Sem.run_bind, Addr.add]
  rw [run_store P W _ _ _ (by rfl)]
  simp [hf0, hz0, Result.andThen]
  rw [run_store P _ _ _ _ (by rfl)]
  simp [h1, h2]
theorem set_two {α : Type} (f : Value → Value → α) (g : Array Value → α) (v x : Value) :
    ReflectliteValue.set.match_3 (fun _ => α) #[v, x] f g = f v x := rfl
theorem setF (F V : Nat) (c k : Int) (x0 x1 : Value) (W : World) (hv0 : W.cell? ⟨V, 0, none⟩ = some (.int .i64 c)) (hv1 : W.cell? ⟨V, 1, none⟩ = some (.int .i64 k))
    (hf0 : W.cell? ⟨F, 0, none⟩ = some x0) (hf1 : W.cell? ⟨F, 1, none⟩ = some x1) (hz0 : W.frozen? ⟨F, 0, none⟩ = false) (hz1 : W.frozen? ⟨F, 1, none⟩ = false) :
    (ReflectliteValue.set #[.agg #[.pointer (some ⟨2, 72, none⟩), .pointer (some ⟨F, 0, none⟩), .int .u64 409], .agg #[.pointer (some ⟨2, 72, none⟩), .pointer (some ⟨V, 0, none⟩), .int .u64 153]]).run Tryd.prog W
      = .ok (.tuple #[]) ((W.setCell ⟨F, 0, none⟩ (.int .i64 c)).setCell ⟨F, 1, none⟩ (.int .i64 k)) := by
  unfold ReflectliteValue.set
  rw [set_two]
  simp only [Sem.run_bind, partsFa, partsF, Result.andThen]
  simp [ReflectliteValue.flagAddr, loadVar, loadCells, Result.andThen, directF, storeVar, Value.cells]
  rw [load2 V _ _ W hv0 hv1]
  simp
  rw [store2 F c k x0 x1 W hf0 hf1 hz0 hz1]
end Go.Proofs.YtoaoiiafmojaaaaDoor
