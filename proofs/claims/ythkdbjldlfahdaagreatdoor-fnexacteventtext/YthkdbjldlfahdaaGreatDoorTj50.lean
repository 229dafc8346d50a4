/-
  What the row's list gives the walks: the cell of the variable that errors.As holds types against.
-/
import Derived.Test.YthkdbjldlfahdaaGreatDoorTj14
import Derived.Test.YthkdbjldlfahdaaGreatDoorTj49
import Derived.LaidLaws
import Derived.LaidHandle
import Derived.OpenShut
import Derived.MakeChecks
namespace Go.Proofs.YthkdbjldlfahdaaGreatDoor
open Go.RowKit

theorem gErr : Tryz.prog.globalNamed "errors.errorType" = some 2 := by kernel_rfl
theorem rtErr : (Tryz.prog.cutTypes.find? (·.1 == "internal/reflectlite.rtype")).map (·.2) = some 120 := by kernel_rfl
theorem oneErr : ((List.range 170).filter fun t => Tryz.prog.rowNamed t [101, 114, 114, 111, 114]) = [78] := by kernel_rfl
theorem sizeErr : Tryz.prog.types.size = 170 := by kernel_rfl
theorem err_laid {W : World} (h : laidMetH Tryz.prog [("errors.errorType", Rows.laid_errors_errorType)] W) : ErrT W := by
  have h' : laidMet Tryz.prog [] W ∧ handlesMet Tryz.prog [("errors.errorType", Rows.laid_errors_errorType)] W := h
  obtain ⟨name, u, ty, e1, e2, e3, e4, e5⟩ := h'.2 _ (List.mem_singleton.2 rfl)
  have en : name = [101, 114, 114, 111, 114] := (Option.some.inj e1).symm
  subst en
  obtain rfl := Option.some.inj (rtErr.symm.trans e2)
  have hm : ty ∈ (List.range 170).filter fun t => Tryz.prog.rowNamed t [101, 114, 114, 111, 114] := List.mem_filter.2 ⟨List.mem_range.2 (by rw [← sizeErr]; exact e3), e4⟩
  rw [oneErr] at hm
  obtain rfl := List.mem_singleton.1 hm
  have hh : typeHandle Tryz.prog 78 = .pointer (some ⟨6, 78, none⟩) := by kernel_rfl
  rw [hh] at e5
  simpa [ErrT] using World.var?_cell gErr e5 0
end Go.Proofs.YthkdbjldlfahdaaGreatDoor
namespace Go.Proofs.YthkdbjldlfahdaaGreatDoor
open Go.RowKit
set_option linter.unusedVariables false

theorem gReas : Tryz.prog.globalNamed "loop.example/g00092/impl.reasonWords" = some 0 := by kernel_rfl
theorem tReas : (Tryz.prog.globals[0]?).map (·.type) = some 70 := by kernel_rfl
theorem cReas : Tryz.prog.cellsOf 9 = 1 := by kernel_rfl
theorem gPow : Tryz.prog.globalNamed "internal/strconv.uint64pow10" = some 3 := by kernel_rfl
theorem tPow : (Tryz.prog.globals[3]?).map (·.type) = some 135 := by kernel_rfl
theorem pow_laid {W : World} {name : String} {cs : Array Value} {fuel : Nat} {q : List MemPlace} {base : Nat} {sp : Nat → Bool} {held : Bool} {enc : TypeId × Value → Unit}
    (hv : W.var? Tryz.prog "internal/strconv.uint64pow10" = some cs) (hd : DataW.trod enc Tryz.prog W base sp held fuel 135 cs.toList = some (Rows.laid_internal_strconv_uint64pow10, q)) : PowT W := by
  have h := Lib.cells_of_tab (k := .u64) (zs := Lib.pow10Tab) Tryz.underlying135 Tryz.underlying55 (by kernel_rfl) (by kernel_rfl) hd
  unfold PowT Lib.TabIs
  rw [hv, ← h]
theorem words_laid {W : World} {cs : Array Value} {f0 : Nat} {p0 : List MemPlace} {base : Nat} {sp : Nat → Bool} {held : Bool} {enc : TypeId × Value → Unit}
    (hv0 : W.var? Tryz.prog "loop.example/g00092/impl.reasonWords" = some cs) (hd0 : DataW.trod enc Tryz.prog W base sp held f0 70 cs.toList = some (Rows.laid_loop_example_g00092_impl_reasonWords, p0)) : TabF W := by
  have hg0 := gReas
  obtain ⟨xs, m1, rfl, hx1, hlen, hn, hel⟩ := DataW.trod_array Tryz.underlying70 hd0
  simp only [Prod.mk.injEq, Rows.laid_loop_example_g00092_impl_reasonWords, DataW.agg.injEq] at hx1
  intro i hi
  have hi' := hel i hi
  rw [cReas, Nat.mul_one, List.getElem?_eq_getElem (by omega)] at hi'
  obtain ⟨s, hs, hxi, _⟩ := DataW.trod_string Tryz.underlying9 hi'
  have hcell := World.var?_cell hg0 hv0 i
  have hci : cs[i]? = some (.string s) := by
    have := congrArg (·[0]?) hs
    simpa [List.getElem?_take, List.getElem?_drop] using this
  rw [hcell, hci]
  have hdat : (xs.map (·.1))[i]? = some (DataW.lit (.string s.data.toList)) := by
    rw [List.getElem?_map, List.getElem?_eq_getElem (by omega), hxi]; rfl
  rw [← hx1.1] at hdat
  have key : ∀ j, j < 14 → (([DataW.lit (.string []), DataW.lit (.string [107, 105, 110, 100]), DataW.lit (.string [102, 111, 114, 109]), DataW.lit (.string [115, 105, 100, 101]), DataW.lit (.string [116, 121, 112, 101]), DataW.lit (.string [108, 105, 102, 101]), DataW.lit (.string [112, 114, 105, 99, 101]), DataW.lit (.string [113, 116, 121]), DataW.lit (.string [116, 97, 103]), DataW.lit (.string [105, 100]), DataW.lit (.string [109, 111, 114, 101]), DataW.lit (.string [112, 111, 115, 116]), DataW.lit (.string [102, 105, 108, 108]), DataW.lit (.string [102, 117, 108, 108])] : List (DataW Unit)))[j]? = some (DataW.lit (.string (fnameAt j).data.toList)) := by
    intro j hj
    rcases (show j = 0 ∨ j = 1 ∨ j = 2 ∨ j = 3 ∨ j = 4 ∨ j = 5 ∨ j = 6 ∨ j = 7 ∨ j = 8 ∨ j = 9 ∨ j = 10 ∨ j = 11 ∨ j = 12 ∨ j = 13 by omega) with rfl | rfl | rfl | rfl | rfl | rfl | rfl | rfl | rfl | rfl | rfl | rfl | rfl | rfl <;> rfl
  have := (key i hi).symm.trans hdat
  simp only [Option.some.injEq, DataW.lit.injEq, Lit.string.injEq] at this
  rw [WideShapes.bytes_inj this]
theorem txt_laid {W : World} (h : laidMetH Tryz.prog Rows.fnExactEventTextRow.laid W) : ErrT W ∧ PowT W ∧ TabF W := by
  have h' : laidMet Tryz.prog [("math/bits.deBruijn32tab", Rows.laid_math_bits_deBruijn32tab), ("math/bits.deBruijn64tab", Rows.laid_math_bits_deBruijn64tab), ("internal/strconv.uint64pow10", Rows.laid_internal_strconv_uint64pow10), ("loop.example/g00092/impl.reasonWords", Rows.laid_loop_example_g00092_impl_reasonWords)] W ∧ handlesMet Tryz.prog [("errors.errorType", Rows.laid_errors_errorType)] W := h
  refine ⟨err_laid (show laidMet Tryz.prog [] W ∧ handlesMet Tryz.prog [("errors.errorType", Rows.laid_errors_errorType)] W from ⟨⟨[], rfl, by simp, fun b off hm => by cases hm⟩, h'.2⟩), ?_⟩
  obtain ⟨ps, ⟨_, _, _, _, _, _, _, _, _, _, ⟨_, _, _, _, _, _, _, _, _, _, ⟨g3, t3, cs3, f3, p3, q3, hg3, ht3, hv3, hd3, ⟨g4, t4, cs4, f4, p4, q4, hg4, ht4, hv4, hd4, _, _⟩, _⟩, _⟩, _⟩, _, _⟩ := h'.1
  obtain rfl := Option.some.inj (gPow.symm.trans hg3)
  obtain rfl := Option.some.inj (tPow.symm.trans ht3)
  obtain rfl := Option.some.inj (gReas.symm.trans hg4)
  obtain rfl := Option.some.inj (tReas.symm.trans ht4)
  exact ⟨pow_laid (name := "") hv3 hd3, words_laid hv4 hd4⟩
end Go.Proofs.YthkdbjldlfahdaaGreatDoor
