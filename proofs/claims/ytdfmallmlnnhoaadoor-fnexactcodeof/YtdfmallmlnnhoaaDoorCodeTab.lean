/-
  What the row's list gives the walks: the cells of the table of words.
-/
import Derived.Test.YtdfmallmlnnhoaaDoorCodeOfW
import Derived.OpenShut
import Derived.LaidLaws
import Derived.MakeChecks
namespace Go.Proofs.YtdfmallmlnnhoaaDoor
open Go.RowKit

theorem gWords : Tryd.prog.globalNamed "loop.example/g00092/impl.codeWords" = some 0 := by kernel_rfl
theorem tWords : (Tryd.prog.globals[0]?).map (·.type) = some 27 := by kernel_rfl
theorem cWords : Tryd.prog.cellsOf 9 = 1 := by kernel_rfl
theorem tab_laid {W : World} (h : laidMetH Tryd.prog [("loop.example/g00092/impl.codeWords", Rows.laid_loop_example_g00092_impl_codeWords)] W) : TabW W := by
  rw [MakeChecks.laidMetH_plain _ _ _ (by kernel_rfl)] at h
  obtain ⟨ps, ⟨g0, t0, cs, f0, p0, q0, hg0, ht0, hv0, hd0, _, _⟩, _, _⟩ := h
  obtain rfl := Option.some.inj (gWords.symm.trans hg0)
  obtain rfl := Option.some.inj (tWords.symm.trans ht0)
  obtain ⟨xs, m1, rfl, hx1, hlen, hn, hel⟩ := DataW.trod_array Tryd.underlying27 hd0
  simp only [Prod.mk.injEq, Rows.laid_loop_example_g00092_impl_codeWords, DataW.agg.injEq] at hx1
  intro i hi
  have hi' := hel i hi
  rw [cWords, Nat.mul_one, List.getElem?_eq_getElem (by omega)] at hi'
  obtain ⟨s, hs, hxi, _⟩ := DataW.trod_string Tryd.underlying9 hi'
  have hcell := World.var?_cell hg0 hv0 i
  have hci : cs[i]? = some (.string s) := by
    have := congrArg (·[0]?) hs
    simpa [List.getElem?_take, List.getElem?_drop] using this
  rw [hcell, hci]
  have hdat : (xs.map (·.1))[i]? = some (DataW.lit (.string s.data.toList)) := by
    rw [List.getElem?_map, List.getElem?_eq_getElem (by omega), hxi]; rfl
  rw [← hx1.1] at hdat
  have key : ∀ j, j < 9 → (([DataW.lit (.string [111, 107]), DataW.lit (.string [98, 97, 100]), DataW.lit (.string [108, 111, 110, 103]), DataW.lit (.string [102, 111, 114, 109]), DataW.lit (.string [115, 121, 110, 116, 97, 120]), DataW.lit (.string [114, 97, 110, 103, 101]), DataW.lit (.string [110, 111, 110, 101]), DataW.lit (.string [109, 97, 110, 121]), DataW.lit (.string [108, 97, 119, 108, 101, 115, 115])] : List (DataW Unit)))[j]? = some (DataW.lit (.string (wordAt j).data.toList)) := by
    intro j hj
    rcases (show j = 0 ∨ j = 1 ∨ j = 2 ∨ j = 3 ∨ j = 4 ∨ j = 5 ∨ j = 6 ∨ j = 7 ∨ j = 8 by omega) with rfl | rfl | rfl | rfl | rfl | rfl | rfl | rfl | rfl <;> rfl
  have := (key i hi).symm.trans hdat
  simp only [Option.some.injEq, DataW.lit.injEq, Lit.string.injEq] at this
  rw [WideShapes.bytes_inj this]
end Go.Proofs.YtdfmallmlnnhoaaDoor
