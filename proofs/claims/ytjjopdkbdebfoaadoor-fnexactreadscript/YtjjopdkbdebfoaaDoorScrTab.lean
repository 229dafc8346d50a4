/-
  What the row's list gives the walks: the cells of the table of words of types; and the law of ReadScript.
-/
import Derived.Test.YtjjopdkbdebfoaaDoorScrL
import Derived.OpenShut
import Derived.LaidLaws
import Derived.MakeChecks
namespace Go.Proofs.YtjjopdkbdebfoaaDoor
open Go.RowKit

theorem gTyp : Tryd.prog.globalNamed "loop.example/g00092/impl.typeWords" = some 0 := by kernel_rfl
theorem tTyp : (Tryd.prog.globals[0]?).map (·.type) = some 67 := by kernel_rfl
theorem cTyp : Tryd.prog.cellsOf 9 = 1 := by kernel_rfl
theorem ttab_laid {W : World} (h : laidMetH Tryd.prog [("unicode/utf8.acceptRanges", Rows.laid_unicode_utf8_acceptRanges), ("loop.example/g00092/impl.typeWords", Rows.laid_loop_example_g00092_impl_typeWords), ("unicode/utf8.first", Rows.laid_unicode_utf8_first)] W) : TabT W := by
  rw [MakeChecks.laidMetH_plain _ _ _ (by kernel_rfl)] at h
  obtain ⟨ps, ⟨_, _, _, _, _, _, _, _, _, _, ⟨g0, t0, cs, f0, p0, q0, hg0, ht0, hv0, hd0, _, _⟩, _⟩, _, _⟩ := h
  obtain rfl := Option.some.inj (gTyp.symm.trans hg0)
  obtain rfl := Option.some.inj (tTyp.symm.trans ht0)
  obtain ⟨xs, m1, rfl, hx1, hlen, hn, hel⟩ := DataW.trod_array Tryd.underlying67 hd0
  simp only [Prod.mk.injEq, Rows.laid_loop_example_g00092_impl_typeWords, DataW.agg.injEq] at hx1
  intro i hi
  have hi' := hel i hi
  rw [cTyp, Nat.mul_one, List.getElem?_eq_getElem (by omega)] at hi'
  obtain ⟨s, hs, hxi, _⟩ := DataW.trod_string Tryd.underlying9 hi'
  have hcell := World.var?_cell hg0 hv0 i
  have hci : cs[i]? = some (.string s) := by
    have := congrArg (·[0]?) hs
    simpa [List.getElem?_take, List.getElem?_drop] using this
  rw [hcell, hci]
  have hdat : (xs.map (·.1))[i]? = some (DataW.lit (.string s.data.toList)) := by
    rw [List.getElem?_map, List.getElem?_eq_getElem (by omega), hxi]; rfl
  rw [← hx1.1] at hdat
  have key : ∀ j, j < 6 → (([DataW.lit (.string []), DataW.lit (.string [108, 105, 109, 105, 116]), DataW.lit (.string [109, 97, 114, 107, 101, 116]), DataW.lit (.string [105, 111, 99]), DataW.lit (.string [102, 111, 107]), DataW.lit (.string [112, 111, 115, 116])] : List (DataW Unit)))[j]? = some (DataW.lit (.string (tyWAt j).data.toList)) := by
    intro j hj
    rcases (show j = 0 ∨ j = 1 ∨ j = 2 ∨ j = 3 ∨ j = 4 ∨ j = 5 by omega) with rfl | rfl | rfl | rfl | rfl | rfl <;> rfl
  have := (key i hi).symm.trans hdat
  simp only [Option.some.injEq, DataW.lit.injEq, Lit.string.injEq] at this
  rw [WideShapes.bytes_inj this]
end Go.Proofs.YtjjopdkbdebfoaaDoor
