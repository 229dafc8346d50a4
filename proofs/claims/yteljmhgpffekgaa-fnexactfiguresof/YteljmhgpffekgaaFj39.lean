/-
  The model's small functions over a book: who is better, the front, how many levels: proved by walking them. (what walks the functions of the model or of the laws)
-/
import Derived.Test.YteljmhgpffekgaaFj30
import Derived.BigQuiet
namespace Go.Proofs.Yteljmhgpffekgaa
open Go.RowKit
set_option linter.unusedVariables false

theorem l03Better_any (o c : Od) (w : World) :
    Calls Try.prog 79 #[.agg #[.int .i64 o.id, .int .i64 o.side, .int .i64 o.ticks, .int .i64 o.left, .int .i64 o.life, .string o.tag], .agg #[.int .i64 c.id, .int .i64 c.side, .int .i64 c.ticks, .int .i64 c.left, .int .i64 c.life, .string c.tag]] w fun e w' => e = .returned (.bool (ahdB o c)) ∧ w.grownBy w' none := by
  by_cases h : o.ticks = c.ticks
  · have h' : (o.ticks == c.ticks) = true := by simpa using h
    have HA : Hid (ahdB o c = decide (o.id < c.id)) := if_pos h
    go_enter Try.func79, Try.ntmps79
    go_wp2_with fail
    go_ret
    exact ⟨ret_bool (unhide HA).symm, (World.grownBy_alloc _ _ _).trans (World.grownBy_alloc _ _ _)⟩
  · have HA : Hid (ahdB o c = (decide (c.ticks < o.ticks) == decide (o.side = 1))) := if_neg h
    go_enter Try.func79, Try.ntmps79
    go_wp2_with fail
    go_ret
    exact ⟨ret_bool (by rw [unhide HA]; rfl), (World.grownBy_alloc _ _ _).trans (World.grownBy_alloc _ _ _)⟩
set_option maxRecDepth 100000 in
set_option maxHeartbeats 800000 in
theorem l03Front_any (v : Value) (l : List Od) (sd : Int) (w : World) (hr : RdR Od.vs 6 w v l) (hri : Rising l) (hn : l.length ≤ 1000) :
    Calls Try.prog 47 #[v, .int .i64 sd] w fun e w' => ∃ k : Int, e = .returned (.int .i64 k) ∧ FrPre l sd l.length k ∧ w.grownBy w' none := by
  obtain ⟨a, cap, rfl, hlen, hc⟩ := hr
  have hcell : ∀ (k : Nat) (c : Od), l[k]? = some c → ∃ b off, a = some ⟨b, off, none⟩ ∧ b < w.heap.size ∧ w.rangeAt b (off + k * 6) c.vs := by
    intro k c hk
    obtain ⟨b, off, h1, h2, h3⟩ := hc (by intro h; rw [h] at hk; simp at hk)
    exact ⟨b, off, h1, h2, h3 k c hk⟩
  have HC := hide hcell
  have HRI := hide hri
  clear hcell hc hri
  go_enter Try.func47, Try.ntmps47
  go_wp2_with fail
  go_loopw [5, 6] (fun bv iv wr => ∃ (k : Nat) (best : Int), bv = .int .i64 best ∧ k ≤ l.length ∧ iv = .int .i64 k ∧ Hid (FrPre l sd k best) ∧ w.grownBy wr none) (fun _ iv _ => l.length - (intOf iv).toNat)
  case atStart => exact ⟨0, -1, rfl, Nat.zero_le _, rfl, .inl ⟨rfl, fun j o hj => by omega⟩, World.grownBy.refl _ _⟩
  case round =>
    obtain ⟨k, best, rfl, hk, rfl, hfr, hg⟩ := hrel
    have HG := hide hg
    clear hg
    by_cases hlt : k < l.length
    · obtain ⟨c, hkc⟩ : ∃ c, l[k]? = some c := ⟨_, List.getElem?_eq_getElem hlt⟩
      obtain ⟨b, off, rfl, hb, hcl⟩ := unhide HC k c hkc
      have HKC := hide hkc
      obtain ⟨g0, g1, g2, g3, g4, g5⟩ := od_cells (range_grown hcl (unhide HG) hb (by simp))
      have hlt' : (k : Int) < l.length := by omega
      have HCL := hide hcl
      have HHB := hide hb
      clear hkc hcl
      by_cases hs : c.side = sd
      · subst hs
        rcases unhide hfr with ⟨rfl, hno⟩ | ⟨i, o, rfl, hi, hio, hso, hah⟩
        · have HN := hide (frPre_first (unhide hfr) (unhide HKC) rfl)
          clear hno
          go_wp2_with fail
          go_quiet (fail)
          go_wp2_with fail
          go_roundw
          case rel => exact ⟨k + 1, k, rfl, by omega, by go_num, unhide HN, gr_drewM (unhide HG) rfl rfl rfl rfl⟩
          case measure => simp [intOf]; omega
        · obtain ⟨b', off', hbe, hb', hcl'⟩ := unhide HC i o hio
          simp only [Option.some.injEq, Addr.mk.injEq, and_true] at hbe
          obtain ⟨rfl, rfl⟩ := hbe
          obtain ⟨e0, e1, e2, e3, e4, e5⟩ := od_cells (range_grown hcl' (unhide HG) hb (by simp))
          have hlti : (i : Int) < l.length := by have := (List.getElem?_eq_some_iff.1 hio).1; omega
          have hi0 : ¬ ((i : Int) < 0) := by omega
          have hi0' : decide ((i : Int) < 0) = false := by simp
          have HCEL : Hid (∀ w', wr.grownBy w' none → w'.rangeAt b (off + k * 6) c.vs ∧ w'.rangeAt b (off + i * 6) o.vs) := fun w' h' => ⟨range_grown (range_grown (unhide HCL) (unhide HG) hb (by simp)) h' (Nat.lt_of_lt_of_le hb (unhide HG).size) (by simp), range_grown (range_grown hcl' (unhide HG) hb (by simp)) h' (Nat.lt_of_lt_of_le hb (unhide HG).size) (by simp)⟩
          have HHI : Hid (l[i]? = some o) := hio
          clear hah hio hcl' hso
          go_wp2_with fail
          refine wp_region_grow (W := wr) (by kernel_rfl) (by kernel_rfl) (World.grownBy.refl _ _) ?_
          iterate 19 (
            refine quiet_op (v := ?_) ?_ ?_ ?_
            rotate_left
            · rfl
            · intro w' hw'
              obtain ⟨c0, c1, c2, c3, c4, c5⟩ := od_cells (unhide HCEL w' hw').1
              obtain ⟨d0, d1, d2, d3, d4, d5⟩ := od_cells (unhide HCEL w' hw').2
              go_simp
              try rfl
            intro K hK
            go_simp
            refine hK _ ?_
            clear hK K)
          refine quiet_op (v := .bool (ahdB c o)) ?_ ?_ ?_
          · rfl
          · intro w' hw'
            go_simp
            refine (l03Better_any c o _).mono ?_
            rintro e w3 ⟨rfl, hg3⟩
            exact ⟨rfl, hw'.trans hg3⟩
          intro K hK
          go_simp
          refine hK _ ?_
          clear hK K
          iterate 2 (
            refine quiet_op (v := ?_) ?_ ?_ ?_
            rotate_left
            · rfl
            · intro w' hw'
              go_simp
              try rfl
            intro K hK
            go_simp
            refine hK _ ?_
            clear hK K)
          refine wpQuiet_nil ?_
          intro w2 hg2
          have HG2 := hide ((unhide HG).trans hg2)
          clear hg2 g0 g1 g2 g3 g4 g5 e0 e1 e2 e3 e4 e5
          cases hah : ahdB c o
          · have HN := hide (frPre_worse (unhide HRI) (unhide hfr) (unhide HHI) (unhide HKC) rfl hah)
            go_wp2_with fail
            go_roundw
            case rel => exact ⟨k + 1, i, rfl, by omega, by go_num, unhide HN, unhide HG2⟩
            case measure => simp [intOf]; omega
          · have HN := hide (frPre_better (unhide HRI) (unhide hfr) (unhide HHI) (unhide HKC) rfl hah)
            go_wp2_with fail
            go_roundw
            case rel => exact ⟨k + 1, k, rfl, by omega, by go_num, unhide HN, unhide HG2⟩
            case measure => simp [intOf]; omega
      · have HN := hide (frPre_skip (unhide hfr) (unhide HKC) hs)
        have hs' : (c.side == sd) = false := by simpa using hs
        go_wp2_with fail
        go_quiet (fail)
        go_wp2_with fail
        go_roundw
        case rel => exact ⟨k + 1, best, rfl, by omega, by go_num, unhide HN, gr_drewM (unhide HG) rfl rfl rfl rfl⟩
        case measure => simp [intOf]; omega
    · go_wp2_with fail
      go_ret
      have h := unhide hfr
      rw [show k = l.length by omega] at h
      exact ⟨_, rfl, h, unhide HG⟩
end Go.Proofs.Yteljmhgpffekgaa
