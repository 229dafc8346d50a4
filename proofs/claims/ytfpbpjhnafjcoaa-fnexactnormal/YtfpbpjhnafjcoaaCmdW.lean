/-
  Commands as records of eight cells: copied one by one and in rows, proved by walking the copying functions.
-/
import Derived.Test.YtfpbpjhnafjcoaaCmBt
import Derived.Test.YtfpbpjhnafjcoaaCmB
import Derived.WalkLawsBesides
namespace Go.Proofs.Ytfpbpjhnafjcoaa
open Go.RowKit
set_option linter.unusedVariables false

theorem Try.infoCmd : (Try.prog.info? 60).map (fun i => (i.zero, i.size, i.bytes)) = some (some (.agg #[.int .i64 0, .int .i64 0, .int .i64 0, .int .i64 0, .int .i64 0, .int .i64 0, .float .f64 0, .string ⟨#[]⟩]), 8, 72) := by kernel_rfl
theorem Try.sizeCmd : (Try.prog.info? 60).map (·.size) = some 8 := by kernel_rfl

theorem take_snocR {α : Type} (l : List α) (k : Nat) (c : α) (h : l[k]? = some c) : l.take (k + 1) = l.take k ++ [c] := by
  obtain ⟨hk, rfl⟩ := List.getElem?_eq_some_iff.1 h
  rw [List.take_succ_eq_append_getElem hk]

set_option maxRecDepth 100000 in
set_option maxHeartbeats 400000 in
theorem toCmdS_any (v : Value) (l : List Cm) (w : World) (hr : RdR Cm.vs 8 w v l) :
    Calls Try.prog 16 #[v] w fun e w' => ∃ v', e = .returned v' ∧ OwnR Cm.vs 8 w.heap.size w' v' l ∧ Below w.heap.size w w' := by
  obtain ⟨a, cap, rfl, hl, hc⟩ := hr
  obtain ⟨i0, hi, hz0, hz1, hz2⟩ := info_parts Try.infoCmd
  have hcell : ∀ (k : Nat) (c : Cm), l[k]? = some c → ∃ b off, a = some ⟨b, off, none⟩ ∧ b < w.heap.size ∧ w.rangeAt b (off + k * 8) c.vs := by
    intro k c hk
    obtain ⟨b, off, h1, h2, h3⟩ := hc (by intro h; rw [h] at hk; simp at hk)
    exact ⟨b, off, h1, h2, h3 k c hk⟩
  have HC := hide hcell
  clear hcell hc
  go_enter Try.func16, Try.ntmps16
  go_wp2_with (at_make; go_must (refine wpList_make_full _ rfl _ _ 33 rfl w.heap.size 60 i0 _ 8 Try.underlying33 hi hz0 hz1 _ _ _ _ l.length rfl rfl rfl rfl (by rw [hz2]; omega) (by unfold maxLen; omega) (Nat.le_refl _) ?_); intro w1 hown hgrow)
  have HA := hide (fill_made (f := Cm.vs) hown hgrow)
  clear hown hgrow hi hz0 hz1 hz2
  go_loopw [4] (fun i wr => ∃ k : Nat, k ≤ l.length ∧ i = .int .i64 k ∧ FillR Cm.vs 8 l.length w.heap.size w wr (l.take k)) (fun i _ => l.length - (intOf i).toNat)
  case atStart => exact ⟨0, Nat.zero_le _, rfl, by simpa using unhide HA⟩
  case round =>
    obtain ⟨k, hk, rfl, harr⟩ := hrel
    have HF := hide harr
    clear harr HA
    by_cases hlt : k < l.length
    · obtain ⟨c, hkc⟩ : ∃ c, l[k]? = some c := ⟨_, List.getElem?_eq_getElem hlt⟩
      have HKC := hide hkc
      obtain ⟨b, off, rfl, hb, hcl⟩ := unhide HC k c hkc
      have hcr := range_below hcl (unhide HF).2.2.2.2 hb
      obtain ⟨g0, g1, g2, g3, g4, g5, g6, g7⟩ := cm_cells hcr
      have hlt' : (k : Int) < l.length := by omega
      clear hkc hcl hb hcr
      go_wp2_with fail
      refine (toCmd_any c _).mono ?_
      rintro e w2 ⟨rfl, hb2⟩
      have HF2 := hide (fill_below (unhide HF) hb2 (Nat.le_refl _))
      clear hb2
      obtain ⟨⟨x0, y0, z0⟩, ⟨x1, y1, z1⟩, ⟨x2, y2, z2⟩, ⟨x3, y3, z3⟩, ⟨x4, y4, z4⟩, ⟨x5, y5, z5⟩, ⟨x6, y6, z6⟩, x7, y7, z7⟩ := there8 (fill_there (unhide HF2) hlt)
      have hsf := sfl
      go_wp2_with fail
      go_roundw
      case rel =>
        refine ⟨k + 1, by omega, by go_num, ?_⟩
        have h := fill_step c (unhide HF2) (by rw [List.length_take]; omega) Cm.len
        rw [← take_snocR l k c (unhide HKC), show (l.take k).length = k by rw [List.length_take]; omega] at h
        exact h
      case measure => simp [intOf]; omega
    · go_wp2_with fail
      go_ret
      have h := unhide HF
      rw [List.take_of_length_le (by omega)] at h
      exact ⟨_, rfl, fill_own h rfl hl, h.2.2.2.2⟩
end Go.Proofs.Ytfpbpjhnafjcoaa
