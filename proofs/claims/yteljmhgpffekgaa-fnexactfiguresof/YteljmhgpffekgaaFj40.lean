/-
  How many levels orders have, as the model counts them: proved by walking the function. (what walks the functions of the model or of the laws)
-/
import Derived.Test.YteljmhgpffekgaaFj30
namespace Go.Proofs.Yteljmhgpffekgaa
open Go.RowKit
set_option linter.unusedVariables false

set_option maxRecDepth 100000 in
set_option maxHeartbeats 1600000 in
theorem l03Levels_any (v : Value) (l : List Od) (w : World) (hr : RdR Od.vs 6 w v l) (hn : l.length ≤ 1000) :
    Calls Try.prog 78 #[v] w fun e w' => e = .returned (.int .i64 (nlev l : Nat)) ∧ w.grownBy w' none := by
  obtain ⟨a, cap, rfl, hlen, hc⟩ := hr
  have hcell : ∀ (k : Nat) (c : Od), l[k]? = some c → ∃ b off, a = some ⟨b, off, none⟩ ∧ b < w.heap.size ∧ w.rangeAt b (off + k * 6) c.vs := by
    intro k c hk
    obtain ⟨b, off, h1, h2, h3⟩ := hc (by intro h; rw [h] at hk; simp at hk)
    exact ⟨b, off, h1, h2, h3 k c hk⟩
  have HC := hide hcell
  clear hcell hc
  go_enter Try.func78, Try.ntmps78
  go_wp2_with fail
  go_loopw [3, 4] (fun nv iv wr => ∃ (i n : Nat), nv = .int .i64 n ∧ i ≤ l.length ∧ iv = .int .i64 i ∧ Hid (n = nlev (l.take i)) ∧ n ≤ i ∧ w.grownBy wr none) (fun _ iv _ => l.length - (intOf iv).toNat)
  case atStart => exact ⟨0, 0, rfl, Nat.zero_le _, rfl, by simp [Hid, nlev, nlevR], Nat.le_refl _, World.grownBy.refl _ _⟩
  case round =>
    obtain ⟨i, n, rfl, hi, rfl, hnl, hni, hg⟩ := hrel
    have HG := hide hg
    clear hg
    by_cases hlt : i < l.length
    · obtain ⟨c, hkc⟩ : ∃ c, l[i]? = some c := ⟨_, List.getElem?_eq_getElem hlt⟩
      obtain ⟨b, off, rfl, hb, hcl⟩ := unhide HC i c hkc
      have HKC := hide hkc
      have HCL := hide hcl
      have hlt' : (i : Int) < l.length := by omega
      have HNN : Hid (nlev (l.take (i + 1)) = n + (freshB c (l.take i)).toNat) := by
        show _ = _
        rw [takeR l i c hkc, nlev_fresh, ← unhide hnl]
      clear hkc hcl hnl
      go_wp2_with fail
      go_loopw [5, 6] (fun fv kv wq => ∃ (k : Nat) (fb : Bool), fv = .bool fb ∧ k ≤ i ∧ kv = .int .i64 k ∧ Hid (fb = freshB c (l.take k)) ∧ w.grownBy wq none) (fun _ kv _ => i - (intOf kv).toNat)
      case atStart => exact ⟨0, true, rfl, Nat.zero_le _, rfl, rfl, unhide HG⟩
      case round =>
        obtain ⟨k, fb, rfl, hk, rfl, hfb, hg⟩ := hrel
        have HGQ := hide hg
        clear hg
        by_cases hki : k < i
        · obtain ⟨y, hky⟩ : ∃ y, l[k]? = some y := ⟨_, List.getElem?_eq_getElem (by omega)⟩
          obtain ⟨b', off', hbe, hb', hcl'⟩ := unhide HC k y hky
          simp only [Option.some.injEq, Addr.mk.injEq, and_true] at hbe
          obtain ⟨rfl, rfl⟩ := hbe
          have HFN : Hid (freshB c (l.take (k + 1)) = (fb && difB c y)) := by
            show _ = _
            rw [takeR l k y hky, unhide hfb, freshB, List.all_append]; simp [freshB]
          obtain ⟨-, e1, e2, -⟩ := od_cells (range_grown (unhide HCL) (unhide HGQ) hb (by simp))
          obtain ⟨-, d1, d2, -⟩ := od_cells (range_grown hcl' (unhide HGQ) hb (by simp))
          have hki' : (k : Int) < i := by omega
          have hkl' : (k : Int) < l.length := by omega
          have hfin : ∀ (fb' : Bool), fb' = (fb && difB c y) → Hid (fb' = freshB c (l.take (k + 1))) := fun fb' h => by show _ = _; rw [h, unhide HFN]
          have HFIN := hide hfin
          clear hky hcl' hfin
          cases fb
          · go_wp2_with fail
            go_quiet (fail)
            go_wp2_with fail
            go_roundw
            case rel => exact ⟨k + 1, false, rfl, by omega, by go_num, unhide HFIN _ rfl, gr_drewM (unhide HGQ) rfl rfl rfl rfl⟩
            case measure => simp [intOf]; omega
          · by_cases h1 : y.side = c.side
            · have h1' : (y.side != c.side) = false := by simpa using h1
              by_cases h2 : y.ticks = c.ticks
              · have hd : (true && difB c y) = false := by simp [difB, h1, h2]
                go_wp2_with fail
                go_quiet (fail)
                go_wp2_with fail
                go_roundw
                case rel => exact ⟨k + 1, false, by first | rfl | simp [h2], by omega, by go_num, unhide HFIN _ hd.symm, gr_drewM (unhide HGQ) rfl rfl rfl rfl⟩
                case measure => simp [intOf]; omega
              · have hd : (true && difB c y) = true := by simp [difB, h2]
                go_wp2_with fail
                go_quiet (fail)
                go_wp2_with fail
                go_roundw
                case rel => exact ⟨k + 1, true, by first | rfl | simp [h2], by omega, by go_num, unhide HFIN _ hd.symm, gr_drewM (unhide HGQ) rfl rfl rfl rfl⟩
                case measure => simp [intOf]; omega
            · have h1' : (y.side != c.side) = true := by simpa using h1
              have hd : (true && difB c y) = true := by simp [difB, h1]
              go_wp2_with fail
              go_quiet (fail)
              go_wp2_with fail
              go_roundw
              case rel => exact ⟨k + 1, true, by first | rfl | simp, by omega, by go_num, unhide HFIN _ hd.symm, gr_drewM (unhide HGQ) rfl rfl rfl rfl⟩
              case measure => simp [intOf]; omega
        · obtain rfl : k = i := by omega
          have HF := hfb
          cases fb
          · have HE : Hid (nlev (l.take (k + 1)) = n) := by show _ = _; rw [unhide HNN, ← unhide HF]; rfl
            clear hfb
            go_wp2_with fail
            exact ⟨⟨k + 1, n, rfl, by omega, by go_num, (unhide HE).symm, by omega, unhide HGQ⟩, by simp [intOf]; omega⟩
          · have HE : Hid (nlev (l.take (k + 1)) = n + 1) := by show _ = _; rw [unhide HNN, ← unhide HF]; rfl
            clear hfb
            go_wp2_with fail
            exact ⟨⟨k + 1, n + 1, by go_num, by omega, by go_num, (unhide HE).symm, by omega, unhide HGQ⟩, by simp [intOf]; omega⟩
    · go_wp2_with fail
      go_ret
      have h := unhide hnl
      rw [List.take_of_length_le (by omega)] at h
      subst h
      exact ⟨rfl, unhide HG⟩
end Go.Proofs.Yteljmhgpffekgaa
