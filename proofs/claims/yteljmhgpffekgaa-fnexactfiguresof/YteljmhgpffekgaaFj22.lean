/-
  The tree of a side's orders, planted: proved by walking the function.
-/
import Derived.Test.YteljmhgpffekgaaFj21
namespace Go.Proofs.Yteljmhgpffekgaa
open Go.RowKit
set_option linter.unusedVariables false

theorem zNd_s : ∀ i, i < 21 → (Try.zeroCells161.toList.drop (2 + i * 8)).take 8 = zNd.vs
  | 0, _ => by kernel_rfl
  | 1, _ => by kernel_rfl
  | 2, _ => by kernel_rfl
  | 3, _ => by kernel_rfl
  | 4, _ => by kernel_rfl
  | 5, _ => by kernel_rfl
  | 6, _ => by kernel_rfl
  | 7, _ => by kernel_rfl
  | 8, _ => by kernel_rfl
  | 9, _ => by kernel_rfl
  | 10, _ => by kernel_rfl
  | 11, _ => by kernel_rfl
  | 12, _ => by kernel_rfl
  | 13, _ => by kernel_rfl
  | 14, _ => by kernel_rfl
  | 15, _ => by kernel_rfl
  | 16, _ => by kernel_rfl
  | 17, _ => by kernel_rfl
  | 18, _ => by kernel_rfl
  | 19, _ => by kernel_rfl
  | 20, _ => by kernel_rfl
  | n + 21, h => absurd h (by omega)
theorem zQo_s : ∀ i, i < 21 → (Try.zeroCells161.toList.drop (171 + i * 7)).take 7 = zQo.vs
  | 0, _ => by kernel_rfl
  | 1, _ => by kernel_rfl
  | 2, _ => by kernel_rfl
  | 3, _ => by kernel_rfl
  | 4, _ => by kernel_rfl
  | 5, _ => by kernel_rfl
  | 6, _ => by kernel_rfl
  | 7, _ => by kernel_rfl
  | 8, _ => by kernel_rfl
  | 9, _ => by kernel_rfl
  | 10, _ => by kernel_rfl
  | 11, _ => by kernel_rfl
  | 12, _ => by kernel_rfl
  | 13, _ => by kernel_rfl
  | 14, _ => by kernel_rfl
  | 15, _ => by kernel_rfl
  | 16, _ => by kernel_rfl
  | 17, _ => by kernel_rfl
  | 18, _ => by kernel_rfl
  | 19, _ => by kernel_rfl
  | 20, _ => by kernel_rfl
  | n + 21, h => absurd h (by omega)
theorem zTree_s (w : World) (sd : Int) : TreeAt 161 false (w.alloc (Obj.cells Try.zeroCells161 161)) w.heap.size sd [] :=
  ⟨zTS, .nil, tm_zero w _ _ (by kernel_rfl) (by kernel_rfl) zNd_s (by kernel_rfl) zQo_s, ti_zero _, qi_zero _, Nat.le_refl _⟩

set_option maxRecDepth 100000 in
set_option maxHeartbeats 400000 in
theorem plant_s (v : Value) (l : List Od) (sd : Int) (w : World) (hr : RdR Od.vs 6 w v l) (hn : l.length ≤ 20) (hl : ∀ o' ∈ l, 0 ≤ o'.left ∧ o'.left ≤ 1000000) :
    Calls Try.prog 74 #[v, .int .i64 sd] w fun e w' =>
      e = .returned (.pointer (some ⟨w.heap.size, 0, none⟩)) ∧ TreeAt 161 false w' w.heap.size sd (ofSide l sd) ∧ Below w.heap.size w w' := by
  obtain ⟨a, cap, rfl, hlen, hc⟩ := hr
  have hcell : ∀ (k : Nat) (c : Od), l[k]? = some c → ∃ b off, a = some ⟨b, off, none⟩ ∧ b < w.heap.size ∧ w.rangeAt b (off + k * 6) c.vs := by
    intro k c hk
    obtain ⟨b, off, h1, h2, h3⟩ := hc (by intro h; rw [h] at hk; simp at hk)
    exact ⟨b, off, h1, h2, h3 k c hk⟩
  have HC := hide hcell
  have HL := hide hl
  have HN := hide hn
  clear hcell hc hl
  have HZ := hide (zTree_s w sd)
  have HB0 : Hid (Below w.heap.size w (w.alloc (Obj.cells Try.zeroCells161 161))) := (Below.refl _ _).alloc (Nat.le_refl _) _
  go_enter Try.func74, Try.ntmps74
  go_wp2_with fail
  generalize (w.alloc (Obj.cells Try.zeroCells161 161)) = W0 at HZ HB0 ⊢
  go_loopw [11] (fun i wr => ∃ k : Nat, k ≤ l.length ∧ i = .int .i64 k ∧ TreeAt 161 false wr w.heap.size sd (ofSide (l.take k) sd) ∧ Below w.heap.size w wr) (fun i _ => l.length - (intOf i).toNat)
  case atStart => exact ⟨0, Nat.zero_le _, rfl, unhide HZ, unhide HB0⟩
  case round =>
    obtain ⟨k, hk, rfl, htr, hbel⟩ := hrel
    have HTR := hide htr
    have HBE := hide hbel
    clear htr hbel HZ HB0
    by_cases hlt : k < l.length
    · obtain ⟨c, hkc⟩ : ∃ c, l[k]? = some c := ⟨_, List.getElem?_eq_getElem hlt⟩
      have HKC := hide hkc
      obtain ⟨b, off, rfl, hb, hcl⟩ := unhide HC k c hkc
      obtain ⟨g0, g1, g2, g3, g4, g5⟩ := od_cells (range_below hcl (unhide HBE) hb)
      have hlt' : (k : Int) < l.length := by omega
      clear hkc hcl hb
      by_cases hsd : c.side = sd
      · have HIT : Hid (ofSide (l.take (k + 1)) c.side = ofSide (l.take k) c.side ++ [c]) := ofSide_snoc l k c (unhide HKC)
        subst hsd
        have hlk : (ofSide (l.take k) c.side).length < 20 := by
          have h1 : (ofSide (l.take k) c.side).length ≤ (l.take k).length := List.length_filter_le _ _
          have h2 : (l.take k).length ≤ k := List.length_take_le _ _
          have h3 := unhide HN
          omega
        have HLK := hide hlk
        have hcl := unhide HL c (List.mem_of_getElem? (unhide HKC))
        have HCL := hide hcl
        clear hlk hcl
        go_wp2_with fail
        refine (add_s w.heap.size c.side (ofSide (l.take k) c.side) c _ (treeAt_block (unhide HTR) (Below.heap_alloc wr _ _ (treeAt_lt (unhide HTR)))) rfl (unhide HLK) (fun o' ho' => unhide HL o' (List.mem_of_mem_take (List.mem_filter.1 ho').1)) (unhide HCL)).mono ?_
        rintro e w2 ⟨rfl, htr2, hg2⟩
        rw [← unhide HIT] at htr2
        have HTR2 := hide htr2
        have HB2 := hide (((unhide HBE).alloc (unhide HBE).size _).grown hg2 (by rw [size_made]; have := (unhide HBE).size; omega) (fun g hg => by obtain rfl := Option.some.inj hg; exact Nat.le_refl _))
        clear htr2 hg2
        go_wp2_with fail
        go_roundw
        case rel => exact ⟨k + 1, by omega, by go_num, unhide HTR2, unhide HB2⟩
        case measure => simp [intOf]; omega
      · have HIT : Hid (ofSide (l.take (k + 1)) sd = ofSide (l.take k) sd) := ofSide_skip l k c (unhide HKC) hsd
        go_wp2_with fail
        go_roundw
        case rel =>
          refine ⟨k + 1, by omega, by go_num, ?_, ?_⟩
          · rw [unhide HIT]; exact treeAt_block (unhide HTR) (Below.heap_alloc wr _ _ (treeAt_lt (unhide HTR)))
          · exact (unhide HBE).alloc (unhide HBE).size _
        case measure => simp [intOf]; omega
    · go_wp2_with fail
      go_ret
      have h := unhide HTR
      rw [List.take_of_length_le (by omega)] at h
      exact ⟨rfl, h, unhide HBE⟩
end Go.Proofs.Yteljmhgpffekgaa
