/-
  A row of bytes that came in, and the copy that the exact laws make of it, proved by walking the copying function: a new row with the same bytes.
-/
import Derived.Test.YtcemaffeclknkafOwnW
import Derived.OpenShut
import Derived.WalkSpells
namespace Go.Proofs.Ytcemaffeclknkaf
open Go.RowKit

/-- Each number is a byte. -/
def Bts (l : List Int) : Prop := ∀ x ∈ l, 0 ≤ x ∧ x ≤ 255
theorem bts_get {l : List Int} (h : Bts l) (k : Nat) : 0 ≤ l.getD k 0 ∧ l.getD k 0 ≤ 255 := by
  by_cases hk : k < l.length
  · have e : l.getD k 0 = l[k] := by simp [hk]
    rw [e]; exact h _ (List.getElem_mem hk)
  · simp [Nat.le_of_not_lt hk]

/-- What is told of a slice that came in: it reads as the bytes of its first len numbers. -/
theorem rd_of_row {w : World} {a : Option Addr} {len cap : Nat} {zs : List Int}
    (h : (a = none ∧ len = 0 ∧ cap = 0 ∧ zs = []) ∨ ∃ x, a = some x ∧ len ≤ cap ∧ cap ≤ maxLen ∧ zs.length = cap ∧ (∀ i, i < zs.length → w.cell? (x.add i) = some (.int .u8 (zs.getD i 0))) ∧ ∀ n ∈ zs, (Lit.int .u8 n).wf = true)
    (hl : len ≤ 1073741824) : (zs.take len).length = len ∧ Rd w (.slice a len cap) (zs.take len) ∧ Bts (zs.take len) := by
  rcases h with ⟨rfl, rfl, rfl, rfl⟩ | ⟨x, rfl, h1, _, hz, hc, hw⟩
  · exact ⟨rfl, ⟨none, 0, rfl, by simp, fun h => absurd rfl h⟩, fun x hx => by simp at hx⟩
  · have hlen : (zs.take len).length = len := by rw [List.length_take]; omega
    refine ⟨hlen, ⟨some x, cap, by rw [hlen], by omega, fun hne => ?_⟩, fun n hn => bounds_u8 (hw n (List.mem_of_mem_take hn))⟩
    have hp : 0 < len := by
      rcases Nat.eq_zero_or_pos len with h0 | h0
      · subst h0; simp at hne
      · exact h0
    obtain ⟨b, off, spot⟩ := x
    have h0 := hc 0 (by omega)
    have hspot : spot = none := by simpa [Addr.add] using World.cell?_spot h0
    subst hspot
    refine ⟨b, off, rfl, fun i hi => ?_⟩
    rw [hlen] at hi
    have := hc i (by omega)
    have e : (⟨b, off, none⟩ : Addr).add i = ⟨b, off + i, none⟩ := by unfold Addr.add; split <;> simp_all
    rw [e] at this
    rw [this]
    have e2 : (zs.take len).getD i 0 = zs.getD i 0 := by simp [hi]
    rw [e2]

theorem rd_below {B : Nat} {w w' : World} {v : Value} {l : List Int} (h : Rd w v l) (hb : Below B w w') (hB : w.heap.size ≤ B) : Rd w' v l := by
  obtain ⟨a, cap, rfl, hl, hc⟩ := h
  refine ⟨a, cap, rfl, hl, fun hne => ?_⟩
  obtain ⟨b, off, rfl, hcell⟩ := hc hne
  exact ⟨b, off, rfl, fun i hi => (hb.cell (p := ⟨b, off + i, none⟩) (Nat.lt_of_lt_of_le (World.block_lt_of_cell? w _ (hcell i hi)) hB)).trans (hcell i hi)⟩
theorem rd_drewN {w : World} {v : Value} {l : List Int} (h : Rd w v l) (n : Nat) : Rd (w.drewN n) v l := h
theorem rd_len {w : World} {v : Value} {l : List Int} (h : Rd w v l) : ∃ a cap, v = .slice a l.length cap := by
  obtain ⟨a, cap, rfl, _⟩ := h; exact ⟨a, cap, rfl⟩

theorem arr_made {w w' : World} {n : Nat} {xs : List Value} (h : w'.ownsRow w.heap.size 5 1 (.slice (some ⟨w.heap.size, 0, none⟩) n n) n xs) (hg : w.grownBy w' none) : Arr n w.heap.size w w' [] := by
  rcases h.2 with ⟨h0, _⟩ | ⟨g, cap, cur, hv, _, hh, _, _, hcur, _⟩
  · simp at h0
  · simp only [Value.slice.injEq, Option.some.injEq, Addr.mk.injEq, and_true, true_and] at hv
    obtain ⟨rfl, rfl⟩ := hv
    refine ⟨fun j hj => by simp at hj, fun j hj => ?_, fun j hj => by simp [World.frozen?, hh], (Below.refl _ w).grown hg (Nat.le_refl _) (fun k hk => by simp at hk), (Array.getElem?_eq_some_iff.1 hh).1⟩
    rw [cell_of_row w' _ j cur _ _ hh]
    exact ⟨_, Array.getElem?_eq_getElem (by omega)⟩

theorem take_get (l : List Int) (k : Nat) (h : k < l.length) : l.take (k + 1) = l.take k ++ [l.getD k 0] := by
  rw [List.take_succ_eq_append_getElem h]; simp [h]

set_option maxRecDepth 100000 in
set_option maxHeartbeats 400000 in
theorem toBytes_any (v : Value) (l : List Int) (w : World) (hr : Rd w v l) :
    Calls Try.prog 14 #[v] w fun e w' => ∃ v', e = .returned v' ∧ Own w.heap.size w' v' l ∧ Below w.heap.size w w' := by
  obtain ⟨a, cap, rfl, hl, hc⟩ := hr
  obtain ⟨i0, hi, hz0, hz1, hz2⟩ := info_parts Try.infoByte
  have hcell : ∀ k, k < l.length → ∃ b off, a = some ⟨b, off, none⟩ ∧ b < w.heap.size ∧ w.cell? ⟨b, off + k, none⟩ = some (.int .u8 (l.getD k 0)) := by
    intro k hk
    obtain ⟨b, off, h1, h2⟩ := hc (by intro h; rw [h] at hk; simp at hk)
    exact ⟨b, off, h1, World.block_lt_of_cell? w _ (h2 k hk), h2 k hk⟩
  have HC := hide hcell
  clear hcell hc
  go_enter Try.func14, Try.ntmps14
  go_wp2_with (at_make; go_must (refine wpList_make_full _ rfl _ _ 23 rfl w.heap.size 5 i0 (.int .u8 0) 1 Try.underlying23 hi hz0 hz1 _ _ _ _ l.length rfl rfl rfl rfl (by rw [hz2]; omega) (by unfold maxLen; omega) (Nat.le_refl _) ?_); intro w1 hown hgrow)
  have HA := hide (arr_made hown hgrow)
  clear hown hgrow
  go_loopw [4] (fun i wr => ∃ k : Nat, k ≤ l.length ∧ i = .int .i64 k ∧ Arr l.length w.heap.size w wr (l.take k)) (fun i _ => l.length - (intOf i).toNat)
  case atStart => exact ⟨0, Nat.zero_le _, rfl, by simpa using unhide HA⟩
  case round =>
    obtain ⟨k, hk, rfl, harr⟩ := hrel
    by_cases hlt : k < l.length
    · obtain ⟨b, off, rfl, hb, hcl⟩ := unhide HC k hlt
      have hlt' : (k : Int) < l.length := by omega
      have hcr := (harr.2.2.2.1.cell (p := ⟨b, off + k, none⟩) hb).trans hcl
      obtain ⟨v0, hv0⟩ := harr.2.1 k hlt
      have hf0 := harr.2.2.1 k hlt
      have hstep := arr_step (l.getD k 0) harr (by rw [List.length_take]; omega)
      rw [← take_get l k hlt, show (l.take k).length = k by rw [List.length_take]; omega] at hstep
      have HS := hide hstep
      clear hstep harr hcl hb
      generalize l.getD k 0 = x at *
      go_wp2_with fail
      go_roundw
      case rel => exact ⟨k + 1, by omega, by go_num, unhide HS⟩
      case measure => simp [intOf]; omega
    · go_wp2_with fail
      go_ret
      rw [List.take_of_length_le (by omega)] at harr
      exact ⟨_, rfl, arr_own harr (Nat.le_refl _) hl, harr.2.2.2.1⟩
end Go.Proofs.Ytcemaffeclknkaf
