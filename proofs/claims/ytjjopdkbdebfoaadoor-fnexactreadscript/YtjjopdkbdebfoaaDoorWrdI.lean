/-
  The words of a line, as the program finds them: proved by walking the functions.
-/
import Derived.Test.YtjjopdkbdebfoaaDoorSplW
namespace Go.Proofs.YtjjopdkbdebfoaaDoor
open Go.RowKit
set_option linter.unusedVariables false

theorem row_down {w : World} {B B' : Nat} {e : TypeId} {size : Nat} {v : Value} {n : Nat} {xs : List Value} (h : w.ownsRow B e size v n xs) (hb : B' ≤ B) : w.ownsRow B' e size v n xs :=
  ⟨h.1, h.2.imp id fun ⟨g, cap, cur, h1, h2, h3⟩ => ⟨g, cap, cur, h1, Nat.le_trans hb h2, h3⟩⟩
set_option maxRecDepth 100000 in
theorem strSplit_any (s : ByteArray) (c : UInt8) (w : World) (hs : s.size ≤ 1048576) :
    Calls Tryd.prog 26 #[.string s, .string ⟨#[c]⟩] w fun e w' => ∃ v l, e = .returned v ∧ OwnR tx1 1 w.heap.size w' v l ∧ bys l = pcs c s.data.toList ∧ Below w.heap.size w w' := by
  have HG := hide (genSplit_any s c w hs)
  go_enter Tryd.func26, Tryd.ntmps26
  go_wp2_with fail
  refine (unhide HG).mono ?_
  rintro e w1 ⟨v, l, rfl, h1, h2, h3⟩
  have H := hide (And.intro h1 (And.intro h2 h3))
  clear h1 h2 h3
  go_wp2_with fail
  go_ret
  obtain ⟨h1, h2, h3⟩ := unhide H
  exact ⟨_, l, rfl, h1, h2, h3⟩

set_option maxRecDepth 100000 in
set_option maxHeartbeats 1600000 in
theorem implWords_any (s : ByteArray) (w : World) (hs : s.size ≤ 1048576) :
    Calls Tryd.prog 16 #[.string s] w fun e w' => ∃ v ws, e = .returned v ∧ TRow w' w.heap.size v ws ∧ bys ws = wds s.data.toList ∧ Below w.heap.size w w' := by
  obtain ⟨i0, hi0, hz0, hz1, hz2⟩ := info_parts infoT
  have HG := hide (strSplit_any s 32 w hs)
  go_enter Tryd.func16, Tryd.ntmps16
  go_wp2_with fail
  refine (unhide HG).mono ?_
  rintro e w1 ⟨v, l, rfl, ho, hp, hb1⟩
  have HW : Hid (wds s.data.toList = (bys l).filter neB) := by show _ = _; rw [wds_pcs, hp]
  have HLN : l.length ≤ s.size + 1 := by
    have h1 := congrArg List.length hp
    have h2 : ∀ (c : UInt8) (x : List UInt8), (pcs c x).length ≤ x.length + 1 := by
      intro c x
      induction x with
      | nil => simp [pcs]
      | cons b x ih =>
        unfold pcs
        obtain ⟨p, ps, hq⟩ := pcs_ne c x
        rw [hq] at ih ⊢
        split <;> simp at ih ⊢ <;> omega
    have h3 := h2 32 s.data.toList
    rw [data_len] at h3
    simp only [bys, List.length_map] at h1
    omega
  obtain ⟨a, cap, rfl, -, hc⟩ := ho
  have HC : Hid (∀ j c, l[j]? = some c → ∃ g, a = some ⟨g, 0, none⟩ ∧ g < w1.heap.size ∧ w1.cell? ⟨g, j, none⟩ = some (.string c)) := fun j c hj => by
    obtain ⟨g, h1, _, h3, h4, _⟩ := hc (by intro h; rw [h] at hj; simp at hj)
    have := h4 j c hj 0 (.string c) rfl
    rw [Nat.zero_add, Nat.mul_one, Nat.add_zero] at this
    exact ⟨g, h1, h3, this⟩
  have HB1 := hide hb1
  have hs1 := hb1.size
  clear hc hp hb1
  go_wp2_with fail
  go_loopw [3, 9] (fun ov iv wr => ∃ (k : Nat) (out : List ByteArray), k ≤ l.length ∧ iv = .int .i64 k ∧ out.length ≤ k ∧ Hid (bys out = (bys (l.take k)).filter neB) ∧ TRow wr w1.heap.size ov out ∧ Below w1.heap.size w1 wr) (fun _ iv _ => l.length - (intOf iv).toNat)
  case atStart => exact ⟨0, [], Nat.zero_le _, rfl, Nat.le_refl _, rfl, World.ownsRow_nil _ _ _ _, Below.refl _ _⟩
  case round =>
    obtain ⟨k, out, hk, rfl, hol, hpl, hown, hbel⟩ := hrel
    have HB := hide hbel
    have HO := hide hown
    have hsz := hbel.size
    clear hbel hown
    by_cases hlt : k < l.length
    · obtain ⟨c, hkc⟩ : ∃ c, l[k]? = some c := ⟨_, List.getElem?_eq_getElem hlt⟩
      obtain ⟨g, rfl, hg, hcell⟩ := unhide HC k c hkc
      have g0 : wr.cell? ⟨g, k, none⟩ = some (.string c) := ((unhide HB).cell (p := ⟨g, k, none⟩) hg).trans hcell
      have hlt' : (k : Int) < l.length := by omega
      have htk : bys (l.take (k + 1)) = bys (l.take k) ++ [c.data.toList] := by
        rw [List.take_add_one, hkc]; simp [bys]
      by_cases hne : c.data.toList = []
      · have hem : (c.toList == []) = true := by rw [Lib.toList_data, hne]; rfl
        have HP : Hid (bys out = (bys (l.take (k + 1))).filter neB) := by
          show _ = _
          rw [htk, List.filter_append, unhide hpl, hne]
          simp [neB]
        clear hkc hcell htk hpl hne
        go_wp2_with fail
        go_roundw
        case rel => exact ⟨k + 1, out, by omega, by go_num, by omega, unhide HP, unhide HO, unhide HB⟩
        case measure => simp [intOf]; omega
      · have hem : (c.toList == []) = false := by
          rw [Lib.toList_data]
          simpa using hne
        have HP : Hid (bys (out ++ [c]) = (bys (l.take (k + 1))).filter neB) := by
          show _ = _
          rw [htk, List.filter_append, ← unhide hpl, bys_snoc, List.filter_cons_of_pos (neB_ne hne)]
          rfl
        clear hkc hcell htk hpl hne
        go_wp2_with (at_builtin; go_must (refine wpList_append_own _ rfl _ _ 34 rfl w1.heap.size 9 i0 _ 1 16 Tryd.underlying34 hi0 hz0 hz1 hz2 rfl (by decide) _ out.length (out.map Value.string) rfl ((unhide HO).alloc _) ⟨wr.heap.size, 0, none⟩ 1 1 [.string c] rfl rfl (cellsT wr _ _) (by simp [Value.oneCell']) (by unfold maxLen; omega) (by omega) (by simp; omega) ?_); intro v4 w4 hown4 hg4 _; have HO4 := hide hown4; have HB4 := hide (((unhide HB).alloc hsz _).grown hg4 (by rw [size_madeT]; omega) (fun k hk => ((unhide HO).lt k hk).1)); clear hown4 hg4)
        go_roundw
        case rel => exact ⟨k + 1, out ++ [c], by omega, by go_num, by simp; omega, unhide HP, by show World.ownsRow _ _ _ _ _ _ _; simpa using unhide HO4, unhide HB4⟩
        case measure => simp [intOf]; omega
    · obtain rfl : k = l.length := by omega
      have HE : Hid (bys out = wds s.data.toList) := by
        show _ = _
        rw [unhide hpl, List.take_of_length_le (Nat.le_refl _), unhide HW]
      clear hpl
      go_wp2_with fail
      go_ret
      exact ⟨_, out, rfl, row_down (unhide HO) hs1, unhide HE, (unhide HB1).trans ((unhide HB).mono hs1)⟩
end Go.Proofs.YtjjopdkbdebfoaaDoor
