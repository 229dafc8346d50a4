/-
  The lines of a text, as the model finds them: proved by walking the functions.
-/
import Derived.Test.YtjjopdkbdebfoaaDoorScrP
import Derived.Test.YtjjopdkbdebfoaaDoorWrdS
import Derived.Test.YtjjopdkbdebfoaaDoorSplW
namespace Go.Proofs.YtjjopdkbdebfoaaDoor
open Go.RowKit
set_option linter.unusedVariables false

theorem ib_first (c : UInt8) : ∀ (l : List UInt8) (k : Nat), (∀ j, j < k → l[j]? ≠ some c) → l[k]? = some c → Lib.indexByte l c = k
  | [], k, _, h => by simp at h
  | b :: l, 0, _, h => by
    simp at h
    rw [ib_cons, if_pos h]; rfl
  | b :: l, k + 1, hn, h => by
    have hb : ¬ b = c := fun e => hn 0 (by omega) (by simp [e])
    have ih := ib_first c l k (fun j hj => by have := hn (j + 1) (by omega); simpa using this) (by simpa using h)
    rw [ib_cons, if_neg hb, ih, if_neg (by omega)]
    omega
theorem ib_never (c : UInt8) : ∀ (l : List UInt8), (∀ j : Nat, l[j]? ≠ some c) → Lib.indexByte l c = -1
  | [], _ => rfl
  | b :: l, hn => by
    have hb : ¬ b = c := fun e => hn 0 (by simp [e])
    rw [ib_cons, if_neg hb, ib_never c l (fun j => by have := hn (j + 1); simpa using this), if_pos rfl]
theorem drop_get (s : ByteArray) (a j : Nat) (h : a + j < s.size) : (s.data.toList.drop a)[j]? = some s[a + j] := by
  rw [List.getElem?_drop, List.getElem?_eq_getElem (by rw [data_len]; exact h)]; rfl

set_option maxRecDepth 100000 in
set_option maxHeartbeats 1600000 in
theorem specCut_any (s : ByteArray) (w : World) (hs : s.size ≤ 1048576) :
    Calls Tryd.prog 27 #[.string s, .int .u8 10] w fun e w' => ∃ v ws, e = .returned v ∧ TRow w' w.heap.size v ws ∧ bys ws = pcs 10 s.data.toList ∧ Below w.heap.size w w' := by
  obtain ⟨i0, hi0, hz0, hz1, hz2⟩ := info_parts infoT
  have HO0 := hide (World.ownsRow_made (base := w.heap.size) (e := 9) (size := 1) w #[] 0 (Nat.le_refl _) (by decide) rfl)
  have HB0 : Hid (Below w.heap.size w (w.alloc (Obj.cells #[] 9))) := (Below.refl _ _).alloc (Nat.le_refl _) _
  go_enter Tryd.func27, Tryd.ntmps27
  go_wp2_with fail
  go_loopw [5, 6, 7] (fun ov fv iv wr => ∃ (i a : Nat) (out : List ByteArray), iv = .int .i64 i ∧ fv = .int .i64 a ∧ out.length ≤ i ∧ a ≤ i ∧ i ≤ s.size ∧ Hid (pcs 10 s.data.toList = bys out ++ pcs 10 (s.data.toList.drop a) ∧ ∀ j, a + j < i → (s.data.toList.drop a)[j]? ≠ some 10) ∧ TRow wr w.heap.size ov out ∧ Below w.heap.size w wr) (fun _ _ iv _ => s.size - (intOf iv).toNat)
  case atStart => exact ⟨0, 0, [], rfl, rfl, Nat.le_refl _, Nat.le_refl _, Nat.zero_le _, ⟨rfl, fun j hj => absurd hj (Nat.not_lt_zero _)⟩, unhide HO0, unhide HB0⟩
  case round =>
    obtain ⟨i, a, out, rfl, rfl, hol, hai, hil, hpl, hown, hbel⟩ := hrel
    have HB := hide hbel
    have HO := hide hown
    have hsz := hbel.size
    clear hbel hown HO0 HB0
    obtain ⟨h1, h2⟩ := unhide hpl
    have hai2 : (a : Int) ≤ i := by omega
    by_cases hlt : i < s.size
    · have hlt' : (i : Int) < s.size := by omega
      have hgi := drop_get s a (i - a) (by omega)
      have hai3 : a + (i - a) = i := by omega
      simp only [hai3] at hgi
      by_cases hb : s[i] = 10
      · have hb' : ((s[i].toNat : Int) == 10) = true := by rw [hb]; rfl
        rw [hb] at hgi
        have hhit := (pcs_hit 10 _ (i - a) (ib_first 10 _ _ (fun j hj => h2 j (by omega)) hgi)).1
        have HP : Hid (pcs 10 s.data.toList = bys (out ++ [s.extract a i]) ++ pcs 10 (s.data.toList.drop (i + 1)) ∧ ∀ j, i + 1 + j < i + 1 → (s.data.toList.drop (i + 1))[j]? ≠ some 10) := by
          refine ⟨?_, fun j hj => by omega⟩
          rw [h1, hhit, bys_snoc, Lib.extract_data, List.drop_drop, List.append_assoc, show a + (i - a + 1) = i + 1 by omega]
          rfl
        clear h1 h2 hpl hgi hb hhit
        go_wp2_with (at_builtin; go_must (refine wpList_append_own _ rfl _ _ 34 rfl w.heap.size 9 i0 _ 1 16 Tryd.underlying34 hi0 hz0 hz1 hz2 rfl (by decide) _ out.length (out.map Value.string) rfl ((unhide HO).alloc _) ⟨wr.heap.size, 0, none⟩ 1 1 [.string (s.extract a i)] rfl rfl (cellsT wr _ _) (by simp [Value.oneCell']) (by unfold maxLen; omega) (by omega) (by simp; omega) ?_); intro v4 w4 hown4 hg4 _; have HO4 := hide hown4; have HB4 := hide (((unhide HB).alloc hsz _).grown hg4 (by rw [size_madeT]; omega) (fun k hk => ((unhide HO).lt k hk).1)); clear hown4 hg4)
        go_roundw
        case rel => exact ⟨i + 1, i + 1, out ++ [s.extract a i], by go_num, by go_num, by simp; omega, Nat.le_refl _, by omega, unhide HP, by show World.ownsRow _ _ _ _ _ _ _; simpa using unhide HO4, unhide HB4⟩
        case measure => simp [intOf]; omega
      · have hb' : ((s[i].toNat : Int) == 10) = false := by
          rw [beq_eq_false_iff_ne]
          intro h
          exact hb (UInt8.toNat_inj.1 (by show _ = 10; omega))
        have HP : Hid (pcs 10 s.data.toList = bys out ++ pcs 10 (s.data.toList.drop a) ∧ ∀ j, a + j < i + 1 → (s.data.toList.drop a)[j]? ≠ some 10) := by
          refine ⟨h1, fun j hj => ?_⟩
          by_cases hj2 : a + j < i
          · exact h2 j hj2
          · obtain rfl : j = i - a := by omega
            rw [hgi]
            intro e
            exact hb (Option.some.inj e)
        clear h1 h2 hpl hgi hb
        go_wp2_with fail
        go_roundw
        case rel => exact ⟨i + 1, a, out, by go_num, rfl, by omega, by omega, by omega, unhide HP, unhide HO, unhide HB⟩
        case measure => simp [intOf]; omega
    · obtain rfl : i = s.size := by omega
      have hmiss := (pcs_miss 10 _ (ib_never 10 (s.data.toList.drop a) (fun j => by
        by_cases hj : a + j < s.size
        · exact h2 j hj
        · rw [List.getElem?_eq_none (by rw [List.length_drop, data_len]; omega)]; simp))).1
      have HP : Hid (bys (out ++ [s.extract a s.size]) = pcs 10 s.data.toList) := by
        show _ = _
        rw [h1, hmiss, bys_snoc, Lib.extract_data, List.take_of_length_le (by rw [List.length_drop, data_len]; omega)]
      have has : (a : Int) ≤ s.size := by omega
      clear h1 h2 hpl hmiss
      go_wp2_with (at_builtin; go_must (refine wpList_append_own _ rfl _ _ 34 rfl w.heap.size 9 i0 _ 1 16 Tryd.underlying34 hi0 hz0 hz1 hz2 rfl (by decide) _ out.length (out.map Value.string) rfl ((unhide HO).alloc _) ⟨wr.heap.size, 0, none⟩ 1 1 [.string (s.extract a s.size)] rfl rfl (cellsT wr _ _) (by simp [Value.oneCell']) (by unfold maxLen; omega) (by omega) (by simp; omega) ?_); intro v4 w4 hown4 hg4 _; have HO4 := hide hown4; have HB4 := hide (((unhide HB).alloc hsz _).grown hg4 (by rw [size_madeT]; omega) (fun k hk => ((unhide HO).lt k hk).1)); clear hown4 hg4)
      go_ret
      exact ⟨_, out ++ [s.extract a s.size], rfl, by show World.ownsRow _ _ _ _ _ _ _; simpa using unhide HO4, unhide HP, unhide HB4⟩

theorem bys_last {L : List ByteArray} (hne : L ≠ []) : ∃ A z, L = A ++ [z] := ⟨L.dropLast, L.getLast hne, (List.dropLast_concat_getLast hne).symm⟩
theorem trow_cells {W : World} {B : Nat} {v : Value} {ws : List ByteArray} (h : TRow W B v ws) (hne : ws ≠ []) : ∃ g cap, v = .slice (some ⟨g, 0, none⟩) ws.length cap ∧ ws.length ≤ cap ∧ g < W.heap.size ∧ ∀ i x, ws[i]? = some x → W.cell? ⟨g, i, none⟩ = some (.string x) := by
  rcases h.2 with ⟨_, h0⟩ | ⟨g, cap, cur, rfl, _, hg, hcap, hm, hcur, htake⟩
  · exact absurd (List.length_eq_zero_iff.1 h0) hne
  · refine ⟨g, cap, rfl, hcap, (Array.getElem?_eq_some_iff.1 hg).1, fun i x hx => ?_⟩
    rw [cell_of_row W g i cur _ (0, 0) hg]
    have hi := (List.getElem?_eq_some_iff.1 hx).1
    have h2 : (ws.map Value.string)[i]? = some (.string x) := by rw [List.getElem?_map, hx]; rfl
    rw [← htake, List.getElem?_take, if_pos (by omega)] at h2
    simpa using h2
set_option maxRecDepth 100000 in
set_option maxHeartbeats 1600000 in
theorem specLines_any (s : ByteArray) (w : World) (hs : s.size ≤ 1048576) :
    Calls Tryd.prog 18 #[.string s] w fun e w' => ∃ v L, e = .returned v ∧ RdR tx1 1 w' v L ∧ bys L = lns s.data.toList ∧ Below w.heap.size w w' := by
  have HC := hide (specCut_any s w hs)
  go_enter Tryd.func18, Tryd.ntmps18
  go_wp2_with fail
  refine (unhide HC).mono ?_
  rintro e w1 ⟨v, L, rfl, hrow, hL, hb⟩
  have hne : L ≠ [] := fun h => by
    obtain ⟨p, ps, hp⟩ := pcs_ne 10 s.data.toList
    rw [h, hp] at hL
    simp [bys] at hL
  have hLl : L.length ≤ s.size + 1 := by
    have h1 := congrArg List.length hL
    have h2 := pcs_len 10 s.data.toList
    rw [data_len] at h2
    simp only [bys, List.length_map] at h1
    omega
  obtain ⟨g, cap, rfl, hcap, hg, hcell⟩ := trow_cells hrow hne
  obtain ⟨A, z, rfl⟩ := bys_last hne
  have hlen : (A ++ [z]).length = A.length + 1 := by simp
  have hz : w1.cell? ⟨g, A.length, none⟩ = some (.string z) := hcell A.length z (by simp)
  have HCELL := hide hcell
  have HB := hide hb
  have HLN : Hid (lns s.data.toList = if z.data.toList = [] then bys A else bys A ++ [z.data.toList]) := by
    show noE _ = _
    rw [← hL, bys_snoc, noE_snoc]
  have HRD : Hid (∀ (M : List ByteArray) (c : Nat), M <+: A ++ [z] → RdR tx1 1 w1 (.slice (some ⟨g, 0, none⟩) M.length c) M) := fun M c hM => ⟨_, c, rfl, by have := hM.length_le; omega, fun _ => ⟨g, 0, rfl, hg, fun i x hx j u hu => by
    match j, hu with
    | 0, hu =>
      simp only [tx1, List.getElem?_cons_zero, Option.some.injEq] at hu
      subst hu
      have hi := (List.getElem?_eq_some_iff.1 hx).1
      have := unhide HCELL i x (by rw [← hx]; obtain ⟨t, ht⟩ := hM; rw [← ht, List.getElem?_append_left hi])
      rw [Nat.zero_add, Nat.mul_one, Nat.add_zero]
      exact this
    | j + 1, hu => simp [tx1] at hu⟩⟩
  rw [hlen] at hcap ⊢
  have hw1 : IntKind.i64.wrap ((A.length : Int) + 1 - 1) = A.length := by rw [IntKind.wrap_i64]; rw [hlen] at hLl; omega
  have hw2 : wrap64 (A.length : Int) = A.length := by
    have := hLl
    simp at this
    unfold wrap64; omega
  have hlt : (A.length : Int) < (A.length : Int) + 1 := by omega
  clear hcell hrow hL hb hne hlen
  by_cases he : z.data.toList = []
  · have hzb : (z.toList == []) = true := by rw [Lib.toList_data, he]; rfl
    have HE := unhide HLN
    rw [if_pos he] at HE
    have HE := hide HE
    have HX := hide (unhide HRD A cap (List.prefix_append _ _))
    have hac : (A.length : Int) ≤ cap := by omega
    clear he HLN HRD
    go_wp2_with fail
    go_ret
    exact ⟨_, A, rfl, unhide HX, (unhide HE).symm, unhide HB⟩
  · have hzb : (z.toList == []) = false := by rw [Lib.toList_data]; simpa using he
    have HE := unhide HLN
    rw [if_neg he, ← bys_snoc] at HE
    have HE := hide HE
    have HX := unhide HRD (A ++ [z]) cap (List.prefix_refl _)
    rw [show (A ++ [z]).length = A.length + 1 by simp] at HX
    have HX := hide HX
    clear he HLN HRD
    go_wp2_with fail
    go_ret
    exact ⟨_, A ++ [z], rfl, unhide HX, (unhide HE).symm, unhide HB⟩
end Go.Proofs.YtjjopdkbdebfoaaDoor
