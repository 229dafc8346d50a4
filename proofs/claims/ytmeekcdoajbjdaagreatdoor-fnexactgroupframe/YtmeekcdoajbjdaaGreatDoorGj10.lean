/-
  A row of bytes made a text.
-/
import Derived.Test.YtmeekcdoajbjdaaGreatDoorGj01
import Derived.Test.YtmeekcdoajbjdaaGreatDoorGj08
import Derived.Laws.BytesString
namespace Go.Proofs.YtmeekcdoajbjdaaGreatDoor
open Go.RowKit
set_option linter.unusedVariables false

/-- The text of bytes. -/
def strB (ns : List Int) : ByteArray := ns.foldl (fun r n => r.push (UInt8.ofNat n.toNat)) ByteArray.empty

theorem load_row {P : Program} (W : World) (b off : Nat) (ns : List Int) (h : ∀ i, i < ns.length → W.cell? ⟨b, off + i, none⟩ = some (.int .u8 (ns.getD i 0))) :
    ∀ (m i : Nat) (acc : Array Value), i + m = ns.length → acc = ((ns.take i).map (Value.int .u8)).toArray → (loadCellsFrom ⟨b, off, none⟩ i m acc).run P W = .ok (ns.map (Value.int .u8)).toArray W := by
  intro m
  induction m with
  | zero =>
    intro i acc hi ha
    subst ha
    rw [List.take_of_length_le (by omega)]
    rfl
  | succ m ih =>
    intro i acc hi ha
    have e : (⟨b, off, none⟩ : Addr).add i = ⟨b, off + i, none⟩ := by unfold Addr.add; split <;> simp_all
    have hc := h i (by omega)
    simp only [loadCellsFrom, Sem.run_bind, e]
    have hl : (load ⟨b, off + i, none⟩).run P W = .ok (.int .u8 (ns.getD i 0)) W := by simp [hc]
    rw [hl]
    simp only [Result.andThen]
    refine ih (i + 1) _ (by omega) ?_
    rw [ha, take_get ns i (by omega), List.map_append]
    simp
theorem conv_text (v : Value) (ns : List Int) (W : World) (hr : Rd W v ns) :
    (convert 24 9 v).run Tryz.prog W = .ok (.string (strB ns)) W := by
  obtain ⟨a, cap, rfl, _, hc⟩ := hr
  rw [run_convert_bytes_string W _ _ 5 a _ _ Tryz.underlying24 Tryz.underlying5 Tryz.underlying9]
  by_cases hne : ns = []
  · subst hne
    cases a with
    | none => rfl
    | some ad => rfl
  · obtain ⟨b, off, rfl, hcell⟩ := hc hne
    exact run_bytesToString W ⟨b, off, none⟩ ns.length cap ns (load_row W b off ns hcell ns.length 0 #[] (by omega) rfl)
end Go.Proofs.YtmeekcdoajbjdaaGreatDoor
namespace Go.Proofs.YtmeekcdoajbjdaaGreatDoor
open Go.RowKit
set_option linter.unusedVariables false

set_option maxRecDepth 100000 in
set_option maxHeartbeats 400000 in
theorem take_zero (B : Nat) (k : Nat) (a : Option Addr) (len cap : Nat) (w : World) (hr : Rdr B w (.slice a len cap) k) (h1 : k ≤ len) (hl : len ≤ 1073741824) (hcap : len ≤ cap) :
    Calls Tryz.prog 84 #[.pointer (some ⟨B, 0, none⟩), .int .i64 0] w fun e w' => (∃ a' c', e = .returned (.slice a' 0 c')) ∧ ∃ q, w' = (w.setCell ⟨B, 1, none⟩ (.int .i64 k)).drewN q := by
  obtain ⟨c1, c2, c3⟩ := hr
  have h1' : (k : Int) ≤ len := by omega
  have h2' : ¬ ((len : Int) - k < 0) := by omega
  have h3' : (k : Int) ≤ cap := by omega
  go_enter Tryz.func84, Tryz.ntmps84
  go_wp2_with fail
  go_quiet (fail)
  go_wp2_with fail
  go_quiet (fail)
  go_wp2_with fail
  all_goals go_ret
  all_goals exact ⟨⟨_, _, by simp; exact ⟨rfl, rfl⟩⟩, _, rfl⟩

/-- The text whose bytes begin at a place, and the place behind it. -/
def textA (l : List Int) (k : Nat) : Option (ByteArray × Nat) :=
  match getU l k with
  | none => none
  | some (u, n) => if unz u < 0 ∨ 13 < unz u ∨ (l.length : Int) - n < unz u then none else some (strB ((l.drop n).take (unz u).toNat), n + (unz u).toNat)
theorem textA_no {l : List Int} {k : Nat} (h : getU l k = none) : textA l k = none := by unfold textA; rw [h]
theorem textA_bad {l : List Int} {k u n : Nat} (h : getU l k = some (u, n)) (hb : unz u < 0 ∨ 13 < unz u ∨ (l.length : Int) - n < unz u) : textA l k = none := by
  unfold textA; rw [h]; simp only; rw [if_pos hb]
theorem textA_yes {l : List Int} {k u n : Nat} (h : getU l k = some (u, n)) (hb : ¬ (unz u < 0 ∨ 13 < unz u ∨ (l.length : Int) - n < unz u)) :
    textA l k = some (strB ((l.drop n).take (unz u).toNat), n + (unz u).toNat) := by
  unfold textA; rw [h]; simp only; rw [if_neg hb]
theorem getU_le : ∀ (f i u : Nat) (l : List Int) (k v n : Nat), scan l k f i u = some (v, n) → n ≤ l.length ∧ k ≤ n
  | 0, _, _, _, _, _, _, h => by simp [scan] at h
  | f + 1, i, u, l, k, v, n, h => by
    rw [scan] at h
    split at h
    · cases h
    · split at h
      · cases h
      · split at h
        · simp only [Option.some.injEq, Prod.mk.injEq] at h; omega
        · exact getU_le f (i + 1) _ l k v n h

/-- How the reading of a text ends. -/
def TxtEnd (B : Nat) (v : Value) (w : World) (r : Option (ByteArray × Nat)) (e : Ending) (w' : World) : Prop :=
  w.grownBy w' (some B) ∧ (∀ s next, r = some (s, next) → e = .returned (.string s) ∧ Rdr B w' v next) ∧ (r = none → ∃ p, e = .panicked (fault 3 p))
theorem txtEnd_fail {B : Nat} {v : Value} {w w' : World} {r : Option (ByteArray × Nat)} (hg : w.grownBy w' (some B)) (hr : r = none) (p : Int) : TxtEnd B v w r (.panicked (fault 3 p)) w' :=
  ⟨hg, (fun _ _ h => by rw [hr] at h; cases h), fun _ => ⟨p, rfl⟩⟩
theorem piece_rd {w : World} {b off cap n c : Nat} {l : List Int} (h : ∀ i, i < l.length → w.cell? ⟨b, off + i, none⟩ = some (.int .u8 (l.getD i 0))) (hn : n + c ≤ l.length) (hl : l.length ≤ 65536) :
    Rd w (.slice (some ⟨b, off + n, none⟩) c cap) ((l.drop n).take c) := by
  have hlen : ((l.drop n).take c).length = c := by rw [List.length_take, List.length_drop]; omega
  refine ⟨_, cap, by rw [hlen], by omega, fun _ => ⟨b, off + n, rfl, fun i hi => ?_⟩⟩
  rw [hlen] at hi
  have := h (n + i) (by omega)
  rw [Nat.add_assoc, this]
  have e : ((l.drop n).take c).getD i 0 = l.getD (n + i) 0 := by simp [hi, List.getElem?_drop]
  rw [e]
theorem txtEnd_done {B : Nat} {v : Value} {w w' : World} {r : Option (ByteArray × Nat)} {s : ByteArray} {n : Nat} (hg : w.grownBy w' (some B)) (hr : r = some (s, n)) (h : Rdr B w' v n) : TxtEnd B v w r (.returned (.string s)) w' :=
  ⟨hg, (fun a b h' => by rw [hr] at h'; cases h'; exact ⟨rfl, h⟩), (fun h' => by rw [hr] at h'; cases h')⟩

set_option maxRecDepth 100000 in
set_option maxHeartbeats 1000000 in
theorem text_any (B : Nat) (v : Value) (l : List Int) (k : Nat) (w w0 : World) (hrd : Rd w v l) (hcap : CapOk v) (hBw : w.heap.size ≤ B) (hbel : Below w.heap.size w w0) (hr : Rdr B w0 v k) (hk : k ≤ l.length) (hl : l.length ≤ 65536) (hb : Bts l) :
    Calls Tryz.prog 93 #[.pointer (some ⟨B, 0, none⟩)] w0 fun e w' => TxtEnd B v w0 (textA l k) e w' := by
  have HN := hide (number_any B v l k w w0 hrd hcap hBw hbel hr hk hl hb)
  have HRd := hide hrd
  have HBl := hide hbel
  have hv := rd_len hrd
  have HCap := hide hcap
  clear hrd hbel hr hcap
  go_enter Tryz.func93, Tryz.ntmps93
  go_wp2_with fail
  refine (unhide HN).mono ?_
  rintro e w1 hN
  cases hg : getU l k with
  | none =>
    obtain ⟨p, rfl⟩ := hN.2.2 hg
    have HG := hide hN.1
    have HT := hide (textA_no hg)
    clear hN hg
    go_wp2_with fail
    exact ⟨rfl, txtEnd_fail (unhide HG) (unhide HT) _⟩
  | some x =>
    obtain ⟨u, n⟩ := x
    obtain ⟨rfl, hrn⟩ := hN.2.1 u n hg
    have HG := hide hN.1
    have HRn := hide hrn
    have hle := getU_le 10 0 0 l k u n hg
    have HBad := hide (fun h => textA_bad hg h)
    have HYes := hide (fun h => textA_yes hg h)
    clear hN hrn hg
    generalize unz u = z at *
    obtain ⟨hn1, hn2⟩ := hle
    by_cases hbad : z < 0 ∨ 13 < z
    · have HT := hide (unhide HBad (by omega))
      rcases (show z < 0 ∨ (0 ≤ z ∧ 13 < z) by omega) with h1 | ⟨h1, h2⟩
      all_goals
        clear hbad
        go_wp2_with fail
        refine (fail_any B 3 _ _ _ (unhide HRn)).mono ?_
        rintro e w2 ⟨rfl, rfl⟩
        go_wp2_with fail
        exact ⟨rfl, txtEnd_fail (unhide HG) (unhide HT) _⟩
    · obtain ⟨c, rfl⟩ := Int.eq_ofNat_of_zero_le (show 0 ≤ z by omega)
      have hc13 : (c : Int) ≤ 13 := by omega
      clear hbad
      obtain ⟨a, cap, hva⟩ := hv
      by_cases hlong : (l.length : Int) - n < c
      · have HT := hide (unhide HBad (by omega))
        rw [hva] at HRn
        go_wp2_with fail
        refine (take_end B c n a l.length cap _ (unhide HRn) (by omega) (by omega) (by omega) hlong (by omega)).mono ?_
        rintro e w2 ⟨rfl, q, rfl⟩
        go_wp2_with fail
        exact ⟨rfl, txtEnd_fail (gr_trans (unhide HG) (gr_drewN _ _ _)) (unhide HT) _⟩
      · have HY := hide (unhide HYes (by omega))
        rw [Int.toNat_natCast] at HY
        rw [hva] at HRn
        by_cases hc0 : c = 0
        · subst hc0
          go_wp2_with fail
          refine (take_zero B n a l.length cap _ (unhide HRn) (by omega) (by omega) ((unhide HCap) _ _ _ hva)).mono ?_
          rintro e w2 ⟨⟨a', c', rfl⟩, q, rfl⟩
          have hcv := fun W => conv_text (.slice a' 0 c') [] W ⟨a', c', rfl, by simp, fun h => absurd rfl h⟩
          have HRw := hide (((unhide HRn).step (n : Int)).drewN q)
          have HGw := hide (gr_trans (unhide HG) (gr_trans (gr_set w1 ⟨B, 1, none⟩ (.int .i64 (n : Int))) (gr_drewN _ q _)))
          have HY' : Hid (textA l k = some (strB [], n)) := unhide HY
          generalize strB [] = s at *
          have HVA := hide hva
          clear hva
          go_wp2_with fail
          go_ret
          exact txtEnd_done (unhide HGw) (unhide HY') (by rw [unhide HVA]; exact unhide HRw)
        · have hne : l ≠ [] := by intro h; rw [h] at hn1 hlong; simp at hn1 hlong; omega
          obtain ⟨a2, cap2, e2, _, hcell⟩ := unhide HRd
          rw [hva] at e2
          simp only [Value.slice.injEq, true_and] at e2
          obtain ⟨rfl, rfl⟩ := e2
          obtain ⟨b, off, rfl, hcl⟩ := hcell hne
          have hbw : b < w.heap.size := World.block_lt_of_cell? w _ (hcl 0 (List.length_pos_iff.2 hne))
          have hcl1 : ∀ i, i < l.length → w1.cell? ⟨b, off + i, none⟩ = some (.int .u8 (l.getD i 0)) := fun i hi =>
            (unhide HG).cell (((unhide HBl).cell (p := ⟨b, off + i, none⟩) hbw).trans (hcl i hi)) (by show some b ≠ some B; intro e; injection e; omega)
          go_wp2_with fail
          refine (take_ok B c n b off l.length cap _ (unhide HRn) (by omega) (by omega) ((unhide HCap) _ _ _ hva) (by omega)).mono ?_
          rintro e w2 ⟨rfl, q, rfl⟩
          have hcl2 : ∀ i, i < l.length → ((w1.setCell ⟨B, 1, none⟩ (.int .i64 (n + c : Nat))).drewN q).cell? ⟨b, off + i, none⟩ = some (.int .u8 (l.getD i 0)) := fun i hi => by
            rw [World.cell?_drewN, World.cell?_setCell_other _ _ _ _ (by intro e; injection e; omega)]; exact hcl1 i hi
          have hcv := conv_text _ _ _ (piece_rd (cap := cap - n) hcl2 (show n + c ≤ l.length by omega) hl)
          simp only [Int.natCast_add] at hcv
          have HRw := hide (((unhide HRn).step ((n + c : Nat) : Int)).drewN q)
          have HGw := hide (gr_trans (unhide HG) (gr_trans (gr_set w1 ⟨B, 1, none⟩ (.int .i64 ((n + c : Nat) : Int))) (gr_drewN _ q _)))
          generalize strB ((l.drop n).take c) = s at *
          clear hcl1 hcl2 hcl hcell
          have HVA := hide hva
          clear hva
          go_wp2_with fail
          go_ret
          exact txtEnd_done (unhide HGw) (unhide HY) (by rw [unhide HVA]; exact unhide HRw)
end Go.Proofs.YtmeekcdoajbjdaaGreatDoor
