/-
  What the two readers of a number do, proved by walking them: they find the same number and place, or none.
-/
import Derived.Test.YtmeekcdoajbjdaaGreatDoorGj06
import Derived.Defers
import Derived.Recover
import Derived.Laws.Pointers
import Derived.Stop.Asserts
namespace Go.Proofs.YtmeekcdoajbjdaaGreatDoor
open Go.RowKit
set_option linter.unusedVariables false

theorem unfold_any (u : Nat) (w : World) (h1 : u < 18446744073709551616) :
    Calls Tryz.prog 97 #[.int .u64 u] w fun e w' => e = .returned (.int .i64 (unz u)) ∧ w' = w := by
  have h0 : (0 : Int) ≤ (u : Int) := by omega
  have h2 : (u : Int) ≤ 18446744073709551615 := by omega
  have HF := hide (unfold_eq u h1)
  clear h1
  go_enter Tryz.func97, Tryz.ntmps97
  go_wp2
  go_ret
  exact ⟨ret_int (unhide HF), rfl⟩

theorem scan_end (l : List Int) (k i u : Nat) (hi : i ≤ 9) (h : l.length ≤ k + i) : scan l k (10 - i) i u = none := by
  obtain ⟨f, hf⟩ : ∃ f, 10 - i = f + 1 := ⟨9 - i, by omega⟩
  rw [hf, scan, if_pos h]
theorem scan_bad (l : List Int) (k i u : Nat) (hi : i ≤ 9) (h : k + i < l.length) (hb : (i = 9 ∧ 1 < l.getD (k + i) 0) ∨ (0 < i ∧ l.getD (k + i) 0 = 0)) : scan l k (10 - i) i u = none := by
  obtain ⟨f, hf⟩ : ∃ f, 10 - i = f + 1 := ⟨9 - i, by omega⟩
  rw [hf, scan, if_neg (by omega), if_pos hb]
theorem scan_yes (l : List Int) (k i u : Nat) (hi : i ≤ 9) (h : k + i < l.length) (hb : ¬ ((i = 9 ∧ 1 < l.getD (k + i) 0) ∨ (0 < i ∧ l.getD (k + i) 0 = 0))) (hc : l.getD (k + i) 0 < 128) :
    scan l k (10 - i) i u = some (u + (l.getD (k + i) 0 % 128).toNat * 128 ^ i, k + i + 1) := by
  obtain ⟨f, hf⟩ : ∃ f, 10 - i = f + 1 := ⟨9 - i, by omega⟩
  rw [hf, scan, if_neg (by omega), if_neg hb, if_pos hc]
theorem scan_next (l : List Int) (k i u : Nat) (hi : i ≤ 9) (h : k + i < l.length) (hb : ¬ ((i = 9 ∧ 1 < l.getD (k + i) 0) ∨ (0 < i ∧ l.getD (k + i) 0 = 0))) (hc : ¬ l.getD (k + i) 0 < 128) :
    scan l k (10 - i) i u = scan l k (10 - (i + 1)) (i + 1) (u + (l.getD (k + i) 0 % 128).toNat * 128 ^ i) := by
  obtain ⟨f, hf⟩ : ∃ f, 10 - i = f + 1 := ⟨9 - i, by omega⟩
  rw [hf, scan, if_neg (by omega), if_neg hb, if_neg hc, show 10 - (i + 1) = f by omega]

/-- How the reading of a number ends: with the number and the reader behind it, or with the reader's fault. -/
def NumEnd (B : Nat) (v : Value) (w : World) (r : Option (Nat × Nat)) (e : Ending) (w' : World) : Prop :=
  w.grownBy w' (some B) ∧ (∀ u next, r = some (u, next) → e = .returned (.int .i64 (unz u)) ∧ Rdr B w' v next) ∧ (r = none → ∃ p, e = .panicked (fault 3 p))
theorem numEnd_fail {B : Nat} {v : Value} {w w' : World} {r : Option (Nat × Nat)} (hg : w.grownBy w' (some B)) (hr : r = none) (p : Int) : NumEnd B v w r (.panicked (fault 3 p)) w' :=
  ⟨hg, (fun _ _ h => by rw [hr] at h; cases h), fun _ => ⟨p, rfl⟩⟩
theorem numEnd_done {B : Nat} {v : Value} {w w' : World} {r : Option (Nat × Nat)} {u n : Nat} (hg : w.grownBy w' (some B)) (hr : r = some (u, n)) (h : Rdr B w' v n) : NumEnd B v w r (.returned (.int .i64 (unz u))) w' :=
  ⟨hg, (fun a b h' => by rw [hr] at h'; cases h'; exact ⟨rfl, h⟩), (fun h' => by rw [hr] at h'; cases h')⟩

set_option maxRecDepth 100000 in
set_option maxHeartbeats 1000000 in
theorem number_some (B : Nat) (w : World) (b off cap k : Nat) (l : List Int) (hr : Rdr B w (.slice (some ⟨b, off, none⟩) l.length cap) k) (hk : k ≤ l.length) (hl : l.length ≤ 65536) (hcap : l.length ≤ cap) (hbB : b ≠ B)
    (hc : ∀ i, i < l.length → w.cell? ⟨b, off + i, none⟩ = some (.int .u8 (l.getD i 0))) (hb : Bts l) :
    Calls Tryz.prog 89 #[.pointer (some ⟨B, 0, none⟩)] w fun e w' =>
      NumEnd B (.slice (some ⟨b, off, none⟩) l.length cap) w (getU l k) e w' := by
  have HR := hide hr
  have HC := hide hc
  have HB := hide hb
  clear hr hc hb
  go_enter Tryz.func89, Tryz.ntmps89
  go_wp2_with fail
  go_loopw [3, 4] (fun uv iv wr => ∃ i u : Nat, uv = .int .u64 u ∧ iv = .int .i64 i ∧ i ≤ 9 ∧ u < 128 ^ i ∧ scan l k (10 - i) i u = getU l k ∧ k + i ≤ l.length ∧ Rdr B wr (.slice (some ⟨b, off, none⟩) l.length cap) ((k + i : Nat) : Int) ∧ w.grownBy wr (some B)) (fun _ iv _ => 10 - (intOf iv).toNat)
  case atStart => exact ⟨0, 0, rfl, rfl, by omega, by decide, rfl, by omega, unhide HR, World.grownBy.refl _ _⟩
  case round =>
    obtain ⟨i, u, rfl, rfl, hi, hu, hs, hki, hrd, hgr⟩ := hrel
    have HS := hide hs
    have HU := hide hu
    have HRD := hide hrd
    have HGR := hide hgr
    clear hs hu hrd hgr
    by_cases hend : k + i < l.length
    · have hcx := unhide HC (k + i) hend
      have hbx := bts_get (unhide HB) (k + i)
      have HE := hide (fun h => scan_bad l k i u hi hend h)
      have HY := hide (fun h1 h2 => scan_yes l k i u hi hend h1 h2)
      have HN := hide (fun h1 h2 => scan_next l k i u hi hend h1 h2)
      generalize l.getD (k + i) 0 = c at *
      obtain ⟨hc0, hc1⟩ := hbx
      have hcr := (unhide HGR).cell hcx (by simpa using hbB)
      clear hcx
      go_wp2_with fail
      refine (take_ok B 1 (k + i) b off l.length cap _ (unhide HRD) (by omega) (by omega) hcap (by omega)).mono ?_
      rintro e w1 ⟨rfl, q, rfl⟩
      have HRW := hide (((unhide HRD).step ((k + i + 1 : Nat) : Int)).drewN q)
      have HGW := hide (gr_trans (unhide HGR) (gr_trans (gr_set wr ⟨B, 1, none⟩ (.int .i64 ((k + i + 1 : Nat) : Int))) (gr_drewN _ q _)))
      by_cases hbad : (i = 9 ∧ 1 < c) ∨ (0 < i ∧ c = 0)
      · have HBad := hide (unhide HE hbad)
        rcases (show (i = 9 ∧ 1 < c) ∨ (¬ (i = 9 ∧ 1 < c) ∧ 0 < i ∧ c = 0) by omega) with ⟨rfl, h2⟩ | ⟨h3, h4, rfl⟩
        · clear hbad
          go_wp2_with fail
          refine (fail_any B 3 _ _ _ (unhide HRW)).mono ?_
          rintro e w2 ⟨rfl, rfl⟩
          go_wp2_with fail
          exact ⟨rfl, numEnd_fail (unhide HGW) ((unhide HS).symm.trans (unhide HBad)) _⟩
        · have h4' : (0 : Int) < i := by omega
          have h5 : ((i : Int) == 9) = false ∨ ((i : Int) == 9) = true := by cases ((i : Int) == 9) <;> simp
          clear hbad
          rcases h5 with h5 | h5
          all_goals
            go_wp2_with fail
            refine (fail_any B 3 _ _ _ (unhide HRW)).mono ?_
            rintro e w2 ⟨rfl, rfl⟩
            go_wp2_with fail
            exact ⟨rfl, numEnd_fail (unhide HGW) ((unhide HS).symm.trans (unhide HBad)) _⟩
      · have h9 : i = 9 → c ≤ 1 := fun h => by omega
        have hor := or_step c i u hi (unhide HU) hc0 hc1 h9
        have hlt := step_lt c i u hi (unhide HU) hc0 hc1 h9
        have hand := and127b c hc0 hc1
        have h7 : 7 * (i : Int) ≤ 63 := by omega
        have hcase : (((i : Int) == 9) = false ∧ (i : Int) ≤ 0) ∨ (((i : Int) == 9) = false ∧ 0 < (i : Int) ∧ (c == 0) = false) ∨ (((i : Int) == 9) = true ∧ 0 < (i : Int) ∧ (c == 0) = false ∧ c ≤ 1) := by
          simp only [beq_eq_false_iff_ne, beq_iff_eq]
          omega
        by_cases hc : c < 128
        · have HYes := hide (unhide HY hbad hc)
          have HLt := hide hlt.1
          clear hbad hlt h9
          generalize u + (c % 128).toNat * 128 ^ i = u' at *
          rcases hcase with ⟨h1, h2⟩ | ⟨h1, h2, h3⟩ | ⟨h1, h2, h3, h4⟩
          all_goals
            go_wp2_with fail
            refine (unfold_any u' _ (unhide HLt)).mono ?_
            rintro e w2 ⟨rfl, rfl⟩
            go_wp2_with fail
            go_ret
            exact numEnd_done (unhide HGW) ((unhide HS).symm.trans (unhide HYes)) (unhide HRW)
        · have HNext := hide (unhide HN hbad (by omega))
          have HLt := hide hlt.2
          have hi9 : i ≤ 8 := by omega
          clear hbad hlt h9
          generalize u + (c % 128).toNat * 128 ^ i = u' at *
          rcases hcase with ⟨h1, h2⟩ | ⟨h1, h2, h3⟩ | ⟨h1, h2, h3, h4⟩
          · go_wp2_with fail
            go_roundw
            case rel => exact ⟨i + 1, u', rfl, by go_num, by omega, unhide HLt, (unhide HNext).symm.trans (unhide HS), by omega, unhide HRW, unhide HGW⟩
            case measure => simp [intOf]; omega
          · go_wp2_with fail
            go_roundw
            case rel => exact ⟨i + 1, u', rfl, by go_num, by omega, unhide HLt, (unhide HNext).symm.trans (unhide HS), by omega, unhide HRW, unhide HGW⟩
            case measure => simp [intOf]; omega
          · omega
    · go_wp2_with fail
      refine (take_end B 1 ((k + i : Nat) : Int) _ _ _ _ (unhide HRD) (by omega) (by omega) (by omega) (by omega) (by omega)).mono ?_
      rintro e w1 ⟨rfl, q, rfl⟩
      go_wp2_with fail
      have hres := (unhide HS).symm.trans (scan_end _ _ _ _ hi (by omega))
      exact ⟨rfl, numEnd_fail (gr_trans (unhide HGR) (gr_drewN _ _ _)) hres _⟩
end Go.Proofs.YtmeekcdoajbjdaaGreatDoor
namespace Go.Proofs.YtmeekcdoajbjdaaGreatDoor
open Go.RowKit
set_option linter.unusedVariables false

/-- The reader's error as a value. -/
def faultV (c k : Int) : Value := .iface 109 (.agg #[.int .i64 c, .int .i64 k])

theorem ta_fault (c k : Int) (w : World) : (Instr.typeAssert (.iface 109 (.agg #[.int .i64 c, .int .i64 k])) 20 98 true).run Tryz.prog w =
    .ok (.tuple #[.iface 109 (.agg #[.int .i64 c, .int .i64 k]), .bool true]) w := by kernel_rfl
theorem ta_nil (w : World) : (Instr.typeAssert .nilIface 20 98 true).run Tryz.prog w = .ok (.tuple #[.nilIface, .bool false]) w := by kernel_rfl
theorem rdr_below {B C : Nat} {w w' : World} {v : Value} {k : Int} (h : Rdr B w v k) (hb : Below C w w') (hB : B < C) : Rdr B w' v k :=
  ⟨(hb.cell (p := ⟨B, 0, none⟩) hB).trans h.1, (hb.cell (p := ⟨B, 1, none⟩) hB).trans h.2, (hb.frozen (p := ⟨B, 1, none⟩) hB).trans h.3⟩
theorem rdr_grown {B g : Nat} {w w' : World} {v : Value} {k : Int} (h : Rdr B w v k) (hb : w.grownBy w' (some g)) (hne : B ≠ g) : Rdr B w' v k := by
  have hlt := World.block_lt_of_cell? w _ h.1
  have hblk := hb.block B hlt (by simpa using hne)
  exact ⟨(World.cell?_of_block (a := ⟨B, 0, none⟩) hblk).trans h.1, (World.cell?_of_block (a := ⟨B, 1, none⟩) hblk).trans h.2, (World.frozen?_of_block (a := ⟨B, 1, none⟩) hblk).trans h.3⟩
theorem gr_err {B q : Nat} {w w2 : World} {x : Value} (hg : ((w.alloc (.cells #[.nilIface] 98)).drewN q).grownBy w2 (some B)) : w.grownBy (w2.setCell ⟨w.heap.size, 0, none⟩ x) (some B) := by
  refine ⟨hg.os, hg.tape, hg.output, ?_, fun i hi hne => ?_⟩
  · have := hg.size; simp [World.setCell] at this ⊢; omega
  · rw [Below.heap_setCell _ _ _ _ (by show i ≠ w.heap.size; omega), hg.block i (by simp; omega) hne]
    exact Below.heap_alloc w _ i hi
def CapOk (v : Value) : Prop := ∀ a n c, v = .slice a n c → n ≤ c
theorem rdr_new (w : World) (v : Value) (k : Int) : Rdr w.heap.size (w.alloc (.cells #[v, .int .i64 k] 96)) v k :=
  ⟨by simp, by simp, by simp⟩
theorem capOk_own {B : Nat} {w : World} {v : Value} {l : List Int} (h : OwnT B w v l) : CapOk v := by
  obtain ⟨g, cap, cur, t, rfl, _, _, h1, _⟩ := h
  intro a n c e
  simp only [Value.slice.injEq] at e
  omega
end Go.Proofs.YtmeekcdoajbjdaaGreatDoor
