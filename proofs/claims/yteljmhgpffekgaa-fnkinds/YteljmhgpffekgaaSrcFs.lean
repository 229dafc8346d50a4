/-
  The source of drawn things: a row of floats, proved by walking its method.
-/
import Derived.Test.YteljmhgpffekgaaSrcF
namespace Go.Proofs.Yteljmhgpffekgaa
open Go.RowKit
set_option linter.unusedVariables false

theorem gr_new {w wr w2 : World} {B : Nat} {row : Option Nat} (h : w.grownBy wr (some B)) (hg : wr.grownBy w2 row) (hr : ∀ k, row = some k → w.heap.size ≤ k) : w.grownBy w2 (some B) :=
  ⟨hg.os.trans h.os, hg.tape.trans h.tape, hg.output.trans h.output, Nat.le_trans h.size hg.size,
    fun i hi hne => (hg.block i (Nat.lt_of_lt_of_le hi h.size) (fun e => by have := hr i e.symm; omega)).trans (h.block i hi hne)⟩
theorem src_kept {B : Nat} {w w' : World} {v : Value} {l : List Int} {m : Int} {row : Option Nat} (h : Src B w v l m) (hg : w.grownBy w' row) (hB : row ≠ some B) (hv : l ≠ [] → v.ownBlock ≠ row) : Src B w' v l m := by
  have hlt := src_lt h
  have hb := hg.block B hlt (fun e => hB e.symm)
  obtain ⟨a, s, k1, k2, k3, k4, k5, k6⟩ := h.cells
  have e : ∀ i, w'.cell? ⟨B, i, none⟩ = w.cell? ⟨B, i, none⟩ := fun i => World.cell?_of_block (a := ⟨B, i, none⟩) hb
  have f : ∀ i, w'.frozen? ⟨B, i, none⟩ = w.frozen? ⟨B, i, none⟩ := fun i => World.frozen?_of_block (a := ⟨B, i, none⟩) hb
  refine ⟨?_, h.ne, h.bts, (e 0).trans h.code, ⟨a, s, k1, k2, k3, k4, (e 1).trans k5, (e 2).trans k6⟩, (f 1).trans h.free1, (f 2).trans h.free2⟩
  obtain ⟨a', cap, rfl, hl, hc⟩ := h.rd
  refine ⟨a', cap, rfl, hl, fun hne => ?_⟩
  obtain ⟨b, off, rfl, hcell⟩ := hc hne
  have hb' : some b ≠ row := fun e => hv hne (by rw [← e]; rfl)
  exact ⟨b, off, rfl, fun i hi => (World.cell?_of_block (a := ⟨b, off + i, none⟩) (hg.block b (World.block_lt_of_cell? w _ (hcell i hi)) hb')).trans (hcell i hi)⟩

theorem Try.infoFloat : (Try.prog.info? 29).map (fun i => (i.zero, i.size, i.bytes)) = some (some (.float .f64 0), 1, 8) := by kernel_rfl

theorem src_push {B n : Nat} {w0 w3 w4 : World} {v ov : Value} {l : List Int} {m : Int} {o : Obj} {e : TypeId} {xs : List Value} (hs : Src B w3 v l m) (ho : w3.ownsRow w0.heap.size e 1 ov n xs) (hg : (w3.alloc o).grownBy w4 ov.ownBlock) (hB : B < w0.heap.size)
    (hv : l ≠ [] → ∀ k, v.ownBlock = some k → k < w0.heap.size) : Src B w4 v l m :=
  src_kept (src_alloc (src_refl hs) o).1 hg (fun e => by have := (ho.lt B e).1; omega) fun hne e => by
    obtain ⟨a, cap, rfl, _, hc⟩ := hs.rd
    obtain ⟨b, off, rfl, _⟩ := hc hne
    have h1 := hv hne b rfl
    have h2 := (ho.lt b e.symm).1
    omega
def quo8 (k : Nat) : Bool :=
  match FloatKind.f64.format.div (floatOfInt .f64 ((k : Int) - 100)) 4620693217682128896 with
  | some r => decide (r < 18446744073709551616)
  | none => false
theorem quo8_all : ∀ k, k < 900 → quo8 k = true := by decide +kernel
theorem quo8_some (k : Nat) (h : k < 900) : ∃ r, FloatKind.f64.format.div (floatOfInt .f64 ((k : Int) - 100)) 4620693217682128896 = some r ∧ r < 18446744073709551616 := by
  have := quo8_all k h
  unfold quo8 at this
  split at this
  · exact ⟨_, by assumption, by simpa using this⟩
  · cases this

set_option maxRecDepth 100000 in
set_option maxHeartbeats 800000 in
theorem floats_drawn (B : Nat) (v : Value) (l : List Int) (m : Int) (w : World) (h : Src B w v l m) (hm : m ≤ 800000000) (hvl : l ≠ [] → ∀ k, v.ownBlock = some k → k < w.heap.size) :
    Calls Try.prog 31 #[.pointer (some ⟨B, 0, none⟩)] w fun e w' => ∃ (o : Value) (xs : List Nat), e = .returned o ∧ (∀ x ∈ xs, x < 18446744073709551616) ∧ xs.length ≤ 10 ∧ w'.ownsRow w.heap.size 29 1 o xs.length (xs.map (Value.float .f64)) ∧ w.grownBy w' (some B) := by
  obtain ⟨i0, hi, hz0, hz1, hz2⟩ := info_parts Try.infoFloat
  have HS := hide h
  have HV := hide hvl
  have hB := src_lt h
  clear h hvl
  go_enter Try.func31, Try.ntmps31
  go_wp2_with fail
  refine (size_any B v l m 10 _ (src_alloc (src_refl (unhide HS)) _).1 (by omega) (by omega)).mono ?_
  rintro e w1 ⟨y, rfl, hy0, hy1, rfl⟩
  go_wp2_with fail
  refine (next_any B v l m (y + 1) _ (src_alloc (src_refl (unhide HS)) _).1 (by omega) (by omega) (by omega)).mono ?_
  rintro e w1 ⟨j0, rfl, hj0, hj1, hE⟩
  have HE := hide (show SrcEnd B w v l (m + 3) w1 from ⟨hE.1, gr_trans (gr_alloc w _ _) hE.2⟩)
  have HO := hide ((World.ownsRow_made (base := w.heap.size) (e := 29) (size := 1) w #[] 0 (Nat.le_refl _) (by decide) rfl).kept hE.2 (.inr (by simp [Value.ownBlock]; omega)))
  clear hE
  go_wp2_with fail
  go_loopw [3, 4] (fun ov iv wr => ∃ (xs : List Nat) (j : Nat), iv = .int .i64 j ∧ xs.length + j ≤ 10 ∧ (∀ x ∈ xs, x < 18446744073709551616) ∧ wr.ownsRow w.heap.size 29 1 ov xs.length (xs.map (Value.float .f64)) ∧ Src B wr v l (m + 3 + 6 * xs.length) ∧ w.grownBy wr (some B)) (fun _ iv _ => (intOf iv).toNat)
  case atStart =>
    obtain ⟨j, rfl⟩ := Int.eq_ofNat_of_zero_le hj0
    exact ⟨[], j, rfl, by simp; omega, by simp, unhide HO, by simpa using (unhide HE).1, (unhide HE).2⟩
  case round =>
    obtain ⟨xs, j, rfl, hlen, hxs, hown, hsrc, hgr⟩ := hrel
    have HX := hide hxs
    have HOW := hide hown
    have HSR := hide hsrc
    have HGR := hide hgr
    have hne : Hid (∀ k, k < w.heap.size → u3.ownBlock ≠ some k) := fun k hk e => by have := (hown.lt k e).1; omega
    clear hxs hown hsrc hgr HE HO
    by_cases hj : j = 0
    · subst hj
      go_wp2_with fail
      go_ret
      exact ⟨_, xs, rfl, unhide HX, by omega, unhide HOW, unhide HGR⟩
    have hj' : (0 : Int) < j := by omega
    clear hj
    go_wp2_with fail
    refine (chance_any B v l _ 3 _ (unhide HSR) (by omega) (by omega) (by omega)).mono ?_
    rintro e w2 ⟨b, rfl, hE2⟩
    have HE2 := hide hE2
    have HO2 := hide ((unhide HOW).kept hE2.2 (.inr (unhide hne B hB)))
    clear hE2
    cases b
    · go_wp2_with fail
      refine (next_any B v l _ 900 _ (unhide HE2).1 (by omega) (by omega) (by omega)).mono ?_
      rintro e w3 ⟨y, rfl, hy0, hy1, hE3⟩
      have HE3 := hide hE3
      have HO3 := hide ((unhide HO2).kept hE3.2 (.inr (unhide hne B hB)))
      clear hE3
      obtain ⟨k, rfl⟩ := Int.eq_ofNat_of_zero_le hy0
      obtain ⟨r, hr, hy⟩ := quo8_some k (by omega)
      have hq : ∀ W, (binOp .quo 29 (.float .f64 (floatOfInt .f64 ((k : Int) - 100))) (.float .f64 4620693217682128896)).run Try.prog W = .ok (.float .f64 r) W := fun W => by simp [binOp, Op.floatArith, hr]
      clear hr
      have hs3 : w.heap.size ≤ w3.heap.size := Nat.le_trans (unhide HGR).size (Nat.le_trans (unhide HE2).2.size (unhide HE3).2.size)
      go_wp2_with (at_builtin; go_must (refine wpList_append_own _ rfl _ _ 23 rfl w.heap.size 29 i0 (.float .f64 0) 1 8 Try.underlying23 hi hz0 hz1 hz2 rfl (by decide) _ _ _ rfl ((unhide HO3).alloc _) ⟨w3.heap.size, 0, none⟩ 1 1 [.float .f64 r] rfl rfl (cell_one_new _ _ _) (by simp [Value.oneCell']) (by unfold maxLen; omega) (by omega) (by simp; omega) ?_); intro v4 w4 hown4 hg4 _)
      go_roundw
      case rel =>
        refine ⟨xs ++ [r], j - 1, by go_num, by simp; omega, ?_, by simpa using hown4, ?_, ?_⟩
        · intro x hx
          rcases List.mem_append.1 hx with hx | hx
          · exact unhide HX x hx
          · rw [List.mem_singleton.1 hx]; exact hy
        · refine src_more (src_push (unhide HE3).1 (unhide HO3) hg4 hB (unhide HV)) ?_
          simp; omega
        · exact gr_new (gr_trans (gr_trans (gr_trans (unhide HGR) (unhide HE2).2) (unhide HE3).2) (gr_alloc w3 _ _)) hg4 (fun k hk => ((unhide HO3).lt k hk).1)
      case measure => simp [intOf]; omega
    · go_wp2_with fail
      refine (float_drawn B v l _ _ (unhide HE2).1 (by omega)).mono ?_
      rintro e w3 ⟨y, rfl, hy, hE3⟩
      have HE3 := hide hE3
      have HO3 := hide ((unhide HO2).kept hE3.2 (.inr (unhide hne B hB)))
      clear hE3
      have hs3 : w.heap.size ≤ w3.heap.size := Nat.le_trans (unhide HGR).size (Nat.le_trans (unhide HE2).2.size (unhide HE3).2.size)
      go_wp2_with (at_builtin; go_must (refine wpList_append_own _ rfl _ _ 23 rfl w.heap.size 29 i0 (.float .f64 0) 1 8 Try.underlying23 hi hz0 hz1 hz2 rfl (by decide) _ _ _ rfl ((unhide HO3).alloc _) ⟨w3.heap.size, 0, none⟩ 1 1 [.float .f64 y] rfl rfl (cell_one_new _ _ _) (by simp [Value.oneCell']) (by unfold maxLen; omega) (by omega) (by simp; omega) ?_); intro v4 w4 hown4 hg4 _)
      go_roundw
      case rel =>
        refine ⟨xs ++ [y], j - 1, by go_num, by simp; omega, ?_, by simpa using hown4, ?_, ?_⟩
        · intro x hx
          rcases List.mem_append.1 hx with hx | hx
          · exact unhide HX x hx
          · rw [List.mem_singleton.1 hx]; exact hy
        · refine src_more (src_push (unhide HE3).1 (unhide HO3) hg4 hB (unhide HV)) ?_
          simp; omega
        · exact gr_new (gr_trans (gr_trans (gr_trans (unhide HGR) (unhide HE2).2) (unhide HE3).2) (gr_alloc w3 _ _)) hg4 (fun k hk => ((unhide HO3).lt k hk).1)
      case measure => simp [intOf]; omega
end Go.Proofs.Yteljmhgpffekgaa
