/-
  The kinds of a row of floats, by the model: walked.
-/
import Derived.Test.YteljmhgpffekgaaKindI
import Derived.Test.YteljmhgpffekgaaSpEC
import Derived.Test.YteljmhgpffekgaaBitS
namespace Go.Proofs.Yteljmhgpffekgaa
open Go.RowKit
set_option linter.unusedVariables false

/-- The word that is drawn for a float less itself, where that is no number. -/
def nsub (x : Nat) (W : World) : Nat := (Question.nanBits .f64 x x).cut (W.tape W.drawn (.nanBits .f64 x x))
theorem nsub_run (x : Nat) (h : FloatKind.f64.format.sub x x = none) (W : World) : (binOp .sub 29 (.float .f64 x) (.float .f64 x)).run Try.prog W = .ok (.float .f64 (nsub x W)) W.drew := by
  simp [binOp, Op.floatArith, h, nsub, choose]
  rfl
theorem nsub_nan (x : Nat) (W : World) : (FloatKind.f64.format.order (nsub x W) 0 != some Ordering.eq) = true := by
  have hn : nanB (nsub x W) = true := nan_drawn _
  have h := (nan_iff _).1 hn
  have e : FloatKind.f64.format.order (nsub x W) 0 = none := by
    show (Ieee.double.read (nsub x W)).order (Ieee.double.read 0) = none
    cases hx : Ieee.double.read (nsub x W) with
    | nan s f => rfl
    | infinity s => rw [hx] at h; simp [Ieee.Datum.isNaN] at h
    | number s m i => rw [hx] at h; simp [Ieee.Datum.isNaN] at h
  rw [e]; rfl
theorem zsub_run (x : Nat) (h : FloatKind.f64.format.sub x x = some 0) (W : World) : (binOp .sub 29 (.float .f64 x) (.float .f64 x)).run Try.prog W = .ok (.float .f64 0) W := by
  simp [binOp, Op.floatArith, h]

set_option maxRecDepth 100000 in
set_option maxHeartbeats 2000000 in
theorem specKinds_any (v : Value) (l : List Nat) (w : World) (hr : RdF w v l) (hf : Fls l) (hl : l.length ≤ 4096) :
    Calls Try.prog 11 #[v] w fun e w' => e = .returned (.tuple #[.agg #[.int .i64 (kindsL l).a, .int .i64 (kindsL l).b, .int .i64 (kindsL l).c, .int .i64 (kindsL l).d, .int .i64 (kindsL l).e, .int .i64 (kindsL l).f, .int .i64 (kindsL l).g], .int .i64 0]) ∧ Below w.heap.size w w' := by
  obtain ⟨a, cap, rfl, _, hc⟩ := hr
  have hcell : ∀ k, k < l.length → ∃ b off, a = some ⟨b, off, none⟩ ∧ b < w.heap.size ∧ w.cell? ⟨b, off + k, none⟩ = some (.float .f64 (l.getD k 0)) := by
    intro k hk
    obtain ⟨b, off, h1, h2⟩ := hc (by intro h; rw [h] at hk; simp at hk)
    exact ⟨b, off, h1, World.block_lt_of_cell? w _ (h2 k hk), h2 k hk⟩
  have HC := hide hcell
  have HF := hide hf
  clear hc hf hcell
  have hl' : (l.length : Int) ≤ 4096 := by omega
  have HM := hide (bx2_made w [.int .i64 0, .int .i64 0, .int .i64 0, .int .i64 0, .int .i64 0, .int .i64 0, .int .i64 0] (kindsL (l.take 0)).vs 26 26)
  go_enter Try.func11, Try.ntmps11
  go_wp2_with fail
  go_loopw [5] (fun iv wr => ∃ (k : Nat), k ≤ l.length ∧ iv = .int .i64 k ∧ Hid (Bx2 w wr [.int .i64 0, .int .i64 0, .int .i64 0, .int .i64 0, .int .i64 0, .int .i64 0, .int .i64 0] (kindsL (l.take k)).vs)) (fun iv _ => l.length - (intOf iv).toNat)
  case atStart => exact ⟨0, Nat.zero_le _, rfl, unhide HM⟩
  case round =>
    obtain ⟨k, hk, rfl, hB⟩ := hrel
    have HB := hide (unhide hB)
    clear hB
    by_cases hlt : k < l.length
    · obtain ⟨b, off, rfl, hb, hcl⟩ := unhide HC k hlt
      have h1 := ((unhide HB).b.cell (p := ⟨b, off + k, none⟩) hb).trans hcl
      have hlt' : (k : Int) < l.length := by omega
      have hx := fls_get (unhide HF) k
      have hok := knOk_take l k hk
      have hs := kindsL_snoc (l.take k) (l.getD k 0)
      rw [← takeF_get l k hlt] at hs
      generalize l.getD k 0 = x at h1 hx hs hcl
      generalize kindsL (l.take k) = T at hok hs HB
      have HS := hide hs
      clear hs hcl hb
      have HTK := hide (fun W => l01Ticks_any x W)
      have HBT := hide (fun W => bitsS_any x W)
      have hK := kind_cases x hx
      have z00 : (FloatKind.f64.format.order 0 0 != some Ordering.eq) = false := by decide
      rcases hK with ⟨hk, hn⟩ | ⟨hk, hq⟩ | ⟨hk, hq⟩ | ⟨hk, hq⟩ | ⟨hk, hq⟩ | ⟨⟨hk, ht⟩ | ⟨hk, ht⟩, hn, n1, n2, n3, n4⟩
      · have HN : Hid (kindsL (l.take (k + 1)) = bumpK T 0) := (unhide HS).trans (by rw [hk])
        have HB2 : Hid (Bx2 w (wr.setCell ⟨w.heap.size + 1, 0, none⟩ (.int .i64 (T.a + 1))) [.int .i64 0, .int .i64 0, .int .i64 0, .int .i64 0, .int .i64 0, .int .i64 0, .int .i64 0] (bumpK T 0).vs) := bx2_set (j := 0) (u := .int .i64 (T.a + 1)) (unhide HB) (by simp [Kn.vs])
        have cc : wr.cell? ⟨w.heap.size + 1, 0, none⟩ = some (.int .i64 T.a) := bx_cell (unhide HB).k 0 rfl
        have cf : wr.frozen? ⟨w.heap.size + 1, 0, none⟩ = false := bx_free (unhide HB).k 0 (by simp [Kn.vs])
        have o1 := hok.a.1
        have o2 := hok.a.2
        have h' : (FloatKind.f64.format.order x x != some Ordering.eq) = true := hn
        clear hok hx hk HS hn
        go_wp2_with fail
        refine (unhide HTK _).mono ?_
        rintro e V ⟨rfl, rfl⟩
        go_wp2_with fail
        go_roundw
        case rel => exact ⟨k + 1, by omega, by go_num, by rw [unhide HN]; exact unhide HB2⟩
        case measure => simp [intOf]; omega
      · have HN : Hid (kindsL (l.take (k + 1)) = bumpK T 1) := (unhide HS).trans (by rw [hk])
        have HB2 : Hid (Bx2 w (wr.drew.setCell ⟨w.heap.size + 1, 1, none⟩ (.int .i64 (T.b + 1))) [.int .i64 0, .int .i64 0, .int .i64 0, .int .i64 0, .int .i64 0, .int .i64 0, .int .i64 0] (bumpK T 1).vs) := bx2_set (j := 1) (u := .int .i64 (T.b + 1)) (bx2_drew (unhide HB)) (by simp [Kn.vs])
        have cc : wr.cell? ⟨w.heap.size + 1, 1, none⟩ = some (.int .i64 T.b) := bx_cell (unhide HB).k 1 rfl
        have cf : wr.frozen? ⟨w.heap.size + 1, 1, none⟩ = false := bx_free (unhide HB).k 1 (by simp [Kn.vs])
        have o1 := hok.b.1
        have o2 := hok.b.2
        have h' : (FloatKind.f64.format.order x x != some Ordering.eq) = false := by rw [hq]; decide
        have hg : (FloatKind.f64.format.order x 0 == some Ordering.gt) = true := by rw [hq]; decide
        have hs := nsub_run x (by rw [hq]; exact sub_inf _ (by decide))
        have hnn := nsub_nan x
        clear hok hx hk HS hq
        go_wp2_with fail
        refine (unhide HTK _).mono ?_
        rintro e V ⟨rfl, rfl⟩
        go_wp2_with fail
        go_roundw
        case rel => exact ⟨k + 1, by omega, by go_num, by rw [unhide HN]; exact unhide HB2⟩
        case measure => simp [intOf]; omega
      · have HN : Hid (kindsL (l.take (k + 1)) = bumpK T 2) := (unhide HS).trans (by rw [hk])
        have HB2 : Hid (Bx2 w (wr.drew.drew.setCell ⟨w.heap.size + 1, 2, none⟩ (.int .i64 (T.c + 1))) [.int .i64 0, .int .i64 0, .int .i64 0, .int .i64 0, .int .i64 0, .int .i64 0, .int .i64 0] (bumpK T 2).vs) := bx2_set (j := 2) (u := .int .i64 (T.c + 1)) (bx2_drew (bx2_drew (unhide HB))) (by simp [Kn.vs])
        have cc : wr.cell? ⟨w.heap.size + 1, 2, none⟩ = some (.int .i64 T.c) := bx_cell (unhide HB).k 2 rfl
        have cf : wr.frozen? ⟨w.heap.size + 1, 2, none⟩ = false := bx_free (unhide HB).k 2 (by simp [Kn.vs])
        have o1 := hok.c.1
        have o2 := hok.c.2
        have h' : (FloatKind.f64.format.order x x != some Ordering.eq) = false := by rw [hq]; decide
        have hg : (FloatKind.f64.format.order x 0 == some Ordering.gt) = false := by rw [hq]; decide
        have hs := nsub_run x (by rw [hq]; exact sub_inf _ (by decide))
        have hnn := nsub_nan x
        clear hok hx hk HS hq
        go_wp2_with fail
        refine (unhide HTK _).mono ?_
        rintro e V ⟨rfl, rfl⟩
        go_wp2_with fail
        go_roundw
        case rel => exact ⟨k + 1, by omega, by go_num, by rw [unhide HN]; exact unhide HB2⟩
        case measure => simp [intOf]; omega
      · have HN : Hid (kindsL (l.take (k + 1)) = bumpK T 3) := (unhide HS).trans (by rw [hk])
        have HB2 : Hid (Bx2 w (wr.setCell ⟨w.heap.size + 1, 3, none⟩ (.int .i64 (T.d + 1))) [.int .i64 0, .int .i64 0, .int .i64 0, .int .i64 0, .int .i64 0, .int .i64 0, .int .i64 0] (bumpK T 3).vs) := bx2_set (j := 3) (u := .int .i64 (T.d + 1)) (unhide HB) (by simp [Kn.vs])
        have cc : wr.cell? ⟨w.heap.size + 1, 3, none⟩ = some (.int .i64 T.d) := bx_cell (unhide HB).k 3 rfl
        have cf : wr.frozen? ⟨w.heap.size + 1, 3, none⟩ = false := bx_free (unhide HB).k 3 (by simp [Kn.vs])
        have o1 := hok.d.1
        have o2 := hok.d.2
        have h' : (FloatKind.f64.format.order x x != some Ordering.eq) = false := by rw [hq]; decide
        have hg : (FloatKind.f64.format.order x 0 == some Ordering.eq) = true := by rw [hq]; decide
        have hs := zsub_run x (by rw [hq]; exact sub_self _ (by decide))
        rw [show fbit x = 0 by rw [hq]; exact fbit_num (by decide)] at HBT
        clear hok hx hk HS hq
        go_wp2_with fail
        refine (unhide HTK _).mono ?_
        rintro e V ⟨rfl, rfl⟩
        go_wp2_with fail
        refine (unhide HBT _).mono ?_
        rintro e V ⟨rfl, rfl⟩
        go_wp2_with fail
        go_roundw
        case rel => exact ⟨k + 1, by omega, by go_num, by rw [unhide HN]; exact unhide HB2⟩
        case measure => simp [intOf]; omega
      · have HN : Hid (kindsL (l.take (k + 1)) = bumpK T 4) := (unhide HS).trans (by rw [hk])
        have HB2 : Hid (Bx2 w (wr.setCell ⟨w.heap.size + 1, 4, none⟩ (.int .i64 (T.e + 1))) [.int .i64 0, .int .i64 0, .int .i64 0, .int .i64 0, .int .i64 0, .int .i64 0, .int .i64 0] (bumpK T 4).vs) := bx2_set (j := 4) (u := .int .i64 (T.e + 1)) (unhide HB) (by simp [Kn.vs])
        have cc : wr.cell? ⟨w.heap.size + 1, 4, none⟩ = some (.int .i64 T.e) := bx_cell (unhide HB).k 4 rfl
        have cf : wr.frozen? ⟨w.heap.size + 1, 4, none⟩ = false := bx_free (unhide HB).k 4 (by simp [Kn.vs])
        have o1 := hok.e.1
        have o2 := hok.e.2
        have h' : (FloatKind.f64.format.order x x != some Ordering.eq) = false := by rw [hq]; decide
        have hg : (FloatKind.f64.format.order x 0 == some Ordering.eq) = true := by rw [hq]; decide
        have hs := zsub_run x (by rw [hq]; exact sub_self _ (by decide))
        rw [show fbit x = 9223372036854775808 by rw [hq]; exact fbit_num (by decide)] at HBT
        clear hok hx hk HS hq
        go_wp2_with fail
        refine (unhide HTK _).mono ?_
        rintro e V ⟨rfl, rfl⟩
        go_wp2_with fail
        refine (unhide HBT _).mono ?_
        rintro e V ⟨rfl, rfl⟩
        go_wp2_with fail
        go_roundw
        case rel => exact ⟨k + 1, by omega, by go_num, by rw [unhide HN]; exact unhide HB2⟩
        case measure => simp [intOf]; omega
      · have HN : Hid (kindsL (l.take (k + 1)) = bumpK T 5) := (unhide HS).trans (by rw [hk])
        have HB2 : Hid (Bx2 w (wr.setCell ⟨w.heap.size + 1, 5, none⟩ (.int .i64 (T.f + 1))) [.int .i64 0, .int .i64 0, .int .i64 0, .int .i64 0, .int .i64 0, .int .i64 0, .int .i64 0] (bumpK T 5).vs) := bx2_set (j := 5) (u := .int .i64 (T.f + 1)) (unhide HB) (by simp [Kn.vs])
        have cc : wr.cell? ⟨w.heap.size + 1, 5, none⟩ = some (.int .i64 T.f) := bx_cell (unhide HB).k 5 rfl
        have cf : wr.frozen? ⟨w.heap.size + 1, 5, none⟩ = false := bx_free (unhide HB).k 5 (by simp [Kn.vs])
        have o1 := hok.f.1
        have o2 := hok.f.2
        have h' : (FloatKind.f64.format.order x x != some Ordering.eq) = false := hn
        have hg := plain_zero hx hn n3 n4
        have hs := zsub_run x (plain_sub hx hn n1 n2)
        rw [ht] at HTK
        clear hok hx hk HS hn n1 n2 n3 n4 ht
        go_wp2_with fail
        refine (unhide HTK _).mono ?_
        rintro e V ⟨rfl, rfl⟩
        go_wp2_with fail
        go_roundw
        case rel => exact ⟨k + 1, by omega, by go_num, by rw [unhide HN]; exact unhide HB2⟩
        case measure => simp [intOf]; omega
      · have HN : Hid (kindsL (l.take (k + 1)) = bumpK T 6) := (unhide HS).trans (by rw [hk])
        have HB2 : Hid (Bx2 w (wr.setCell ⟨w.heap.size + 1, 6, none⟩ (.int .i64 (T.g + 1))) [.int .i64 0, .int .i64 0, .int .i64 0, .int .i64 0, .int .i64 0, .int .i64 0, .int .i64 0] (bumpK T 6).vs) := bx2_set (j := 6) (u := .int .i64 (T.g + 1)) (unhide HB) (by simp [Kn.vs])
        have cc : wr.cell? ⟨w.heap.size + 1, 6, none⟩ = some (.int .i64 T.g) := bx_cell (unhide HB).k 6 rfl
        have cf : wr.frozen? ⟨w.heap.size + 1, 6, none⟩ = false := bx_free (unhide HB).k 6 (by simp [Kn.vs])
        have o1 := hok.g.1
        have o2 := hok.g.2
        have h' : (FloatKind.f64.format.order x x != some Ordering.eq) = false := hn
        have hg := plain_zero hx hn n3 n4
        have hs := zsub_run x (plain_sub hx hn n1 n2)
        rw [ht] at HTK
        clear hok hx hk HS hn n1 n2 n3 n4 ht
        go_wp2_with fail
        refine (unhide HTK _).mono ?_
        rintro e V ⟨rfl, rfl⟩
        go_wp2_with fail
        go_roundw
        case rel => exact ⟨k + 1, by omega, by go_num, by rw [unhide HN]; exact unhide HB2⟩
        case measure => simp [intOf]; omega
    · rw [List.take_of_length_le (by omega)] at HB
      obtain ⟨T, hTe⟩ : ∃ T, T = kindsL l := ⟨_, rfl⟩
      rw [← hTe] at HB
      have HT := hide hTe
      clear hTe
      have c0 : wr.cell? ⟨w.heap.size + 1, 0, none⟩ = some (.int .i64 T.a) := bx_cell (unhide HB).k 0 rfl
      have c1 : wr.cell? ⟨w.heap.size + 1, 1, none⟩ = some (.int .i64 T.b) := bx_cell (unhide HB).k 1 rfl
      have c2 : wr.cell? ⟨w.heap.size + 1, 2, none⟩ = some (.int .i64 T.c) := bx_cell (unhide HB).k 2 rfl
      have c3 : wr.cell? ⟨w.heap.size + 1, 3, none⟩ = some (.int .i64 T.d) := bx_cell (unhide HB).k 3 rfl
      have c4 : wr.cell? ⟨w.heap.size + 1, 4, none⟩ = some (.int .i64 T.e) := bx_cell (unhide HB).k 4 rfl
      have c5 : wr.cell? ⟨w.heap.size + 1, 5, none⟩ = some (.int .i64 T.f) := bx_cell (unhide HB).k 5 rfl
      have c6 : wr.cell? ⟨w.heap.size + 1, 6, none⟩ = some (.int .i64 T.g) := bx_cell (unhide HB).k 6 rfl
      have y0 : wr.cell? ⟨w.heap.size, 0, none⟩ = some (.int .i64 0) := bx_cell (unhide HB).o 0 rfl
      have q0 : wr.frozen? ⟨w.heap.size, 0, none⟩ = false := bx_free (unhide HB).o 0 (by decide)
      have y1 : wr.cell? ⟨w.heap.size, 1, none⟩ = some (.int .i64 0) := bx_cell (unhide HB).o 1 rfl
      have q1 : wr.frozen? ⟨w.heap.size, 1, none⟩ = false := bx_free (unhide HB).o 1 (by decide)
      have y2 : wr.cell? ⟨w.heap.size, 2, none⟩ = some (.int .i64 0) := bx_cell (unhide HB).o 2 rfl
      have q2 : wr.frozen? ⟨w.heap.size, 2, none⟩ = false := bx_free (unhide HB).o 2 (by decide)
      have y3 : wr.cell? ⟨w.heap.size, 3, none⟩ = some (.int .i64 0) := bx_cell (unhide HB).o 3 rfl
      have q3 : wr.frozen? ⟨w.heap.size, 3, none⟩ = false := bx_free (unhide HB).o 3 (by decide)
      have y4 : wr.cell? ⟨w.heap.size, 4, none⟩ = some (.int .i64 0) := bx_cell (unhide HB).o 4 rfl
      have q4 : wr.frozen? ⟨w.heap.size, 4, none⟩ = false := bx_free (unhide HB).o 4 (by decide)
      have y5 : wr.cell? ⟨w.heap.size, 5, none⟩ = some (.int .i64 0) := bx_cell (unhide HB).o 5 rfl
      have q5 : wr.frozen? ⟨w.heap.size, 5, none⟩ = false := bx_free (unhide HB).o 5 (by decide)
      have y6 : wr.cell? ⟨w.heap.size, 6, none⟩ = some (.int .i64 0) := bx_cell (unhide HB).o 6 rfl
      have q6 : wr.frozen? ⟨w.heap.size, 6, none⟩ = false := bx_free (unhide HB).o 6 (by decide)
      have HR8 := hide (bx_setCells (us := [.int .i64 T.a, .int .i64 T.b, .int .i64 T.c, .int .i64 T.d, .int .i64 T.e, .int .i64 T.f, .int .i64 T.g]) (unhide HB).o rfl)
      have HB8 := hide (below_setCells w.heap.size (Nat.le_refl _) [.int .i64 T.a, .int .i64 T.b, .int .i64 T.c, .int .i64 T.d, .int .i64 T.e, .int .i64 T.f, .int .i64 T.g] 0 wr (unhide HB).b)
      go_wp2_with fail
      change bodyPost _ _ _ _ _ (wr.setCells w.heap.size 0 [.int .i64 T.a, .int .i64 T.b, .int .i64 T.c, .int .i64 T.d, .int .i64 T.e, .int .i64 T.f, .int .i64 T.g])
      generalize wr.setCells w.heap.size 0 [.int .i64 T.a, .int .i64 T.b, .int .i64 T.c, .int .i64 T.d, .int .i64 T.e, .int .i64 T.f, .int .i64 T.g] = WE at HR8 HB8 ⊢
      have d0 : WE.cell? ⟨w.heap.size, 0, none⟩ = some (.int .i64 T.a) := bx_cell (unhide HR8) 0 rfl
      have d1 : WE.cell? ⟨w.heap.size, 1, none⟩ = some (.int .i64 T.b) := bx_cell (unhide HR8) 1 rfl
      have d2 : WE.cell? ⟨w.heap.size, 2, none⟩ = some (.int .i64 T.c) := bx_cell (unhide HR8) 2 rfl
      have d3 : WE.cell? ⟨w.heap.size, 3, none⟩ = some (.int .i64 T.d) := bx_cell (unhide HR8) 3 rfl
      have d4 : WE.cell? ⟨w.heap.size, 4, none⟩ = some (.int .i64 T.e) := bx_cell (unhide HR8) 4 rfl
      have d5 : WE.cell? ⟨w.heap.size, 5, none⟩ = some (.int .i64 T.f) := bx_cell (unhide HR8) 5 rfl
      have d6 : WE.cell? ⟨w.heap.size, 6, none⟩ = some (.int .i64 T.g) := bx_cell (unhide HR8) 6 rfl
      refine bodyPost_ret (by simp [results, Try.results11, go_sem, d0, d1, d2, d3, d4, d5, d6]; try rfl) rfl ?_
      exact ⟨by rw [unhide HT], unhide HB8⟩

set_option maxRecDepth 100000 in
theorem implKinds_long (v : Value) (l : List Nat) (w : World) (hr : RdF w v l) (hl : 4096 < l.length) :
    Calls Try.prog 10 #[v] w fun e w' => e = .returned (.tuple #[.agg #[.int .i64 0, .int .i64 0, .int .i64 0, .int .i64 0, .int .i64 0, .int .i64 0, .int .i64 0], .int .i64 2]) ∧ Below w.heap.size w w' := by
  obtain ⟨a, cap, rfl, _, hc⟩ := hr
  clear hc
  have hl' : (4096 : Int) < l.length := by omega
  go_enter Try.func10, Try.ntmps10
  go_wp2_with fail
  go_returns
  exact ⟨rfl, by go_grown⟩

set_option maxRecDepth 100000 in
theorem specKinds_long (v : Value) (l : List Nat) (w : World) (hr : RdF w v l) (hl : 4096 < l.length) :
    Calls Try.prog 11 #[v] w fun e w' => e = .returned (.tuple #[.agg #[.int .i64 0, .int .i64 0, .int .i64 0, .int .i64 0, .int .i64 0, .int .i64 0, .int .i64 0], .int .i64 2]) ∧ Below w.heap.size w w' := by
  obtain ⟨a, cap, rfl, _, hc⟩ := hr
  clear hc
  have hl' : (4096 : Int) < l.length := by omega
  go_enter Try.func11, Try.ntmps11
  go_wp2_with fail
  go_returns
  exact ⟨rfl, by go_grown⟩
end Go.Proofs.Yteljmhgpffekgaa
