/-
  A float counted by its kind, and the kinds of a row of floats, by the program: both functions walked.
-/
import Derived.Test.YteljmhgpffekgaaKindP
import Derived.Test.YteljmhgpffekgaaBoxB
namespace Go.Proofs.Yteljmhgpffekgaa
open Go.RowKit
set_option linter.unusedVariables false

theorem fbit_nan {x : Nat} (h : nanB x = true) : fbit x = 9221120237041090560 := if_pos h
theorem fbit_num {x : Nat} (h : nanB x = false) : fbit x = x := if_neg (by rw [h]; decide)

set_option maxRecDepth 100000 in
set_option maxHeartbeats 2000000 in
theorem withFloat_any (T : Kn) (x : Nat) (w : World) (hx : x < 18446744073709551616) (hT : KnOk T 4096) :
    Calls Try.prog 32 #[.agg #[.int .i64 T.a, .int .i64 T.b, .int .i64 T.c, .int .i64 T.d, .int .i64 T.e, .int .i64 T.f, .int .i64 T.g], .float .f64 x] w fun e w' => e = .returned (.agg #[.int .i64 (bumpK T (kindF x)).a, .int .i64 (bumpK T (kindF x)).b, .int .i64 (bumpK T (kindF x)).c, .int .i64 (bumpK T (kindF x)).d, .int .i64 (bumpK T (kindF x)).e, .int .i64 (bumpK T (kindF x)).f, .int .i64 (bumpK T (kindF x)).g]) ∧ Below w.heap.size w w' := by
  have hF := floatBits_any x
  have hK := kind_cases x hx
  obtain ⟨a, b, c, d, e, f, g⟩ := T
  obtain ⟨⟨a0, a1⟩, ⟨b0, b1⟩, ⟨c0, c1⟩, ⟨d0, d1⟩, ⟨e0, e1⟩, ⟨f0, f1⟩, ⟨g0, g1⟩⟩ := hT
  simp only at a0 a1 b0 b1 c0 c1 d0 d1 e0 e1 f0 f1 g0 g1 ⊢
  rcases hK with ⟨hk, hn⟩ | ⟨hk, hq⟩ | ⟨hk, hq⟩ | ⟨hk, hq⟩ | ⟨hk, hq⟩ | ⟨⟨hk, ht⟩ | ⟨hk, ht⟩, hn, n1, n2, n3, n4⟩
  · have HK : Hid (bumpK ⟨a, b, c, d, e, f, g⟩ (kindF x) = ⟨a + 1, b, c, d, e, f, g⟩) := by
      have : bumpK ⟨a, b, c, d, e, f, g⟩ (kindF x) = ⟨a + 1, b, c, d, e, f, g⟩ := by rw [hk]; rfl
      exact this
    rw [fbit_nan hn] at hF
    have HF := hide hF
    generalize bumpK ⟨a, b, c, d, e, f, g⟩ (kindF x) = M at HK ⊢
    clear hF hk
    go_enter Try.func32, Try.ntmps32
    go_wp2_with fail
    refine (unhide HF _).mono ?_
    rintro e w' ⟨rfl, rfl⟩
    go_wp2_with fail
    go_returns
    exact ⟨by rw [unhide HK], by go_grown⟩
  · have HK : Hid (bumpK ⟨a, b, c, d, e, f, g⟩ (kindF x) = ⟨a, b + 1, c, d, e, f, g⟩) := by
      have : bumpK ⟨a, b, c, d, e, f, g⟩ (kindF x) = ⟨a, b + 1, c, d, e, f, g⟩ := by rw [hk]; rfl
      exact this
    rw [show fbit x = 9218868437227405312 by rw [hq]; exact fbit_num (by decide)] at hF
    have HF := hide hF
    generalize bumpK ⟨a, b, c, d, e, f, g⟩ (kindF x) = M at HK ⊢
    clear hF hk
    clear hq
    go_enter Try.func32, Try.ntmps32
    go_wp2_with fail
    refine (unhide HF _).mono ?_
    rintro e w' ⟨rfl, rfl⟩
    go_wp2_with fail
    go_returns
    exact ⟨by rw [unhide HK], by go_grown⟩
  · have HK : Hid (bumpK ⟨a, b, c, d, e, f, g⟩ (kindF x) = ⟨a, b, c + 1, d, e, f, g⟩) := by
      have : bumpK ⟨a, b, c, d, e, f, g⟩ (kindF x) = ⟨a, b, c + 1, d, e, f, g⟩ := by rw [hk]; rfl
      exact this
    rw [show fbit x = 18442240474082181120 by rw [hq]; exact fbit_num (by decide)] at hF
    have HF := hide hF
    generalize bumpK ⟨a, b, c, d, e, f, g⟩ (kindF x) = M at HK ⊢
    clear hF hk
    clear hq
    go_enter Try.func32, Try.ntmps32
    go_wp2_with fail
    refine (unhide HF _).mono ?_
    rintro e w' ⟨rfl, rfl⟩
    go_wp2_with fail
    go_returns
    exact ⟨by rw [unhide HK], by go_grown⟩
  · have HK : Hid (bumpK ⟨a, b, c, d, e, f, g⟩ (kindF x) = ⟨a, b, c, d + 1, e, f, g⟩) := by
      have : bumpK ⟨a, b, c, d, e, f, g⟩ (kindF x) = ⟨a, b, c, d + 1, e, f, g⟩ := by rw [hk]; rfl
      exact this
    rw [show fbit x = 0 by rw [hq]; exact fbit_num (by decide)] at hF
    have HF := hide hF
    generalize bumpK ⟨a, b, c, d, e, f, g⟩ (kindF x) = M at HK ⊢
    clear hF hk
    clear hq
    go_enter Try.func32, Try.ntmps32
    go_wp2_with fail
    refine (unhide HF _).mono ?_
    rintro e w' ⟨rfl, rfl⟩
    go_wp2_with fail
    go_returns
    exact ⟨by rw [unhide HK], by go_grown⟩
  · have HK : Hid (bumpK ⟨a, b, c, d, e, f, g⟩ (kindF x) = ⟨a, b, c, d, e + 1, f, g⟩) := by
      have : bumpK ⟨a, b, c, d, e, f, g⟩ (kindF x) = ⟨a, b, c, d, e + 1, f, g⟩ := by rw [hk]; rfl
      exact this
    rw [show fbit x = 9223372036854775808 by rw [hq]; exact fbit_num (by decide)] at hF
    have HF := hide hF
    generalize bumpK ⟨a, b, c, d, e, f, g⟩ (kindF x) = M at HK ⊢
    clear hF hk
    clear hq
    go_enter Try.func32, Try.ntmps32
    go_wp2_with fail
    refine (unhide HF _).mono ?_
    rintro e w' ⟨rfl, rfl⟩
    go_wp2_with fail
    go_returns
    exact ⟨by rw [unhide HK], by go_grown⟩
  · have HK : Hid (bumpK ⟨a, b, c, d, e, f, g⟩ (kindF x) = ⟨a, b, c, d, e, f + 1, g⟩) := by
      have : bumpK ⟨a, b, c, d, e, f, g⟩ (kindF x) = ⟨a, b, c, d, e, f + 1, g⟩ := by rw [hk]; rfl
      exact this
    rw [fbit_num hn] at hF
    have HF := hide hF
    generalize bumpK ⟨a, b, c, d, e, f, g⟩ (kindF x) = M at HK ⊢
    clear hF hk
    have hTK := fun W => implTicks_any x W
    rw [ht] at hTK
    have HTK := hide hTK
    have m0 : ((x : Int) == 9221120237041090560) = false := by
      rw [beq_eq_false_iff_ne]; intro h
      have : x = 9221120237041090560 := by omega
      rw [this] at hn; exact absurd hn (by decide)
    have m1 : ((x : Int) == 9218868437227405312) = false := by rw [beq_eq_false_iff_ne]; omega
    have m2 : ((x : Int) == 18442240474082181120) = false := by rw [beq_eq_false_iff_ne]; omega
    have m3 : ((x : Int) == 0) = false := by rw [beq_eq_false_iff_ne]; omega
    have m4 : ((x : Int) == 9223372036854775808) = false := by rw [beq_eq_false_iff_ne]; omega
    clear hTK ht hn n1 n2 n3 n4
    go_enter Try.func32, Try.ntmps32
    go_wp2_with fail
    refine (unhide HF _).mono ?_
    rintro e w' ⟨rfl, rfl⟩
    go_wp2_with fail
    refine (unhide HTK _).mono ?_
    rintro e w' ⟨rfl, rfl⟩
    go_wp2_with fail
    go_returns
    exact ⟨by rw [unhide HK], by go_grown⟩
  · have HK : Hid (bumpK ⟨a, b, c, d, e, f, g⟩ (kindF x) = ⟨a, b, c, d, e, f, g + 1⟩) := by
      have : bumpK ⟨a, b, c, d, e, f, g⟩ (kindF x) = ⟨a, b, c, d, e, f, g + 1⟩ := by rw [hk]; rfl
      exact this
    rw [fbit_num hn] at hF
    have HF := hide hF
    generalize bumpK ⟨a, b, c, d, e, f, g⟩ (kindF x) = M at HK ⊢
    clear hF hk
    have hTK := fun W => implTicks_any x W
    rw [ht] at hTK
    have HTK := hide hTK
    have m0 : ((x : Int) == 9221120237041090560) = false := by
      rw [beq_eq_false_iff_ne]; intro h
      have : x = 9221120237041090560 := by omega
      rw [this] at hn; exact absurd hn (by decide)
    have m1 : ((x : Int) == 9218868437227405312) = false := by rw [beq_eq_false_iff_ne]; omega
    have m2 : ((x : Int) == 18442240474082181120) = false := by rw [beq_eq_false_iff_ne]; omega
    have m3 : ((x : Int) == 0) = false := by rw [beq_eq_false_iff_ne]; omega
    have m4 : ((x : Int) == 9223372036854775808) = false := by rw [beq_eq_false_iff_ne]; omega
    clear hTK ht hn n1 n2 n3 n4
    go_enter Try.func32, Try.ntmps32
    go_wp2_with fail
    refine (unhide HF _).mono ?_
    rintro e w' ⟨rfl, rfl⟩
    go_wp2_with fail
    refine (unhide HTK _).mono ?_
    rintro e w' ⟨rfl, rfl⟩
    go_wp2_with fail
    go_returns
    exact ⟨by rw [unhide HK], by go_grown⟩

set_option maxRecDepth 100000 in
set_option maxHeartbeats 2000000 in
theorem implKinds_any (v : Value) (l : List Nat) (w : World) (hr : RdF w v l) (hf : Fls l) (hl : l.length ≤ 4096) :
    Calls Try.prog 10 #[v] w fun e w' => e = .returned (.tuple #[.agg #[.int .i64 (kindsL l).a, .int .i64 (kindsL l).b, .int .i64 (kindsL l).c, .int .i64 (kindsL l).d, .int .i64 (kindsL l).e, .int .i64 (kindsL l).f, .int .i64 (kindsL l).g], .int .i64 0]) ∧ Below w.heap.size w w' := by
  obtain ⟨a, cap, rfl, _, hc⟩ := hr
  have hcell : ∀ k, k < l.length → ∃ b off, a = some ⟨b, off, none⟩ ∧ b < w.heap.size ∧ w.cell? ⟨b, off + k, none⟩ = some (.float .f64 (l.getD k 0)) := by
    intro k hk
    obtain ⟨b, off, h1, h2⟩ := hc (by intro h; rw [h] at hk; simp at hk)
    exact ⟨b, off, h1, World.block_lt_of_cell? w _ (h2 k hk), h2 k hk⟩
  have HC := hide hcell
  have HF := hide hf
  clear hc hf hcell
  have hl' : (l.length : Int) ≤ 4096 := by omega
  have HM := hide (bx2_made w [.int .i64 0, .int .i64 0, .int .i64 0, .int .i64 0, .int .i64 0, .int .i64 0, .int .i64 0] (kindsL (l.take 0)).vs 26 26)
  go_enter Try.func10, Try.ntmps10
  go_wp2_with fail
  go_loopw [13] (fun iv wr => ∃ (k : Nat), k ≤ l.length ∧ iv = .int .i64 k ∧ Hid (Bx2 w wr [.int .i64 0, .int .i64 0, .int .i64 0, .int .i64 0, .int .i64 0, .int .i64 0, .int .i64 0] (kindsL (l.take k)).vs)) (fun iv _ => l.length - (intOf iv).toNat)
  case atStart => exact ⟨0, Nat.zero_le _, rfl, unhide HM⟩
  case round =>
    obtain ⟨k, hk, rfl, hB⟩ := hrel
    have HB := hide (unhide hB)
    clear hB
    by_cases hlt : k < l.length
    · obtain ⟨b, off, rfl, hb, hcl⟩ := unhide HC k hlt
      have h1 := ((unhide HB).b.cell (p := ⟨b, off + k, none⟩) hb).trans hcl
      have hlt' : (k : Int) < l.length := by omega
      have hx := fls_get (unhide HF) k
      have hok := knOk_take l k hk
      have hs := kindsL_snoc (l.take k) (l.getD k 0)
      rw [← takeF_get l k hlt] at hs
      generalize l.getD k 0 = x at h1 hx hs hcl
      generalize kindsL (l.take k) = T at hok hs HB
      have HS := hide hs
      clear hs hcl hb
      have c0 : wr.cell? ⟨w.heap.size + 1, 0, none⟩ = some (.int .i64 T.a) := bx_cell (unhide HB).k 0 rfl
      have c1 : wr.cell? ⟨w.heap.size + 1, 1, none⟩ = some (.int .i64 T.b) := bx_cell (unhide HB).k 1 rfl
      have c2 : wr.cell? ⟨w.heap.size + 1, 2, none⟩ = some (.int .i64 T.c) := bx_cell (unhide HB).k 2 rfl
      have c3 : wr.cell? ⟨w.heap.size + 1, 3, none⟩ = some (.int .i64 T.d) := bx_cell (unhide HB).k 3 rfl
      have c4 : wr.cell? ⟨w.heap.size + 1, 4, none⟩ = some (.int .i64 T.e) := bx_cell (unhide HB).k 4 rfl
      have c5 : wr.cell? ⟨w.heap.size + 1, 5, none⟩ = some (.int .i64 T.f) := bx_cell (unhide HB).k 5 rfl
      have c6 : wr.cell? ⟨w.heap.size + 1, 6, none⟩ = some (.int .i64 T.g) := bx_cell (unhide HB).k 6 rfl
      have hok' : KnOk T 4096 := ⟨⟨hok.a.1, by have := hok.a.2; omega⟩, ⟨hok.b.1, by have := hok.b.2; omega⟩, ⟨hok.c.1, by have := hok.c.2; omega⟩, ⟨hok.d.1, by have := hok.d.2; omega⟩, ⟨hok.e.1, by have := hok.e.2; omega⟩, ⟨hok.f.1, by have := hok.f.2; omega⟩, ⟨hok.g.1, by have := hok.g.2; omega⟩⟩
      have HW := hide (fun W => withFloat_any T x W hx hok')
      clear hok hok' hx
      go_wp2_with fail
      refine (unhide HW _).mono ?_
      rintro e V ⟨rfl, hbV⟩
      have HV := hide hbV
      have z0 : V.cell? ⟨w.heap.size + 1, 0, none⟩ = some (.int .i64 T.a) := bx_cell (bx_below (unhide HB).k hbV (by have := (unhide HB).z; omega)) 0 rfl
      have q0 : V.frozen? ⟨w.heap.size + 1, 0, none⟩ = false := bx_free (bx_below (unhide HB).k hbV (by have := (unhide HB).z; omega)) 0 (by simp [Kn.vs])
      have z1 : V.cell? ⟨w.heap.size + 1, 1, none⟩ = some (.int .i64 T.b) := bx_cell (bx_below (unhide HB).k hbV (by have := (unhide HB).z; omega)) 1 rfl
      have q1 : V.frozen? ⟨w.heap.size + 1, 1, none⟩ = false := bx_free (bx_below (unhide HB).k hbV (by have := (unhide HB).z; omega)) 1 (by simp [Kn.vs])
      have z2 : V.cell? ⟨w.heap.size + 1, 2, none⟩ = some (.int .i64 T.c) := bx_cell (bx_below (unhide HB).k hbV (by have := (unhide HB).z; omega)) 2 rfl
      have q2 : V.frozen? ⟨w.heap.size + 1, 2, none⟩ = false := bx_free (bx_below (unhide HB).k hbV (by have := (unhide HB).z; omega)) 2 (by simp [Kn.vs])
      have z3 : V.cell? ⟨w.heap.size + 1, 3, none⟩ = some (.int .i64 T.d) := bx_cell (bx_below (unhide HB).k hbV (by have := (unhide HB).z; omega)) 3 rfl
      have q3 : V.frozen? ⟨w.heap.size + 1, 3, none⟩ = false := bx_free (bx_below (unhide HB).k hbV (by have := (unhide HB).z; omega)) 3 (by simp [Kn.vs])
      have z4 : V.cell? ⟨w.heap.size + 1, 4, none⟩ = some (.int .i64 T.e) := bx_cell (bx_below (unhide HB).k hbV (by have := (unhide HB).z; omega)) 4 rfl
      have q4 : V.frozen? ⟨w.heap.size + 1, 4, none⟩ = false := bx_free (bx_below (unhide HB).k hbV (by have := (unhide HB).z; omega)) 4 (by simp [Kn.vs])
      have z5 : V.cell? ⟨w.heap.size + 1, 5, none⟩ = some (.int .i64 T.f) := bx_cell (bx_below (unhide HB).k hbV (by have := (unhide HB).z; omega)) 5 rfl
      have q5 : V.frozen? ⟨w.heap.size + 1, 5, none⟩ = false := bx_free (bx_below (unhide HB).k hbV (by have := (unhide HB).z; omega)) 5 (by simp [Kn.vs])
      have z6 : V.cell? ⟨w.heap.size + 1, 6, none⟩ = some (.int .i64 T.g) := bx_cell (bx_below (unhide HB).k hbV (by have := (unhide HB).z; omega)) 6 rfl
      have q6 : V.frozen? ⟨w.heap.size + 1, 6, none⟩ = false := bx_free (bx_below (unhide HB).k hbV (by have := (unhide HB).z; omega)) 6 (by simp [Kn.vs])
      have HB2 := hide (bx2_step (us := (bumpK T (kindF x)).vs) (unhide HB) hbV (by simp [Kn.vs]))
      clear hbV
      generalize bumpK T (kindF x) = M at HS HB2 ⊢
      go_wp2_with fail
      go_roundw
      case rel => exact ⟨k + 1, by omega, by go_num, by rw [unhide HS]; exact unhide HB2⟩
      case measure => simp [intOf]; omega
    · rw [List.take_of_length_le (by omega)] at HB
      obtain ⟨T, hTe⟩ : ∃ T, T = kindsL l := ⟨_, rfl⟩
      rw [← hTe] at HB
      have HT := hide hTe
      clear hTe
      have c0 : wr.cell? ⟨w.heap.size + 1, 0, none⟩ = some (.int .i64 T.a) := bx_cell (unhide HB).k 0 rfl
      have c1 : wr.cell? ⟨w.heap.size + 1, 1, none⟩ = some (.int .i64 T.b) := bx_cell (unhide HB).k 1 rfl
      have c2 : wr.cell? ⟨w.heap.size + 1, 2, none⟩ = some (.int .i64 T.c) := bx_cell (unhide HB).k 2 rfl
      have c3 : wr.cell? ⟨w.heap.size + 1, 3, none⟩ = some (.int .i64 T.d) := bx_cell (unhide HB).k 3 rfl
      have c4 : wr.cell? ⟨w.heap.size + 1, 4, none⟩ = some (.int .i64 T.e) := bx_cell (unhide HB).k 4 rfl
      have c5 : wr.cell? ⟨w.heap.size + 1, 5, none⟩ = some (.int .i64 T.f) := bx_cell (unhide HB).k 5 rfl
      have c6 : wr.cell? ⟨w.heap.size + 1, 6, none⟩ = some (.int .i64 T.g) := bx_cell (unhide HB).k 6 rfl
      have y0 : wr.cell? ⟨w.heap.size, 0, none⟩ = some (.int .i64 0) := bx_cell (unhide HB).o 0 rfl
      have q0 : wr.frozen? ⟨w.heap.size, 0, none⟩ = false := bx_free (unhide HB).o 0 (by decide)
      have y1 : wr.cell? ⟨w.heap.size, 1, none⟩ = some (.int .i64 0) := bx_cell (unhide HB).o 1 rfl
      have q1 : wr.frozen? ⟨w.heap.size, 1, none⟩ = false := bx_free (unhide HB).o 1 (by decide)
      have y2 : wr.cell? ⟨w.heap.size, 2, none⟩ = some (.int .i64 0) := bx_cell (unhide HB).o 2 rfl
      have q2 : wr.frozen? ⟨w.heap.size, 2, none⟩ = false := bx_free (unhide HB).o 2 (by decide)
      have y3 : wr.cell? ⟨w.heap.size, 3, none⟩ = some (.int .i64 0) := bx_cell (unhide HB).o 3 rfl
      have q3 : wr.frozen? ⟨w.heap.size, 3, none⟩ = false := bx_free (unhide HB).o 3 (by decide)
      have y4 : wr.cell? ⟨w.heap.size, 4, none⟩ = some (.int .i64 0) := bx_cell (unhide HB).o 4 rfl
      have q4 : wr.frozen? ⟨w.heap.size, 4, none⟩ = false := bx_free (unhide HB).o 4 (by decide)
      have y5 : wr.cell? ⟨w.heap.size, 5, none⟩ = some (.int .i64 0) := bx_cell (unhide HB).o 5 rfl
      have q5 : wr.frozen? ⟨w.heap.size, 5, none⟩ = false := bx_free (unhide HB).o 5 (by decide)
      have y6 : wr.cell? ⟨w.heap.size, 6, none⟩ = some (.int .i64 0) := bx_cell (unhide HB).o 6 rfl
      have q6 : wr.frozen? ⟨w.heap.size, 6, none⟩ = false := bx_free (unhide HB).o 6 (by decide)
      have HR8 := hide (bx_setCells (us := [.int .i64 T.a, .int .i64 T.b, .int .i64 T.c, .int .i64 T.d, .int .i64 T.e, .int .i64 T.f, .int .i64 T.g]) (unhide HB).o rfl)
      have HB8 := hide (below_setCells w.heap.size (Nat.le_refl _) [.int .i64 T.a, .int .i64 T.b, .int .i64 T.c, .int .i64 T.d, .int .i64 T.e, .int .i64 T.f, .int .i64 T.g] 0 wr (unhide HB).b)
      go_wp2_with fail
      change bodyPost _ _ _ _ _ (wr.setCells w.heap.size 0 [.int .i64 T.a, .int .i64 T.b, .int .i64 T.c, .int .i64 T.d, .int .i64 T.e, .int .i64 T.f, .int .i64 T.g])
      generalize wr.setCells w.heap.size 0 [.int .i64 T.a, .int .i64 T.b, .int .i64 T.c, .int .i64 T.d, .int .i64 T.e, .int .i64 T.f, .int .i64 T.g] = WE at HR8 HB8 ⊢
      have d0 : WE.cell? ⟨w.heap.size, 0, none⟩ = some (.int .i64 T.a) := bx_cell (unhide HR8) 0 rfl
      have d1 : WE.cell? ⟨w.heap.size, 1, none⟩ = some (.int .i64 T.b) := bx_cell (unhide HR8) 1 rfl
      have d2 : WE.cell? ⟨w.heap.size, 2, none⟩ = some (.int .i64 T.c) := bx_cell (unhide HR8) 2 rfl
      have d3 : WE.cell? ⟨w.heap.size, 3, none⟩ = some (.int .i64 T.d) := bx_cell (unhide HR8) 3 rfl
      have d4 : WE.cell? ⟨w.heap.size, 4, none⟩ = some (.int .i64 T.e) := bx_cell (unhide HR8) 4 rfl
      have d5 : WE.cell? ⟨w.heap.size, 5, none⟩ = some (.int .i64 T.f) := bx_cell (unhide HR8) 5 rfl
      have d6 : WE.cell? ⟨w.heap.size, 6, none⟩ = some (.int .i64 T.g) := bx_cell (unhide HR8) 6 rfl
      refine bodyPost_ret (by simp [results, Try.results10, go_sem, d0, d1, d2, d3, d4, d5, d6]; try rfl) rfl ?_
      exact ⟨by rw [unhide HT], unhide HB8⟩
end Go.Proofs.Yteljmhgpffekgaa
