/-
  The figures of totals and a book, by the program: proved by walking the function.
-/
import Derived.Test.YteljmhgpffekgaaFj34
import Derived.Test.YteljmhgpffekgaaFj35
namespace Go.Proofs.Yteljmhgpffekgaa
open Go.RowKit
set_option linter.unusedVariables false

theorem okF_left {next : Int} {l : List Od} (h : okS next l = true) : l.length ≤ 20 ∧ Rising l ∧ ∀ o ∈ l, 0 ≤ o.left ∧ o.left ≤ 1000000 := by
  simp only [okS, Bool.and_eq_true, decide_eq_true_eq] at h
  obtain ⟨⟨⟨_, h2⟩, h3⟩, _⟩ := h
  refine ⟨h2, (allR_rising h3).1, fun o ho => ?_⟩
  have := allR_sides h3 o ho
  simp [ordB, betB] at this
  omega
theorem sflF (a : Addr) (x : Nat) (m : Mode) (w : World) : (store a (.float .f64 x) m).run Try.prog w = stored Try.prog w a (.float .f64 x) m := run_store _ w a _ m rfl
/-- Three blocks from the size of w on: the totals, the book, what is answered. -/
structure Fg (w W : World) (ts bk zs : List Value) : Prop where
  t : Bx W w.heap.size ts
  k : Bx W (w.heap.size + 1) bk
  o : Bx W (w.heap.size + 1 + 1) zs
  b : Below w.heap.size w W
  z : w.heap.size + 3 ≤ W.heap.size
theorem fg_made (w : World) (ts bk zs : List Value) (t u v : TypeId) : Fg w (((w.alloc (Obj.cells ts.toArray t)).alloc (Obj.cells bk.toArray u)).alloc (Obj.cells zs.toArray v)) ts bk zs := by
  have h := bx2_made w ts bk t u
  have hs : ((w.alloc (Obj.cells ts.toArray t)).alloc (Obj.cells bk.toArray u)).heap.size = w.heap.size + 2 := by simp
  have h3 := bx_made ((w.alloc (Obj.cells ts.toArray t)).alloc (Obj.cells bk.toArray u)) zs v
  rw [hs] at h3
  have b3 : Below (w.heap.size + 2) ((w.alloc (Obj.cells ts.toArray t)).alloc (Obj.cells bk.toArray u)) (((w.alloc (Obj.cells ts.toArray t)).alloc (Obj.cells bk.toArray u)).alloc (Obj.cells zs.toArray v)) := (Below.refl _ _).alloc (by omega) _
  exact ⟨bx_below h.o b3 (by omega), bx_below h.k b3 (by omega), h3, h.b.trans (b3.mono (by omega)), by simp⟩
theorem fg_below {w W V : World} {ts bk zs : List Value} (h : Fg w W ts bk zs) (hb : Below W.heap.size W V) : Fg w V ts bk zs := by
  have hz := h.z
  exact ⟨bx_below h.t hb (by omega), bx_below h.k hb (by omega), bx_below h.o hb (by omega), h.b.trans (hb.mono h.b.size), Nat.le_trans hz hb.size⟩

set_option maxRecDepth 100000 in
set_option maxHeartbeats 1600000 in
theorem implFig_bad (ta tb tc td te tf tg th next : Int) (v : Value) (l : List Od) (w : World) (hr : RdR Od.vs 6 w v l) (hg : ∀ c ∈ l, c.tag.size ≤ maxLen) (hbad : okS next l = false ∨ te < 0 ∨ tf < 0) :
    Calls Try.prog 19 #[.agg #[.int .i64 ta, .int .i64 tb, .int .i64 tc, .int .i64 td, .int .i64 te, .int .i64 tf, .int .i64 tg, .int .i64 th], .agg #[.int .i64 next, v]] w fun e w' => e = .returned (.tuple #[.agg #[.float .f64 0, .float .f64 0, .float .f64 0, .float .f64 0], .int .i64 1]) ∧ Below w.heap.size w w' := by
  have HR := hide hr
  have HOK := hide (fun W h => implBookOK_any next v l W h hg)
  rw [okI_eq] at HOK
  obtain ⟨a, cap, rfl, _, _⟩ := hr
  have HM := hide (fg_made w [.int .i64 ta, .int .i64 tb, .int .i64 tc, .int .i64 td, .int .i64 te, .int .i64 tf, .int .i64 tg, .int .i64 th] [.int .i64 next, .slice a l.length cap] [.float .f64 0, .float .f64 0, .float .f64 0, .float .f64 0] 42 40 50)
  have hsf := sflF
  clear hg
  go_enter Try.func19, Try.ntmps19
  go_wp2_with fail
  change Calls _ _ _ (((w.alloc (Obj.cells #[.int .i64 ta, .int .i64 tb, .int .i64 tc, .int .i64 td, .int .i64 te, .int .i64 tf, .int .i64 tg, .int .i64 th] 42)).alloc (Obj.cells #[.int .i64 next, .slice a l.length cap] 40)).alloc (Obj.cells #[.float .f64 0, .float .f64 0, .float .f64 0, .float .f64 0] 50)) _
  generalize (((w.alloc (Obj.cells #[.int .i64 ta, .int .i64 tb, .int .i64 tc, .int .i64 td, .int .i64 te, .int .i64 tf, .int .i64 tg, .int .i64 th] 42)).alloc (Obj.cells #[.int .i64 next, .slice a l.length cap] 40)).alloc (Obj.cells #[.float .f64 0, .float .f64 0, .float .f64 0, .float .f64 0] 50)) = X at HM ⊢
  have HM : Hid (Fg w X [.int .i64 ta, .int .i64 tb, .int .i64 tc, .int .i64 td, .int .i64 te, .int .i64 tf, .int .i64 tg, .int .i64 th] [.int .i64 next, .slice a l.length cap] [.float .f64 0, .float .f64 0, .float .f64 0, .float .f64 0]) := unhide HM
  cases hO : okS next l with
  | false =>
    rw [hO] at HOK
    clear hO hbad
    refine (unhide HOK X (rdR_below (unhide HR) (unhide HM).b (Nat.le_refl _))).mono ?_
    rintro e W ⟨rfl, hbW⟩
    have HF := hide (fg_below (unhide HM) hbW)
    clear hbW
    have c4 : W.cell? ⟨w.heap.size, 4, none⟩ = some (.int .i64 te) := bx_cell (unhide HF).t 4 rfl
    have c5 : W.cell? ⟨w.heap.size, 5, none⟩ = some (.int .i64 tf) := bx_cell (unhide HF).t 5 rfl
    have y0 : W.cell? ⟨w.heap.size + 1 + 1, 0, none⟩ = some (.float .f64 0) := bx_cell (unhide HF).o 0 rfl
    have q0 : W.frozen? ⟨w.heap.size + 1 + 1, 0, none⟩ = false := bx_free (unhide HF).o 0 (by decide)
    have y1 : W.cell? ⟨w.heap.size + 1 + 1, 1, none⟩ = some (.float .f64 0) := bx_cell (unhide HF).o 1 rfl
    have q1 : W.frozen? ⟨w.heap.size + 1 + 1, 1, none⟩ = false := bx_free (unhide HF).o 1 (by decide)
    have y2 : W.cell? ⟨w.heap.size + 1 + 1, 2, none⟩ = some (.float .f64 0) := bx_cell (unhide HF).o 2 rfl
    have q2 : W.frozen? ⟨w.heap.size + 1 + 1, 2, none⟩ = false := bx_free (unhide HF).o 2 (by decide)
    have y3 : W.cell? ⟨w.heap.size + 1 + 1, 3, none⟩ = some (.float .f64 0) := bx_cell (unhide HF).o 3 rfl
    have q3 : W.frozen? ⟨w.heap.size + 1 + 1, 3, none⟩ = false := bx_free (unhide HF).o 3 (by decide)
    have HR8 := hide (bx_setCells (us := [.float .f64 0, .float .f64 0, .float .f64 0, .float .f64 0]) (unhide HF).o rfl)
    have HB8 := hide (below_setCells (w.heap.size + 1 + 1) (by omega) [.float .f64 0, .float .f64 0, .float .f64 0, .float .f64 0] 0 W (unhide HF).b)
    go_wp2_with fail
    change bodyPost _ _ _ _ _ (W.setCells (w.heap.size + 1 + 1) 0 [.float .f64 0, .float .f64 0, .float .f64 0, .float .f64 0])
    generalize W.setCells (w.heap.size + 1 + 1) 0 [.float .f64 0, .float .f64 0, .float .f64 0, .float .f64 0] = WE at HR8 HB8 ⊢
    have d0 : WE.cell? ⟨w.heap.size + 1 + 1, 0, none⟩ = some (.float .f64 0) := bx_cell (unhide HR8) 0 rfl
    have d1 : WE.cell? ⟨w.heap.size + 1 + 1, 1, none⟩ = some (.float .f64 0) := bx_cell (unhide HR8) 1 rfl
    have d2 : WE.cell? ⟨w.heap.size + 1 + 1, 2, none⟩ = some (.float .f64 0) := bx_cell (unhide HR8) 2 rfl
    have d3 : WE.cell? ⟨w.heap.size + 1 + 1, 3, none⟩ = some (.float .f64 0) := bx_cell (unhide HR8) 3 rfl
    refine bodyPost_ret (by simp [results, Try.results19, go_sem, d0, d1, d2, d3]; try rfl) rfl ?_
    exact ⟨rfl, unhide HB8⟩
  | true =>
    have hbad' : te < 0 ∨ tf < 0 := by
      rcases hbad with h | h
      · rw [hO] at h; cases h
      · exact h
    rw [hO] at HOK
    clear hO hbad
    by_cases hte : te < 0
    · clear hbad'
      refine (unhide HOK X (rdR_below (unhide HR) (unhide HM).b (Nat.le_refl _))).mono ?_
      rintro e W ⟨rfl, hbW⟩
      have HF := hide (fg_below (unhide HM) hbW)
      clear hbW
      have c4 : W.cell? ⟨w.heap.size, 4, none⟩ = some (.int .i64 te) := bx_cell (unhide HF).t 4 rfl
      have c5 : W.cell? ⟨w.heap.size, 5, none⟩ = some (.int .i64 tf) := bx_cell (unhide HF).t 5 rfl
      have y0 : W.cell? ⟨w.heap.size + 1 + 1, 0, none⟩ = some (.float .f64 0) := bx_cell (unhide HF).o 0 rfl
      have q0 : W.frozen? ⟨w.heap.size + 1 + 1, 0, none⟩ = false := bx_free (unhide HF).o 0 (by decide)
      have y1 : W.cell? ⟨w.heap.size + 1 + 1, 1, none⟩ = some (.float .f64 0) := bx_cell (unhide HF).o 1 rfl
      have q1 : W.frozen? ⟨w.heap.size + 1 + 1, 1, none⟩ = false := bx_free (unhide HF).o 1 (by decide)
      have y2 : W.cell? ⟨w.heap.size + 1 + 1, 2, none⟩ = some (.float .f64 0) := bx_cell (unhide HF).o 2 rfl
      have q2 : W.frozen? ⟨w.heap.size + 1 + 1, 2, none⟩ = false := bx_free (unhide HF).o 2 (by decide)
      have y3 : W.cell? ⟨w.heap.size + 1 + 1, 3, none⟩ = some (.float .f64 0) := bx_cell (unhide HF).o 3 rfl
      have q3 : W.frozen? ⟨w.heap.size + 1 + 1, 3, none⟩ = false := bx_free (unhide HF).o 3 (by decide)
      have HR8 := hide (bx_setCells (us := [.float .f64 0, .float .f64 0, .float .f64 0, .float .f64 0]) (unhide HF).o rfl)
      have HB8 := hide (below_setCells (w.heap.size + 1 + 1) (by omega) [.float .f64 0, .float .f64 0, .float .f64 0, .float .f64 0] 0 W (unhide HF).b)
      go_wp2_with fail
      change bodyPost _ _ _ _ _ (W.setCells (w.heap.size + 1 + 1) 0 [.float .f64 0, .float .f64 0, .float .f64 0, .float .f64 0])
      generalize W.setCells (w.heap.size + 1 + 1) 0 [.float .f64 0, .float .f64 0, .float .f64 0, .float .f64 0] = WE at HR8 HB8 ⊢
      have d0 : WE.cell? ⟨w.heap.size + 1 + 1, 0, none⟩ = some (.float .f64 0) := bx_cell (unhide HR8) 0 rfl
      have d1 : WE.cell? ⟨w.heap.size + 1 + 1, 1, none⟩ = some (.float .f64 0) := bx_cell (unhide HR8) 1 rfl
      have d2 : WE.cell? ⟨w.heap.size + 1 + 1, 2, none⟩ = some (.float .f64 0) := bx_cell (unhide HR8) 2 rfl
      have d3 : WE.cell? ⟨w.heap.size + 1 + 1, 3, none⟩ = some (.float .f64 0) := bx_cell (unhide HR8) 3 rfl
      refine bodyPost_ret (by simp [results, Try.results19, go_sem, d0, d1, d2, d3]; try rfl) rfl ?_
      exact ⟨rfl, unhide HB8⟩
    · have htf : tf < 0 := by omega
      have hte2 : 0 ≤ te := by omega
      clear hbad'
      refine (unhide HOK X (rdR_below (unhide HR) (unhide HM).b (Nat.le_refl _))).mono ?_
      rintro e W ⟨rfl, hbW⟩
      have HF := hide (fg_below (unhide HM) hbW)
      clear hbW
      have c4 : W.cell? ⟨w.heap.size, 4, none⟩ = some (.int .i64 te) := bx_cell (unhide HF).t 4 rfl
      have c5 : W.cell? ⟨w.heap.size, 5, none⟩ = some (.int .i64 tf) := bx_cell (unhide HF).t 5 rfl
      have y0 : W.cell? ⟨w.heap.size + 1 + 1, 0, none⟩ = some (.float .f64 0) := bx_cell (unhide HF).o 0 rfl
      have q0 : W.frozen? ⟨w.heap.size + 1 + 1, 0, none⟩ = false := bx_free (unhide HF).o 0 (by decide)
      have y1 : W.cell? ⟨w.heap.size + 1 + 1, 1, none⟩ = some (.float .f64 0) := bx_cell (unhide HF).o 1 rfl
      have q1 : W.frozen? ⟨w.heap.size + 1 + 1, 1, none⟩ = false := bx_free (unhide HF).o 1 (by decide)
      have y2 : W.cell? ⟨w.heap.size + 1 + 1, 2, none⟩ = some (.float .f64 0) := bx_cell (unhide HF).o 2 rfl
      have q2 : W.frozen? ⟨w.heap.size + 1 + 1, 2, none⟩ = false := bx_free (unhide HF).o 2 (by decide)
      have y3 : W.cell? ⟨w.heap.size + 1 + 1, 3, none⟩ = some (.float .f64 0) := bx_cell (unhide HF).o 3 rfl
      have q3 : W.frozen? ⟨w.heap.size + 1 + 1, 3, none⟩ = false := bx_free (unhide HF).o 3 (by decide)
      have HR8 := hide (bx_setCells (us := [.float .f64 0, .float .f64 0, .float .f64 0, .float .f64 0]) (unhide HF).o rfl)
      have HB8 := hide (below_setCells (w.heap.size + 1 + 1) (by omega) [.float .f64 0, .float .f64 0, .float .f64 0, .float .f64 0] 0 W (unhide HF).b)
      go_wp2_with fail
      change bodyPost _ _ _ _ _ (W.setCells (w.heap.size + 1 + 1) 0 [.float .f64 0, .float .f64 0, .float .f64 0, .float .f64 0])
      generalize W.setCells (w.heap.size + 1 + 1) 0 [.float .f64 0, .float .f64 0, .float .f64 0, .float .f64 0] = WE at HR8 HB8 ⊢
      have d0 : WE.cell? ⟨w.heap.size + 1 + 1, 0, none⟩ = some (.float .f64 0) := bx_cell (unhide HR8) 0 rfl
      have d1 : WE.cell? ⟨w.heap.size + 1 + 1, 1, none⟩ = some (.float .f64 0) := bx_cell (unhide HR8) 1 rfl
      have d2 : WE.cell? ⟨w.heap.size + 1 + 1, 2, none⟩ = some (.float .f64 0) := bx_cell (unhide HR8) 2 rfl
      have d3 : WE.cell? ⟨w.heap.size + 1 + 1, 3, none⟩ = some (.float .f64 0) := bx_cell (unhide HR8) 3 rfl
      refine bodyPost_ret (by simp [results, Try.results19, go_sem, d0, d1, d2, d3]; try rfl) rfl ?_
      exact ⟨rfl, unhide HB8⟩
end Go.Proofs.Yteljmhgpffekgaa
