/-
  An event decoded by the model, where a command was taken on: proved by walking the function.
-/
import Derived.Test.YtfhjbhnfapdmmaaDoorNj36
import Derived.Deep.RegionWith
namespace Go.Proofs.YtfhjbhnfapdmmaaDoor
open Go.RowKit
set_option linter.unusedVariables false

set_option maxRecDepth 100000 in
set_option maxHeartbeats 6400000 in
theorem decode1_any (v : Value) (l : List Int) (k : Nat) (w : World) (hrd : Rd w v l) (hcap : CapOk v) (hb : Bts l) (hl : l.length ≤ 65536) (hk : k < l.length) (hkd : l.getD k 0 = 1) :
    Calls Tryd.prog 24 #[v, .int .i64 k] w fun e w' => DcEnd w (evA l k) e w' := by
  have hsf := sfl
  have HEN := hide (fun (e : Ev) (n : Nat) hs => evT_end (l := l) (k := k) (n := n) (e := e) hk (by omega) hs)
  have HBD := hide (fun hs => evT_bad (l := l) (k := k) hk (by omega) hs)
  have HFE := hide (fin_eq (l.getD k 0) (k + 1) l (by omega))
  have hcell0 : ∃ b off cap, v = .slice (some ⟨b, off, none⟩) l.length cap ∧ b < w.heap.size ∧ w.cell? ⟨b, off + k, none⟩ = some (.int .u8 1) := by
    obtain ⟨a, cap, hv, _, hc⟩ := hrd
    obtain ⟨b, off, rfl, hcell⟩ := hc (by intro h; rw [h] at hk; simp at hk)
    exact ⟨b, off, cap, hv, World.block_lt_of_cell? w _ (hcell 0 (by omega)), by rw [hcell k hk, hkd]⟩
  rw [hkd] at HEN HBD HFE
  clear hkd
  have hn5 : (fldK 1).length = 5 := by
    rcases fldK_len' 1 with h | h
    · exfalso
      have := fldK_ne 1 (by omega)
      exact this h
    · exact h
  have h1 := bx_made w [.int .i64 0, .int .i64 0, .int .i64 0, .int .i64 0, .int .i64 0, .int .i64 0, .int .i64 0, .float .f64 0, .string ⟨#[]⟩, .int .i64 0, .int .i64 0, .int .i64 0, .int .i64 0, .int .i64 0] 31
  have hs1 : (w.alloc (Obj.cells #[.int .i64 0, .int .i64 0, .int .i64 0, .int .i64 0, .int .i64 0, .int .i64 0, .int .i64 0, .float .f64 0, .string ⟨#[]⟩, .int .i64 0, .int .i64 0, .int .i64 0, .int .i64 0, .int .i64 0] 31)).heap.size = w.heap.size + 1 := by simp
  have h2 : Bx ((w.alloc (Obj.cells #[.int .i64 0, .int .i64 0, .int .i64 0, .int .i64 0, .int .i64 0, .int .i64 0, .int .i64 0, .float .f64 0, .string ⟨#[]⟩, .int .i64 0, .int .i64 0, .int .i64 0, .int .i64 0, .int .i64 0] 31)).alloc (Obj.cells #[.int .i64 1, .int .i64 0, .int .i64 0, .int .i64 0, .int .i64 0, .int .i64 0, .int .i64 0, .float .f64 0, .string ⟨#[]⟩, .int .i64 0, .int .i64 0, .int .i64 0, .int .i64 0, .int .i64 0] 31)) (w.heap.size + 1) [.int .i64 1, .int .i64 0, .int .i64 0, .int .i64 0, .int .i64 0, .int .i64 0, .int .i64 0, .float .f64 0, .string ⟨#[]⟩, .int .i64 0, .int .i64 0, .int .i64 0, .int .i64 0, .int .i64 0] := by
    have h := bx_made (w.alloc (Obj.cells #[.int .i64 0, .int .i64 0, .int .i64 0, .int .i64 0, .int .i64 0, .int .i64 0, .int .i64 0, .float .f64 0, .string ⟨#[]⟩, .int .i64 0, .int .i64 0, .int .i64 0, .int .i64 0, .int .i64 0] 31)) [.int .i64 1, .int .i64 0, .int .i64 0, .int .i64 0, .int .i64 0, .int .i64 0, .int .i64 0, .float .f64 0, .string ⟨#[]⟩, .int .i64 0, .int .i64 0, .int .i64 0, .int .i64 0, .int .i64 0] 31
    rw [hs1] at h
    exact h
  have hb12 : Below (w.heap.size + 1) (w.alloc (Obj.cells #[.int .i64 0, .int .i64 0, .int .i64 0, .int .i64 0, .int .i64 0, .int .i64 0, .int .i64 0, .float .f64 0, .string ⟨#[]⟩, .int .i64 0, .int .i64 0, .int .i64 0, .int .i64 0, .int .i64 0] 31)) ((w.alloc (Obj.cells #[.int .i64 0, .int .i64 0, .int .i64 0, .int .i64 0, .int .i64 0, .int .i64 0, .int .i64 0, .float .f64 0, .string ⟨#[]⟩, .int .i64 0, .int .i64 0, .int .i64 0, .int .i64 0, .int .i64 0] 31)).alloc (Obj.cells #[.int .i64 1, .int .i64 0, .int .i64 0, .int .i64 0, .int .i64 0, .int .i64 0, .int .i64 0, .float .f64 0, .string ⟨#[]⟩, .int .i64 0, .int .i64 0, .int .i64 0, .int .i64 0, .int .i64 0] 31)) := (Below.refl _ _).alloc (by omega) _
  have HX2 := hide h2
  have HR2 := hide (bx_below h1 hb12 (by omega))
  have HB2 : Hid (Below w.heap.size w ((w.alloc (Obj.cells #[.int .i64 0, .int .i64 0, .int .i64 0, .int .i64 0, .int .i64 0, .int .i64 0, .int .i64 0, .float .f64 0, .string ⟨#[]⟩, .int .i64 0, .int .i64 0, .int .i64 0, .int .i64 0, .int .i64 0] 31)).alloc (Obj.cells #[.int .i64 1, .int .i64 0, .int .i64 0, .int .i64 0, .int .i64 0, .int .i64 0, .int .i64 0, .float .f64 0, .string ⟨#[]⟩, .int .i64 0, .int .i64 0, .int .i64 0, .int .i64 0, .int .i64 0] 31))) := ((Below.refl _ w).alloc (Nat.le_refl _) _).trans (hb12.mono (by omega))
  have HZ2 : Hid (((w.alloc (Obj.cells #[.int .i64 0, .int .i64 0, .int .i64 0, .int .i64 0, .int .i64 0, .int .i64 0, .int .i64 0, .float .f64 0, .string ⟨#[]⟩, .int .i64 0, .int .i64 0, .int .i64 0, .int .i64 0, .int .i64 0] 31)).alloc (Obj.cells #[.int .i64 1, .int .i64 0, .int .i64 0, .int .i64 0, .int .i64 0, .int .i64 0, .int .i64 0, .float .f64 0, .string ⟨#[]⟩, .int .i64 0, .int .i64 0, .int .i64 0, .int .i64 0, .int .i64 0] 31)).heap.size = w.heap.size + 2) := by show _ = _; simp
  have HRD := hide hrd
  have HCP := hide hcap
  have HBT := hide hb
  have x20 := bx_cell h2 0 rfl
  obtain ⟨b, off, cap, rfl, hbw, hcell⟩ := hcell0
  have hkl : (k : Int) < l.length := by omega
  have hll : (l.length : Int) ≤ 65536 := by omega
  clear h1 h2 hb12 hs1 hrd hcap hb
  go_enter Tryd.func24, Tryd.ntmps24
  go_wp2_with fail
  generalize ((w.alloc (Obj.cells #[.int .i64 0, .int .i64 0, .int .i64 0, .int .i64 0, .int .i64 0, .int .i64 0, .int .i64 0, .float .f64 0, .string ⟨#[]⟩, .int .i64 0, .int .i64 0, .int .i64 0, .int .i64 0, .int .i64 0] 31)).alloc (Obj.cells #[.int .i64 1, .int .i64 0, .int .i64 0, .int .i64 0, .int .i64 0, .int .i64 0, .int .i64 0, .float .f64 0, .string ⟨#[]⟩, .int .i64 0, .int .i64 0, .int .i64 0, .int .i64 0, .int .i64 0] 31)) = W2 at HX2 HR2 HB2 HZ2 x20 ⊢
  refine (fields_any 1 W2).mono ?_
  rintro r W3 ⟨g, rfl, hg3, hF3, hb3⟩
  rw [hn5]
  have hz2 := unhide HZ2
  have hgl := bx_lt hF3 (by rw [List.length_map, hn5]; decide)
  have hX3 := bx_below (unhide HX2) hb3 (by omega)
  have hR3 := bx_below (unhide HR2) hb3 (by omega)
  have hB3 := (unhide HB2).trans (hb3.mono (by omega))
  have hz3 := hb3.size
  have hb4 : Below W3.heap.size W3 (W3.alloc (Obj.cells #[.slice (some ⟨b, off, none⟩) l.length cap, .int .i64 ((k : Int) + 1), .bool false] 74)) := (Below.refl _ _).alloc (Nat.le_refl _) _
  have hS4 := bx_made W3 [.slice (some ⟨b, off, none⟩) l.length cap, .int .i64 ((k : Int) + 1), .bool false] 74
  have HD4 : Hid (DS w (.slice (some ⟨b, off, none⟩) l.length cap) l 1 g W3.heap.size (⟨1, ⟨0, 0, 0, 0, 0, 0, 0, ⟨#[]⟩⟩, 0, 0, 0, 0, 0⟩, some (k + 1)) (W3.alloc (Obj.cells #[.slice (some ⟨b, off, none⟩) l.length cap, .int .i64 ((k : Int) + 1), .bool false] 74))) :=
    ⟨⟨unhide HRD, unhide HCP, by omega, hB3.trans (hb4.mono (by omega)), ⟨(k : Int) + 1, hS4, fun n hn => by cases hn; exact ⟨by omega, by omega⟩⟩, by omega, unhide HBT⟩, bx_below hX3 hb4 (by omega), bx_below hR3 hb4 (by omega), bx_below hF3 hb4 (by omega), hB3.trans (hb4.mono (by omega)), rfl, by omega, by omega, hn5⟩
  have hx3 := bx_cell hX3 0 rfl
  have hx4 := bx_cell (bx_below hX3 hb4 (by omega)) 0 rfl
  have hc4 := (unhide HD4).c 1 (by omega)
  clear hX3 hR3 hB3 hb4 hS4 hb3 HX2 HR2 HB2 HZ2 x20 hF3 hz2 HRD HCP HBT
  obtain ⟨⟨u1, hc1⟩, hcf1⟩ := hc4
  have HD5 : Hid (DS w (.slice (some ⟨b, off, none⟩) l.length cap) l 1 g W3.heap.size (ev0 1, some (k + 1)) ((W3.alloc (Obj.cells #[.slice (some ⟨b, off, none⟩) l.length cap, .int .i64 ((k : Int) + 1), .bool false] 74)).setCell ⟨w.heap.size + 1, 1, none⟩ (.int .i64 1))) := (unhide HD4).put (o := 1) (x := .int .i64 1) (by unfold EvO plcO; simp) ⟨_, rfl⟩
  have hx0 := (unhide HD5).x0
  go_wp2_with fail
  generalize ((W3.alloc (Obj.cells #[.slice (some ⟨b, off, none⟩) l.length cap, .int .i64 ((k : Int) + 1), .bool false] 74)).setCell ⟨w.heap.size + 1, 1, none⟩ (.int .i64 1)) = W0 at HD5 hx0 ⊢
  clear HD4 hx3 hx4 hc1 hcf1
  have HD := HD5
  clear HD5
  refine (sNum_any w W3.heap.size _ l _ _ (unhide HD).s).mono ?_
  rintro e W' ⟨rfl, hs', hg'⟩
  have HD' : Hid (DS w (.slice (some ⟨b, off, none⟩) l.length cap) l 1 g W3.heap.size (stp 2 (ev0 1, some (k + 1)) l) (W'.setCell ⟨w.heap.size + 1, 2, none⟩ (.int .i64 (numV (ev0 1, some (k + 1)).2 l)))) := ds_step (o := 2) (unhide HD) hs' hg' (by unfold EvO plcO; simp)
  obtain ⟨⟨uu, hcu⟩, hcf⟩ := ((unhide HD).gr hs' hg').c 2 (by omega)
  have hx0 := (unhide HD').x0
  have hsz : (W'.setCell ⟨w.heap.size + 1, 2, none⟩ (.int .i64 (numV (ev0 1, some (k + 1)).2 l))).heap.size = W'.heap.size := by simp [World.setCell]
  clear hs' hg' HD
  go_wp2_with fail
  clear hcu hcf
  generalize (W'.setCell ⟨w.heap.size + 1, 2, none⟩ (.int .i64 (numV (ev0 1, some (k + 1)).2 l))) = W0 at HD' hx0 hsz ⊢
  skip
  have HD := HD'
  clear HD' hsz
  refine (sNum_any w W3.heap.size _ l _ _ (unhide HD).s).mono ?_
  rintro e W' ⟨rfl, hs', hg'⟩
  have HD' : Hid (DS w (.slice (some ⟨b, off, none⟩) l.length cap) l 1 g W3.heap.size (stp 3 (stp 2 (ev0 1, some (k + 1)) l) l) (W'.setCell ⟨w.heap.size + 1, 3, none⟩ (.int .i64 (numV (stp 2 (ev0 1, some (k + 1)) l).2 l)))) := ds_step (o := 3) (unhide HD) hs' hg' (by unfold EvO plcO; simp)
  obtain ⟨⟨uu, hcu⟩, hcf⟩ := ((unhide HD).gr hs' hg').c 3 (by omega)
  have hx0 := (unhide HD').x0
  have hsz : (W'.setCell ⟨w.heap.size + 1, 3, none⟩ (.int .i64 (numV (stp 2 (ev0 1, some (k + 1)) l).2 l))).heap.size = W'.heap.size := by simp [World.setCell]
  clear hs' hg' HD
  go_wp2_with fail
  clear hcu hcf
  generalize (W'.setCell ⟨w.heap.size + 1, 3, none⟩ (.int .i64 (numV (stp 2 (ev0 1, some (k + 1)) l).2 l))) = W0 at HD' hx0 hsz ⊢
  skip
  have HD := HD'
  clear HD' hsz
  refine (sNum_any w W3.heap.size _ l _ _ (unhide HD).s).mono ?_
  rintro e W' ⟨rfl, hs', hg'⟩
  have HD' : Hid (DS w (.slice (some ⟨b, off, none⟩) l.length cap) l 1 g W3.heap.size (stp 4 (stp 3 (stp 2 (ev0 1, some (k + 1)) l) l) l) (W'.setCell ⟨w.heap.size + 1, 4, none⟩ (.int .i64 (numV (stp 3 (stp 2 (ev0 1, some (k + 1)) l) l).2 l)))) := ds_step (o := 4) (unhide HD) hs' hg' (by unfold EvO plcO; simp)
  obtain ⟨⟨uu, hcu⟩, hcf⟩ := ((unhide HD).gr hs' hg').c 4 (by omega)
  have hx0 := (unhide HD').x0
  have hsz : (W'.setCell ⟨w.heap.size + 1, 4, none⟩ (.int .i64 (numV (stp 3 (stp 2 (ev0 1, some (k + 1)) l) l).2 l))).heap.size = W'.heap.size := by simp [World.setCell]
  clear hs' hg' HD
  go_wp2_with fail
  clear hcu hcf
  generalize (W'.setCell ⟨w.heap.size + 1, 4, none⟩ (.int .i64 (numV (stp 3 (stp 2 (ev0 1, some (k + 1)) l) l).2 l))) = W0 at HD' hx0 hsz ⊢
  skip
  have HD := HD'
  clear HD' hsz
  refine (sNum_any w W3.heap.size _ l _ _ (unhide HD).s).mono ?_
  rintro e W' ⟨rfl, hs', hg'⟩
  have HD' : Hid (DS w (.slice (some ⟨b, off, none⟩) l.length cap) l 1 g W3.heap.size (stp 5 (stp 4 (stp 3 (stp 2 (ev0 1, some (k + 1)) l) l) l) l) (W'.setCell ⟨w.heap.size + 1, 5, none⟩ (.int .i64 (numV (stp 4 (stp 3 (stp 2 (ev0 1, some (k + 1)) l) l) l).2 l)))) := ds_step (o := 5) (unhide HD) hs' hg' (by unfold EvO plcO; simp)
  obtain ⟨⟨uu, hcu⟩, hcf⟩ := ((unhide HD).gr hs' hg').c 5 (by omega)
  have hx0 := (unhide HD').x0
  have hsz : (W'.setCell ⟨w.heap.size + 1, 5, none⟩ (.int .i64 (numV (stp 4 (stp 3 (stp 2 (ev0 1, some (k + 1)) l) l) l).2 l))).heap.size = W'.heap.size := by simp [World.setCell]
  clear hs' hg' HD
  go_wp2_with fail
  clear hcu hcf
  generalize (W'.setCell ⟨w.heap.size + 1, 5, none⟩ (.int .i64 (numV (stp 4 (stp 3 (stp 2 (ev0 1, some (k + 1)) l) l) l).2 l))) = W0 at HD' hx0 hsz ⊢
  skip
  have HD := HD'
  clear HD' hsz
  refine (sFlt_any w W3.heap.size _ l _ _ (unhide HD).s).mono ?_
  rintro e W' ⟨rfl, hs', hg'⟩
  have HD' : Hid (DS w (.slice (some ⟨b, off, none⟩) l.length cap) l 1 g W3.heap.size (stp 7 (stp 5 (stp 4 (stp 3 (stp 2 (ev0 1, some (k + 1)) l) l) l) l) l) (W'.setCell ⟨w.heap.size + 1, 7, none⟩ (.float .f64 (fltV (stp 5 (stp 4 (stp 3 (stp 2 (ev0 1, some (k + 1)) l) l) l) l).2 l)))) := ds_step (o := 7) (unhide HD) hs' hg' (by unfold EvO plcO; simp)
  obtain ⟨⟨uu, hcu⟩, hcf⟩ := ((unhide HD).gr hs' hg').c 7 (by omega)
  have hx0 := (unhide HD').x0
  have hsz : (W'.setCell ⟨w.heap.size + 1, 7, none⟩ (.float .f64 (fltV (stp 5 (stp 4 (stp 3 (stp 2 (ev0 1, some (k + 1)) l) l) l) l).2 l))).heap.size = W'.heap.size := by simp [World.setCell]
  clear hs' hg' HD
  go_wp2_with fail
  clear hcu hcf
  generalize (W'.setCell ⟨w.heap.size + 1, 7, none⟩ (.float .f64 (fltV (stp 5 (stp 4 (stp 3 (stp 2 (ev0 1, some (k + 1)) l) l) l) l).2 l))) = W0 at HD' hx0 hsz ⊢
  skip
  have HD := HD'
  clear HD' hsz
  refine (sTxt_any w W3.heap.size _ l _ _ (unhide HD).s).mono ?_
  rintro e W' ⟨rfl, hs', hg'⟩
  have HD' : Hid (DS w (.slice (some ⟨b, off, none⟩) l.length cap) l 1 g W3.heap.size (stp 8 (stp 7 (stp 5 (stp 4 (stp 3 (stp 2 (ev0 1, some (k + 1)) l) l) l) l) l) l) (W'.setCell ⟨w.heap.size + 1, 8, none⟩ (.string (txtV (stp 7 (stp 5 (stp 4 (stp 3 (stp 2 (ev0 1, some (k + 1)) l) l) l) l) l).2 l)))) := ds_step (o := 8) (unhide HD) hs' hg' (by unfold EvO plcO; simp)
  obtain ⟨⟨uu, hcu⟩, hcf⟩ := ((unhide HD).gr hs' hg').c 8 (by omega)
  have hx0 := (unhide HD').x0
  have hsz : (W'.setCell ⟨w.heap.size + 1, 8, none⟩ (.string (txtV (stp 7 (stp 5 (stp 4 (stp 3 (stp 2 (ev0 1, some (k + 1)) l) l) l) l) l).2 l))).heap.size = W'.heap.size := by simp [World.setCell]
  clear hs' hg' HD
  go_wp2_with fail
  clear hcu hcf
  generalize (W'.setCell ⟨w.heap.size + 1, 8, none⟩ (.string (txtV (stp 7 (stp 5 (stp 4 (stp 3 (stp 2 (ev0 1, some (k + 1)) l) l) l) l) l).2 l))) = W0 at HD' hx0 hsz ⊢
  rw [← hsz]
  have HD := HD'
  clear HD' hsz
  have HD9 := HD
  clear HD
  have hG1 : Below W0.heap.size W0 (W0.alloc (Obj.cells #[.int .i64 0, .int .i64 0, .int .i64 0, .int .i64 0, .int .i64 0] 3)) := (Below.refl _ _).alloc (Nat.le_refl _) _
  have HG0 : Hid (Bx (W0.alloc (Obj.cells #[.int .i64 0, .int .i64 0, .int .i64 0, .int .i64 0, .int .i64 0] 3)) W0.heap.size ([0, 0, 0, 0, 0].map (Value.int .i64))) := bx_made W0 _ 3
  have HDA := hide ((unhide HD9).below hG1)
  have hRG := (unhide HD9).s.lt
  have hFR := (unhide HD9).hR
  have hEF := (unhide HD9).hF
  clear hG1 HD9 hx0
  generalize (W0.alloc (Obj.cells #[.int .i64 0, .int .i64 0, .int .i64 0, .int .i64 0, .int .i64 0] 3)) = WA at HG0 HDA ⊢
  go_loopw [11] (fun iv wr => ∃ (i : Nat), i ≤ 5 ∧ iv = .int .i64 i ∧ Hid (DS w (.slice (some ⟨b, off, none⟩) l.length cap) l 1 g W3.heap.size ((stp 8 (stp 7 (stp 5 (stp 4 (stp 3 (stp 2 (ev0 1, some (k + 1)) l) l) l) l) l) l).1, (lpR (fldK 1) l (stp 8 (stp 7 (stp 5 (stp 4 (stp 3 (stp 2 (ev0 1, some (k + 1)) l) l) l) l) l) l).2 i).2) wr ∧ Bx wr W0.heap.size ((lpR (fldK 1) l (stp 8 (stp 7 (stp 5 (stp 4 (stp 3 (stp 2 (ev0 1, some (k + 1)) l) l) l) l) l) l).2 i).1.map (Value.int .i64)))) (fun iv _ => 5 - (intOf iv).toNat)
  case atStart => exact ⟨0, by omega, rfl, unhide HDA, unhide HG0⟩
  case round =>
    obtain ⟨i, hi, rfl, hin⟩ := hrel
    obtain ⟨hd, hG⟩ := unhide hin
    by_cases hlt : i < 5
    · have hff : wr.cell? ⟨g, i, none⟩ = some (.bool ((fldK 1).getD i false)) := bx_cell hd.f i (by rw [List.getElem?_map, List.getElem?_eq_getElem (by omega)]; simp [List.getD, show i < (fldK 1).length by omega])
      have hlt' : (i : Int) < 5 := by omega
      have HYes := hide (fun h => lpR_yes (fs := fldK 1) (l := l) (st := (stp 8 (stp 7 (stp 5 (stp 4 (stp 3 (stp 2 (ev0 1, some (k + 1)) l) l) l) l) l) l).2) (i := i) h)
      have HNo := hide (fun h => lpR_no (fs := fldK 1) (l := l) (st := (stp 8 (stp 7 (stp 5 (stp 4 (stp 3 (stp 2 (ev0 1, some (k + 1)) l) l) l) l) l) l).2) (i := i) h)
      have hgl5 := lpR_len (fldK 1) l (stp 8 (stp 7 (stp 5 (stp 4 (stp 3 (stp 2 (ev0 1, some (k + 1)) l) l) l) l) l) l).2 i
      generalize lpR (fldK 1) l (stp 8 (stp 7 (stp 5 (stp 4 (stp 3 (stp 2 (ev0 1, some (k + 1)) l) l) l) l) l) l).2 i = q at *
      obtain ⟨ns, st⟩ := q
      simp only at hgl5 hd hG
      have HD := hide hd
      have HG := hide hG
      clear hd hG hin
      cases hfv : (fldK 1).getD i false with
      | true =>
        rw [hfv] at hff
        have HY := hide (unhide HYes hfv)
        clear hfv HYes HNo
        go_wp2_with fail
        refine (sNum_any w W3.heap.size _ l st wr (unhide HD).s).mono ?_
        rintro e W' ⟨rfl, hs', hg'⟩
        have hD' := (unhide HD).gr hs' hg'
        have hG' := bx_gr (unhide HG) (by rw [List.length_map, hgl5]; decide) hg' (by omega)
        obtain ⟨old, hc1⟩ : ∃ old, W'.cell? ⟨W0.heap.size, i, none⟩ = some old := ⟨_, bx_cell hG' i (List.getElem?_eq_getElem (by rw [List.length_map, hgl5]; exact hlt))⟩
        have hc2 := bx_free hG' i (by rw [List.length_map, hgl5]; exact hlt)
        have HDn : Hid (DS w (.slice (some ⟨b, off, none⟩) l.length cap) l 1 g W3.heap.size ((stp 8 (stp 7 (stp 5 (stp 4 (stp 3 (stp 2 (ev0 1, some (k + 1)) l) l) l) l) l) l).1, numS st l) (W'.setCell ⟨W0.heap.size, i, none⟩ (.int .i64 (numV st l)))) :=
          ⟨hD'.s.other (by omega) (by omega), bx_other hD'.e (by omega), bx_other hD'.r (by omega), bx_other hD'.f (by omega), hD'.b.setCell (p := ⟨W0.heap.size, i, none⟩) (by show w.heap.size ≤ W0.heap.size; omega) _, hD'.k, hD'.hF, hD'.hR, hD'.n⟩
        have HGn : Hid (Bx (W'.setCell ⟨W0.heap.size, i, none⟩ (.int .i64 (numV st l))) W0.heap.size ((ns.set i (numV st l)).map (Value.int .i64))) := by
          have := bx_set (j := i) (u := .int .i64 (numV st l)) hG' (by rw [List.length_map, hgl5]; exact hlt)
          rwa [← List.map_set] at this
        clear hs' hg' hD' hG' HD HG
        go_wp2_with fail
        go_roundw
        case rel => exact ⟨i + 1, by omega, by go_num, by rw [unhide HY]; exact unhide HDn, by rw [unhide HY]; exact unhide HGn⟩
        case measure => simp [intOf]; omega
      | false =>
        rw [hfv] at hff
        have HY := hide (unhide HNo hfv)
        clear hfv HYes HNo
        go_wp2_with fail
        go_roundw
        case rel => exact ⟨i + 1, by omega, by go_num, by rw [unhide HY]; exact unhide HD, by rw [unhide HY]; exact unhide HG⟩
        case measure => simp [intOf]; omega
    · obtain rfl : i = 5 := by omega
      have hgl5 := lpR_len (fldK 1) l (stp 8 (stp 7 (stp 5 (stp 4 (stp 3 (stp 2 (ev0 1, some (k + 1)) l) l) l) l) l) l).2 5
      have HFE' : Hid ((finE (stp 8 (stp 7 (stp 5 (stp 4 (stp 3 (stp 2 (ev0 1, some (k + 1)) l) l) l) l) l) l).1 (lpR (fldK 1) l (stp 8 (stp 7 (stp 5 (stp 4 (stp 3 (stp 2 (ev0 1, some (k + 1)) l) l) l) l) l) l).2 5).1, (lpR (fldK 1) l (stp 8 (stp 7 (stp 5 (stp 4 (stp 3 (stp 2 (ev0 1, some (k + 1)) l) l) l) l) l) l).2 5).2) = spF (shF 1) (ev0 1, some (k + 1)) l) := unhide HFE
      generalize lpR (fldK 1) l (stp 8 (stp 7 (stp 5 (stp 4 (stp 3 (stp 2 (ev0 1, some (k + 1)) l) l) l) l) l) l).2 5 = q at *
      obtain ⟨ns, st⟩ := q
      simp only at hgl5 hd hG HFE'
      obtain ⟨kk, hsx, hsk⟩ := hd.s.x
      have c0 := bx_cell hsx 0 rfl
      have c1 := bx_cell hsx 1 rfl
      have c2 := bx_cell hsx 2 rfl
      have HRR := hide hd.r
      have HBW := hide hd.b
      have HG := hide hG
      have HD := hide hd
      clear hsx hG hd hin
      cases st with
      | none =>
        have HEE := hide (unhide HBD (by rw [← unhide HFE']))
        simp only [Option.isNone_none] at c2
        have z0 := bx_cell (unhide HRR) 0 rfl
        have fz0 := bx_free (unhide HRR) 0 (by simp)
        have z1 := bx_cell (unhide HRR) 1 rfl
        have fz1 := bx_free (unhide HRR) 1 (by simp)
        have z2 := bx_cell (unhide HRR) 2 rfl
        have fz2 := bx_free (unhide HRR) 2 (by simp)
        have z3 := bx_cell (unhide HRR) 3 rfl
        have fz3 := bx_free (unhide HRR) 3 (by simp)
        have z4 := bx_cell (unhide HRR) 4 rfl
        have fz4 := bx_free (unhide HRR) 4 (by simp)
        have z5 := bx_cell (unhide HRR) 5 rfl
        have fz5 := bx_free (unhide HRR) 5 (by simp)
        have z6 := bx_cell (unhide HRR) 6 rfl
        have fz6 := bx_free (unhide HRR) 6 (by simp)
        have z7 := bx_cell (unhide HRR) 7 rfl
        have fz7 := bx_free (unhide HRR) 7 (by simp)
        have z8 := bx_cell (unhide HRR) 8 rfl
        have fz8 := bx_free (unhide HRR) 8 (by simp)
        have z9 := bx_cell (unhide HRR) 9 rfl
        have fz9 := bx_free (unhide HRR) 9 (by simp)
        have z10 := bx_cell (unhide HRR) 10 rfl
        have fz10 := bx_free (unhide HRR) 10 (by simp)
        have z11 := bx_cell (unhide HRR) 11 rfl
        have fz11 := bx_free (unhide HRR) 11 (by simp)
        have z12 := bx_cell (unhide HRR) 12 rfl
        have fz12 := bx_free (unhide HRR) 12 (by simp)
        have z13 := bx_cell (unhide HRR) 13 rfl
        have fz13 := bx_free (unhide HRR) 13 (by simp)
        clear HFE HFE' HEN HBD
        go_wp2_with fail
        rw [set14]
        have HXF := hide (bx_setCells (us := [.int .i64 0, .int .i64 0, .int .i64 0, .int .i64 0, .int .i64 0, .int .i64 0, .int .i64 0, .float .f64 0, .string ⟨#[]⟩, .int .i64 0, .int .i64 0, .int .i64 0, .int .i64 0, .int .i64 0]) (unhide HRR) rfl)
        have HBF := hide (below_setCells w.heap.size (Nat.le_refl _) [.int .i64 0, .int .i64 0, .int .i64 0, .int .i64 0, .int .i64 0, .int .i64 0, .int .i64 0, .float .f64 0, .string ⟨#[]⟩, .int .i64 0, .int .i64 0, .int .i64 0, .int .i64 0, .int .i64 0] 0 _ (unhide HBW))
        generalize World.setCells _ w.heap.size 0 [.int .i64 0, .int .i64 0, .int .i64 0, .int .i64 0, .int .i64 0, .int .i64 0, .int .i64 0, .float .f64 0, .string ⟨#[]⟩, .int .i64 0, .int .i64 0, .int .i64 0, .int .i64 0, .int .i64 0] = WF at HXF HBF ⊢
        have d0 := bx_cell (unhide HXF) 0 rfl
        have d1 := bx_cell (unhide HXF) 1 rfl
        have d2 := bx_cell (unhide HXF) 2 rfl
        have d3 := bx_cell (unhide HXF) 3 rfl
        have d4 := bx_cell (unhide HXF) 4 rfl
        have d5 := bx_cell (unhide HXF) 5 rfl
        have d6 := bx_cell (unhide HXF) 6 rfl
        have d7 := bx_cell (unhide HXF) 7 rfl
        have d8 := bx_cell (unhide HXF) 8 rfl
        have d9 := bx_cell (unhide HXF) 9 rfl
        have d10 := bx_cell (unhide HXF) 10 rfl
        have d11 := bx_cell (unhide HXF) 11 rfl
        have d12 := bx_cell (unhide HXF) 12 rfl
        have d13 := bx_cell (unhide HXF) 13 rfl
        refine bodyPost_ret (v := .tuple #[evV zEv, .int .i64 0, .bool false]) ?_ rfl ⟨by rw [unhide HEE], unhide HBF⟩
        simp [results, Tryd.f24, go_sem, d0, d1, d2, d3, d4, d5, d6, d7, d8, d9, d10, d11, d12, d13, evV, zEv]
      | some n =>
        have HEE := hide (unhide HEN _ n (unhide HFE').symm)
        obtain ⟨rfl, _⟩ := hsk n rfl
        simp only [Option.isNone_some] at c2
        clear HFE HFE' HEN HBD hsk HRR HBW c0
        generalize (stp 8 (stp 7 (stp 5 (stp 4 (stp 3 (stp 2 (ev0 1, some (k + 1)) l) l) l) l) l) l).1 = pe at HD HEE
        have g0 : wr.cell? ⟨W0.heap.size, 0, none⟩ = some (.int .i64 (ns.getD 0 0)) := bx_cell (unhide HG) 0 (by rw [List.getElem?_map, List.getElem?_eq_getElem (by omega)]; simp [List.getD, show 0 < ns.length by omega])
        have g1 : wr.cell? ⟨W0.heap.size, 1, none⟩ = some (.int .i64 (ns.getD 1 0)) := bx_cell (unhide HG) 1 (by rw [List.getElem?_map, List.getElem?_eq_getElem (by omega)]; simp [List.getD, show 1 < ns.length by omega])
        have g2 : wr.cell? ⟨W0.heap.size, 2, none⟩ = some (.int .i64 (ns.getD 2 0)) := bx_cell (unhide HG) 2 (by rw [List.getElem?_map, List.getElem?_eq_getElem (by omega)]; simp [List.getD, show 2 < ns.length by omega])
        have g3 : wr.cell? ⟨W0.heap.size, 3, none⟩ = some (.int .i64 (ns.getD 3 0)) := bx_cell (unhide HG) 3 (by rw [List.getElem?_map, List.getElem?_eq_getElem (by omega)]; simp [List.getD, show 3 < ns.length by omega])
        have g4 : wr.cell? ⟨W0.heap.size, 4, none⟩ = some (.int .i64 (ns.getD 4 0)) := bx_cell (unhide HG) 4 (by rw [List.getElem?_map, List.getElem?_eq_getElem (by omega)]; simp [List.getD, show 4 < ns.length by omega])
        generalize hn0 : ns.getD 0 0 = a0 at *
        generalize hn1 : ns.getD 1 0 = a1 at *
        generalize hn2 : ns.getD 2 0 = a2 at *
        generalize hn3 : ns.getD 3 0 = a3 at *
        generalize hn4 : ns.getD 4 0 = a4 at *
        have hfin : finE pe ns = { pe with id := a0, other := a1, qty := a2, price := a3, reason := a4 } := by unfold finE; rw [hn0, hn1, hn2, hn3, hn4]
        have HDE : Hid (DS w (.slice (some ⟨b, off, none⟩) l.length cap) l 1 g W3.heap.size (finE pe ns, some n) (((((wr.setCell ⟨w.heap.size + 1, 9, none⟩ (.int .i64 a0)).setCell ⟨w.heap.size + 1, 10, none⟩ (.int .i64 a1)).setCell ⟨w.heap.size + 1, 11, none⟩ (.int .i64 a2)).setCell ⟨w.heap.size + 1, 12, none⟩ (.int .i64 a3)).setCell ⟨w.heap.size + 1, 13, none⟩ (.int .i64 a4))) := by
          rw [hfin]
          exact ((((((unhide HD).put (o := 9) (x := .int .i64 a0) (by unfold EvO plcO; simp) ⟨_, rfl⟩).put (o := 10) (x := .int .i64 a1) (by unfold EvO plcO; simp) ⟨_, rfl⟩).put (o := 11) (x := .int .i64 a2) (by unfold EvO plcO; simp) ⟨_, rfl⟩).put (o := 12) (x := .int .i64 a3) (by unfold EvO plcO; simp) ⟨_, rfl⟩).put (o := 13) (x := .int .i64 a4) (by unfold EvO plcO; simp) ⟨_, rfl⟩)
        obtain ⟨⟨u9, hu9⟩, hv9⟩ := (unhide HD).c 9 (by omega)
        obtain ⟨⟨u10, hu10⟩, hv10⟩ := (unhide HD).c 10 (by omega)
        obtain ⟨⟨u11, hu11⟩, hv11⟩ := (unhide HD).c 11 (by omega)
        obtain ⟨⟨u12, hu12⟩, hv12⟩ := (unhide HD).c 12 (by omega)
        obtain ⟨⟨u13, hu13⟩, hv13⟩ := (unhide HD).c 13 (by omega)
        clear hn0 hn1 hn2 hn3 hn4 hfin HG HD hgl5
        go_wp2_with fail
        clear hu9 hv9 hu10 hv10 hu11 hv11 hu12 hv12 hu13 hv13 g0 g1 g2 g3 g4 c1 c2
        generalize (((((wr.setCell ⟨w.heap.size + 1, 9, none⟩ (.int .i64 a0)).setCell ⟨w.heap.size + 1, 10, none⟩ (.int .i64 a1)).setCell ⟨w.heap.size + 1, 11, none⟩ (.int .i64 a2)).setCell ⟨w.heap.size + 1, 12, none⟩ (.int .i64 a3)).setCell ⟨w.heap.size + 1, 13, none⟩ (.int .i64 a4)) = WE at HDE ⊢
        generalize finE pe ns = x at HDE HEE
        obtain ⟨kind, ⟨ck, cs, ct, cl, cq, ci, cp, cg⟩, id, other, qty, price, reason⟩ := x
        obtain ⟨kk, hsx, hsk⟩ := (unhide HDE).s.x
        obtain ⟨rfl, _⟩ := hsk n rfl
        have c1 := bx_cell hsx 1 rfl
        have x0 := bx_cell ((unhide HDE).e) 0 rfl
        have x1 := bx_cell ((unhide HDE).e) 1 rfl
        have x2 := bx_cell ((unhide HDE).e) 2 rfl
        have x3 := bx_cell ((unhide HDE).e) 3 rfl
        have x4 := bx_cell ((unhide HDE).e) 4 rfl
        have x5 := bx_cell ((unhide HDE).e) 5 rfl
        have x6 := bx_cell ((unhide HDE).e) 6 rfl
        have x7 := bx_cell ((unhide HDE).e) 7 rfl
        have x8 := bx_cell ((unhide HDE).e) 8 rfl
        have x9 := bx_cell ((unhide HDE).e) 9 rfl
        have x10 := bx_cell ((unhide HDE).e) 10 rfl
        have x11 := bx_cell ((unhide HDE).e) 11 rfl
        have x12 := bx_cell ((unhide HDE).e) 12 rfl
        have x13 := bx_cell ((unhide HDE).e) 13 rfl
        have z0 := bx_cell ((unhide HDE).r) 0 rfl
        have fz0 := bx_free ((unhide HDE).r) 0 (by simp)
        have z1 := bx_cell ((unhide HDE).r) 1 rfl
        have fz1 := bx_free ((unhide HDE).r) 1 (by simp)
        have z2 := bx_cell ((unhide HDE).r) 2 rfl
        have fz2 := bx_free ((unhide HDE).r) 2 (by simp)
        have z3 := bx_cell ((unhide HDE).r) 3 rfl
        have fz3 := bx_free ((unhide HDE).r) 3 (by simp)
        have z4 := bx_cell ((unhide HDE).r) 4 rfl
        have fz4 := bx_free ((unhide HDE).r) 4 (by simp)
        have z5 := bx_cell ((unhide HDE).r) 5 rfl
        have fz5 := bx_free ((unhide HDE).r) 5 (by simp)
        have z6 := bx_cell ((unhide HDE).r) 6 rfl
        have fz6 := bx_free ((unhide HDE).r) 6 (by simp)
        have z7 := bx_cell ((unhide HDE).r) 7 rfl
        have fz7 := bx_free ((unhide HDE).r) 7 (by simp)
        have z8 := bx_cell ((unhide HDE).r) 8 rfl
        have fz8 := bx_free ((unhide HDE).r) 8 (by simp)
        have z9 := bx_cell ((unhide HDE).r) 9 rfl
        have fz9 := bx_free ((unhide HDE).r) 9 (by simp)
        have z10 := bx_cell ((unhide HDE).r) 10 rfl
        have fz10 := bx_free ((unhide HDE).r) 10 (by simp)
        have z11 := bx_cell ((unhide HDE).r) 11 rfl
        have fz11 := bx_free ((unhide HDE).r) 11 (by simp)
        have z12 := bx_cell ((unhide HDE).r) 12 rfl
        have fz12 := bx_free ((unhide HDE).r) 12 (by simp)
        have z13 := bx_cell ((unhide HDE).r) 13 rfl
        have fz13 := bx_free ((unhide HDE).r) 13 (by simp)
        have HXF := hide (bx_setCells (us := [.int .i64 kind, .int .i64 ck, .int .i64 cs, .int .i64 ct, .int .i64 cl, .int .i64 cq, .int .i64 ci, .float .f64 cp, .string cg, .int .i64 id, .int .i64 other, .int .i64 qty, .int .i64 price, .int .i64 reason]) (unhide HDE).r rfl)
        have HBF := hide (below_setCells w.heap.size (Nat.le_refl _) [.int .i64 kind, .int .i64 ck, .int .i64 cs, .int .i64 ct, .int .i64 cl, .int .i64 cq, .int .i64 ci, .float .f64 cp, .string cg, .int .i64 id, .int .i64 other, .int .i64 qty, .int .i64 price, .int .i64 reason] 0 WE (unhide HDE).b)
        clear hsx hsk HDE
        go_region_with (fail)
        all_goals try go_wp2_with fail
        all_goals
          rw [set14]
          generalize (WE.setCells w.heap.size 0 [.int .i64 kind, .int .i64 ck, .int .i64 cs, .int .i64 ct, .int .i64 cl, .int .i64 cq, .int .i64 ci, .float .f64 cp, .string cg, .int .i64 id, .int .i64 other, .int .i64 qty, .int .i64 price, .int .i64 reason]) = WF at HXF HBF ⊢
          have d0 := bx_cell (bx_drew (unhide HXF)) 0 rfl
          have d1 := bx_cell (bx_drew (unhide HXF)) 1 rfl
          have d2 := bx_cell (bx_drew (unhide HXF)) 2 rfl
          have d3 := bx_cell (bx_drew (unhide HXF)) 3 rfl
          have d4 := bx_cell (bx_drew (unhide HXF)) 4 rfl
          have d5 := bx_cell (bx_drew (unhide HXF)) 5 rfl
          have d6 := bx_cell (bx_drew (unhide HXF)) 6 rfl
          have d7 := bx_cell (bx_drew (unhide HXF)) 7 rfl
          have d8 := bx_cell (bx_drew (unhide HXF)) 8 rfl
          have d9 := bx_cell (bx_drew (unhide HXF)) 9 rfl
          have d10 := bx_cell (bx_drew (unhide HXF)) 10 rfl
          have d11 := bx_cell (bx_drew (unhide HXF)) 11 rfl
          have d12 := bx_cell (bx_drew (unhide HXF)) 12 rfl
          have d13 := bx_cell (bx_drew (unhide HXF)) 13 rfl
          refine bodyPost_ret (v := .tuple #[evV ⟨kind, ⟨ck, cs, ct, cl, cq, ci, cp, cg⟩, id, other, qty, price, reason⟩, .int .i64 n, .bool true]) ?_ rfl ⟨by rw [unhide HEE], (unhide HBF).drew⟩
          simp [results, Tryd.f24, go_sem, d0, d1, d2, d3, d4, d5, d6, d7, d8, d9, d10, d11, d12, d13, evV]
end Go.Proofs.YtfhjbhnfapdmmaaDoor
