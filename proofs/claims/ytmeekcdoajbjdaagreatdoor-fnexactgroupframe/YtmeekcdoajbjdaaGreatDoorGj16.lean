/-
  An event read by the program: proved by walking the functions.
-/
import Derived.Test.YtmeekcdoajbjdaaGreatDoorGj12
import Derived.Test.YtmeekcdoajbjdaaGreatDoorGj13
namespace Go.Proofs.YtmeekcdoajbjdaaGreatDoor
open Go.RowKit
set_option linter.unusedVariables false

theorem isKind_any (c : Int) (a : Option Addr) (n cap : Nat) (w : World) : Calls Tryz.prog 42 #[.agg #[.int .i64 c, .slice a n cap]] w fun e w' => e = .returned (.bool (decide (0 < n))) ∧ Below w.heap.size w w' := by
  go_enter Tryz.func42, Tryz.ntmps42
  go_wp2_with fail
  go_ret
  exact ⟨rfl, by go_grown⟩
theorem bel_gr {w W : World} (h : Below w.heap.size w W) (R : Nat) : w.grownBy W (some R) := ⟨h.os, h.tape, h.output, h.size, fun i hi _ => h.block i hi⟩
theorem gr_bel {w W V : World} {R : Nat} (h : w.grownBy W (some R)) (h2 : Below W.heap.size W V) : w.grownBy V (some R) := gr_trans h (bel_gr h2 R)
theorem ff_gr {F o R : Nat} {W W' : World} {c : Fc} (h : FF W F o c) (hb : W.grownBy W' (some R)) (hR : R < F) : FF W' F o c := by
  unfold FF at h ⊢
  split
  · rwa [if_pos ‹_›] at h
  · rw [if_neg ‹_›] at h
    split
    · rwa [if_pos ‹_›] at h
    · rw [if_neg ‹_›] at h
      obtain ⟨b, h1, h2, h3, h4⟩ := h
      exact ⟨b, h1, h2, Nat.lt_of_lt_of_le h3 hb.size, hb.cell h4 (by simp; omega)⟩
set_option maxRecDepth 100000 in
set_option maxHeartbeats 3200000 in
theorem event_any (wb : World) (R : Nat) (v : Value) (l : List Int) (k : Nat) (w : World) (hs : RS wb R v l k w) :
    Calls Tryz.prog 63 #[.pointer (some ⟨R, 0, none⟩)] w fun e w' => EvEnd R v w (evA l k) e w' := by
  have hsf := sfl
  have hsfn := sfn
  have hRw := hs.lt
  have hlen : (l.length : Int) ≤ 65536 := by have := hs.ll; omega
  have hkl := hs.kk
  have HB1 : Hid (Below w.heap.size w (w.alloc (Obj.cells #[.int .i64 0, .int .i64 0, .int .i64 0, .int .i64 0, .int .i64 0, .int .i64 0, .int .i64 0, .float .f64 0, .string ⟨#[]⟩, .int .i64 0, .int .i64 0, .int .i64 0, .int .i64 0, .int .i64 0] 46))) := (Below.refl _ _).alloc (Nat.le_refl _) _
  have HX1 := hide (bx_made w [.int .i64 0, .int .i64 0, .int .i64 0, .int .i64 0, .int .i64 0, .int .i64 0, .int .i64 0, .float .f64 0, .string ⟨#[]⟩, .int .i64 0, .int .i64 0, .int .i64 0, .int .i64 0, .int .i64 0] 46)
  have HS1 := hide (hs.below (unhide HB1) hRw)
  have HZ1 : Hid ((w.alloc (Obj.cells #[.int .i64 0, .int .i64 0, .int .i64 0, .int .i64 0, .int .i64 0, .int .i64 0, .int .i64 0, .float .f64 0, .string ⟨#[]⟩, .int .i64 0, .int .i64 0, .int .i64 0, .int .i64 0, .int .i64 0] 46)).heap.size = w.heap.size + 1) := by show _ = _; simp
  have HS := hide hs
  clear hs
  rw [show [Value.int .i64 0, .int .i64 0, .int .i64 0, .int .i64 0, .int .i64 0, .int .i64 0, .int .i64 0, .float .f64 0, .string ⟨#[]⟩, .int .i64 0, .int .i64 0, .int .i64 0, .int .i64 0, .int .i64 0].toArray = #[.int .i64 0, .int .i64 0, .int .i64 0, .int .i64 0, .int .i64 0, .int .i64 0, .int .i64 0, .float .f64 0, .string ⟨#[]⟩, .int .i64 0, .int .i64 0, .int .i64 0, .int .i64 0, .int .i64 0] from rfl] at HX1
  obtain ⟨a, cap, hv⟩ := rd_len (unhide HS).rd
  go_enter Tryz.func63, Tryz.ntmps63
  go_wp2_with fail
  generalize (w.alloc (Obj.cells #[.int .i64 0, .int .i64 0, .int .i64 0, .int .i64 0, .int .i64 0, .int .i64 0, .int .i64 0, .float .f64 0, .string ⟨#[]⟩, .int .i64 0, .int .i64 0, .int .i64 0, .int .i64 0, .int .i64 0] 46)) = W1 at HB1 HX1 HS1 HZ1 ⊢
  by_cases hend : l.length ≤ k
  · have HE := hide (evA_end hend)
    have HR := hide (hv ▸ (unhide HS1).r)
    refine (take_end R 1 k a l.length cap _ (unhide HR) (by omega) (by omega) (by omega) (by omega) (by omega)).mono ?_
    rintro e w1 ⟨rfl, q, rfl⟩
    go_wp2_with fail
    exact ⟨rfl, evEnd_fail (gr_trans (bel_gr (unhide HB1) R) (gr_drewN _ _ _)) (unhide HE) _⟩
  clear hv
  obtain ⟨b, off, cap', rfl, hbw, hcap, hcell⟩ : ∃ b off cap', v = .slice (some ⟨b, off, none⟩) l.length cap' ∧ b < wb.heap.size ∧ l.length ≤ cap' ∧ W1.cell? ⟨b, off + k, none⟩ = some (.int .u8 (l.getD k 0)) := by
    obtain ⟨a', c', hv', _, hc⟩ := (unhide HS1).rd
    obtain ⟨b, off, rfl, hcell⟩ := hc (by intro h; rw [h] at hend; simp at hend)
    have hb1 := World.block_lt_of_cell? wb _ (hcell 0 (by omega))
    exact ⟨b, off, c', hv', hb1, (unhide HS1).cap _ _ _ hv', ((unhide HS1).bel.cell (p := ⟨b, off + k, none⟩) hb1).trans (hcell k (by omega))⟩
  have HR := hide (unhide HS1).r
  refine (take_ok R 1 k b off l.length cap' _ (unhide HR) (by omega) (by omega) hcap (by omega)).mono ?_
  rintro e w2 ⟨rfl, q, rfl⟩
  have hgs := gr_trans (gr_set W1 ⟨R, 1, none⟩ (.int .i64 ((k + 1 : Nat) : Int))) (gr_drewN _ q _)
  have HG2 := hide (gr_trans (bel_gr (unhide HB1) R) hgs)
  have HS2 := hide ((unhide HS1).go hgs (((unhide HS1).r.step ((k + 1 : Nat) : Int)).drewN q) (by omega))
  have HX2 := hide (bx_blk (unhide HX1) (hgs.block w.heap.size (by rw [unhide HZ1]; omega) (by simp; omega)))
  have HZ2 : Hid (w.heap.size < ((W1.setCell ⟨R, 1, none⟩ (.int .i64 ((k + 1 : Nat) : Int))).drewN q).heap.size) := Nat.lt_of_lt_of_le (by rw [unhide HZ1]; omega) hgs.size
  have hcell2 := hgs.cell hcell (by have := (unhide HS1).le; simp; omega)
  have hbt := bts_get (unhide HS).bb k
  have HSh := hide (fun (h : shF (l.getD k 0) = []) => evA_no (by omega) h)
  have HYe := hide (fun (h : shF (l.getD k 0) ≠ []) => evA_yes (by omega) h)
  clear hgs HS1 HX1 HB1 HR hcell HZ1 HS
  generalize (W1.setCell ⟨R, 1, none⟩ (.int .i64 ((k + 1 : Nat) : Int))).drewN q = W2 at HG2 HS2 HX2 HZ2 hcell2 ⊢
  generalize l.getD k 0 = kd at *
  obtain ⟨hk0, hk1⟩ := hbt
  go_wp2_with fail
  refine (shape_any kd W2).mono ?_
  rintro e W3 ⟨fv, fs, rfl, hof, hff, hb3⟩
  have hz2 := unhide HZ2
  have hlen2 := (ffs_get hff).1
  have HO3 := hide hof
  have HF3 := hide hff
  have hS3 := (unhide HS2).below hb3 (unhide HS2).lt
  have hX3 := bx_below (unhide HX2) hb3 hz2
  have hG3 := gr_bel (unhide HG2) hb3
  have hz3 := Nat.lt_of_lt_of_le hz2 hb3.size
  obtain ⟨fa, fcap, rfl, hfl, hrow⟩ := hof
  have hb4 : Below W3.heap.size W3 (W3.alloc (Obj.cells #[.int .i64 (shC kd), .slice fa fs.length fcap] 70)) := (Below.refl _ _).alloc (Nat.le_refl _) _
  have HX4 := hide (bx_made W3 [.int .i64 (shC kd), .slice fa fs.length fcap] 70)
  have HS4 := hide (hS3.below hb4 hS3.lt)
  have HX4r := hide (bx_below hX3 hb4 hz3)
  have HG4 := hide (gr_bel hG3 hb4)
  have HO4 := hide (ownR_below (unhide HO3) hb4 (Nat.le_refl _))
  have HF4 := hide (fun (o : Nat) (c : Fc) (h : FF W3 W2.heap.size o c) => ff_below h hb4 (Nat.le_refl _))
  have HZ4 : Hid (W3.heap.size < (W3.alloc (Obj.cells #[.int .i64 (shC kd), .slice fa fs.length fcap] 70)).heap.size) := by show _ < _; simp
  rw [show [Value.int .i64 (shC kd), .slice fa fs.length fcap].toArray = #[.int .i64 (shC kd), .slice fa fs.length fcap] from rfl] at HX4
  clear hff hb3 hS3 hX3 hG3 hrow hb4 HS2 HX2 HG2 HO3
  go_wp2_with fail
  generalize (W3.alloc (Obj.cells #[.int .i64 (shC kd), .slice fa fs.length fcap] 70)) = W4 at HX4 HS4 HX4r HG4 HO4 HF4 HZ4 ⊢
  refine (isKind_any (shC kd) fa fs.length fcap W4).mono ?_
  rintro e W5 ⟨rfl, hb5⟩
  have hz4 := unhide HZ4
  have HS5 := hide ((unhide HS4).below hb5 (unhide HS4).lt)
  have HX5r := hide (bx_below (unhide HX4r) hb5 (by omega))
  have HX5 := hide (bx_below (unhide HX4) hb5 hz4)
  have HG5 := hide (gr_bel (unhide HG4) hb5)
  have HO5 := hide (ownR_below (unhide HO4) hb5 (Nat.le_refl _))
  have HF5 := hide (fun (o : Nat) (c : Fc) (h : FF W3 W2.heap.size o c) => ff_below (unhide HF4 o c h) hb5 (Nat.le_refl _))
  have HZ5 := hide (Nat.lt_of_lt_of_le hz4 hb5.size)
  clear hb5 HS4 HX4r HX4 HG4 HO4 HF4 HZ4 hz4
  by_cases hne : fs.length = 0
  · have HE := hide (unhide HSh (List.length_eq_zero_iff.1 (hlen2.trans hne)))
    have HR := hide (unhide HS5).r
    rw [hne]
    go_wp2_with fail
    refine (fail_any R 3 _ _ _ (unhide HR)).mono ?_
    rintro e w6 ⟨rfl, rfl⟩
    go_wp2_with fail
    exact ⟨rfl, evEnd_fail (unhide HG5) (unhide HE) _⟩
  have hpos : decide (0 < fs.length) = true := by simpa using Nat.pos_of_ne_zero hne
  have c50 := bx_cell (unhide HX5) 0 rfl
  rw [hpos]
  have HYE := hide (unhide HYe (by intro h; rw [h] at hlen2; exact hne hlen2.symm))
  have hb6 : Below W5.heap.size W5 (W5.alloc (Obj.cells #[.int .i64 kd, .int .i64 (shC kd), .int .i64 0, .int .i64 0, .int .i64 0, .int .i64 0, .int .i64 0, .float .f64 0, .string ⟨#[]⟩, .int .i64 0, .int .i64 0, .int .i64 0, .int .i64 0, .int .i64 0] 46)) := (Below.refl _ _).alloc (Nat.le_refl _) _
  have HX6 : Hid (Bx (W5.alloc (Obj.cells #[.int .i64 kd, .int .i64 (shC kd), .int .i64 0, .int .i64 0, .int .i64 0, .int .i64 0, .int .i64 0, .float .f64 0, .string ⟨#[]⟩, .int .i64 0, .int .i64 0, .int .i64 0, .int .i64 0, .int .i64 0] 46)) W5.heap.size (ev0 kd).vs) := bx_made W5 (ev0 kd).vs 46
  have HS6 := hide ((unhide HS5).below hb6 (unhide HS5).lt)
  have HG6 := hide (bel_gr hb6 R)
  have c51 := bx_cell (bx_below (unhide HX5) hb6 (unhide HZ5)) 1 rfl
  clear hb6 hpos
  go_wp2_with fail
  generalize (W5.alloc (Obj.cells #[.int .i64 kd, .int .i64 (shC kd), .int .i64 0, .int .i64 0, .int .i64 0, .int .i64 0, .int .i64 0, .float .f64 0, .string ⟨#[]⟩, .int .i64 0, .int .i64 0, .int .i64 0, .int .i64 0, .int .i64 0] 46)) = W6 at HX6 HS6 HG6 c51 ⊢
  go_loopw [28] (fun iv wr => ∃ (i n : Nat) (x : Ev), iv = .int .i64 i ∧ i ≤ fs.length ∧ W5.grownBy wr (some R) ∧ RS wb R (.slice (some ⟨b, off, none⟩) l.length cap') l n wr ∧ Bx wr W5.heap.size x.vs ∧ rdEs ((shF kd).drop i) x l n = evA l k) (fun iv _ => fs.length - (intOf iv).toNat)
  case atStart => exact ⟨0, k + 1, ev0 kd, rfl, Nat.zero_le _, unhide HG6, unhide HS6, unhide HX6, (unhide HYE).symm⟩
  case round =>
    obtain ⟨i, n, x, rfl, hi, hg, hs, hx, hrd⟩ := hrel
    have HG := hide hg
    have HS := hide hs
    have HX := hide hx
    have HRD := hide hrd
    clear hg hs hx hrd
    by_cases hlt : i < fs.length
    · obtain ⟨c, hic⟩ : ∃ c, fs[i]? = some c := ⟨_, List.getElem?_eq_getElem hlt⟩
      obtain ⟨o, hio, hfo⟩ := (ffs_get (unhide HF3)).2 i c hic
      have hfo5 := unhide HF5 o c hfo
      obtain ⟨a7, c7, e7, _, hrow⟩ := unhide HO5
      simp only [Value.slice.injEq] at e7
      obtain ⟨rfl, _, rfl⟩ := e7
      obtain ⟨g, rfl, hg0, hg1, hcells, _⟩ := hrow (by intro h; rw [h] at hlt; simp at hlt)
      have hR5 := (unhide HS5).lt
      have hRF : R < W2.heap.size := Nat.lt_trans hRw (unhide HZ2)
      have hgr : g ≠ R := by omega
      have q0 := (unhide HG).cell (hcells i c hic 0 _ rfl) (by simp; omega)
      have q1 := (unhide HG).cell (hcells i c hic 1 _ rfl) (by simp; omega)
      simp only [Nat.zero_add, Nat.add_zero] at q0 q1
      have hen := fun args V => (field_enter _ o c W5 hfo5 args V).1
      have hEV := shF_evO kd o (List.mem_of_getElem? hio)
      have hlt' : (i : Int) < fs.length := by omega
      have hd := List.drop_eq_getElem_cons (show i < (shF kd).length by rw [hlen2]; exact hlt)
      rw [(List.getElem?_eq_some_iff.1 hio).2] at hd
      obtain ⟨n1, n2, cl⟩ := c
      have hba : Below wr.heap.size wr (wr.alloc (Obj.cells #[.func (.func n1) #[] cl, .func (.func n2) #[] cl] 80)) := (Below.refl _ _).alloc (Nat.le_refl _) _
      have hEw : W5.heap.size < wr.heap.size := by
        obtain ⟨y, hy⟩ := Option.isSome_iff_exists.1 ((unhide HX).t 0 (by rw [Ev.len]; decide)).1
        exact World.block_lt_of_cell? wr _ hy
      have HCT := hide (readField_any wb w W2.heap.size R W5.heap.size o ⟨n1, n2, cl⟩ _ l n x.vs _ ((unhide HS).below hba (unhide HS).lt) (bx_below (unhide HX) hba hEw) hR5 (Ev.len x) hEV (ff_below (ff_gr hfo5 (unhide HG) hRF) hba (Nat.le_refl _)) hRF)
      have HGA := hide (gr_bel (unhide HG) hba)
      have HD := hide hd
      have HEV := hide hEV
      clear hcells hic hio hfo hfo5 hd hba hEV
      simp only at hen HCT
      go_wp2_with fail
      refine (unhide HCT).mono ?_
      rintro e w7 hFd
      cases hg : rdF o l n with
      | none =>
        obtain ⟨p, rfl⟩ := hFd.2.2 hg
        have HE := hide (((unhide HRD).symm.trans (by rw [unhide HD])).trans (rdEs_none (os := (shF kd).drop (i + 1)) (e := x) hg))
        have HG7 := hide (gr_trans (unhide HG5) (gr2_on (unhide HGA) hFd.1 (Nat.le_refl _)))
        clear hFd hg
        go_wp2_with fail
        exact ⟨rfl, evEnd_fail (unhide HG7) (unhide HE) _⟩
      | some y =>
        obtain ⟨y, m⟩ := y
        obtain ⟨rfl, hs7, hx7⟩ := hFd.2.1 y m hg
        have HE := hide (((unhide HRD).symm.trans (by rw [unhide HD])).trans (rdEs_some (os := (shF kd).drop (i + 1)) (e := x) hg))
        have HG7 := hide (gr2_on (unhide HGA) hFd.1 (Nat.le_refl _))
        rw [evs_put x (unhide HEV) (rdF_ty hg)] at hx7
        have HS7 := hide hs7
        have HX7 := hide hx7
        clear hFd hg hs7 hx7
        go_wp2_with fail
        go_roundw
        case rel => exact ⟨i + 1, m, x.put o y, by go_num, by omega, unhide HG7, unhide HS7, unhide HX7, (unhide HE).symm⟩
        case measure => simp [intOf]; omega
    · have hi' : i = fs.length := by omega
      have HE : Hid (evA l k = some (x, n)) := by
        show evA l k = _
        rw [← unhide HRD, List.drop_eq_nil_of_le (by omega)]
        rfl
      have hxr := unhide HX
      obtain ⟨kind, ⟨ck, cs, ct, cl, cq, ci, cp, cg⟩, id, other, qty, price, reason⟩ := x
      have d0 := bx_cell hxr 0 rfl
      have d1 := bx_cell hxr 1 rfl
      have d2 := bx_cell hxr 2 rfl
      have d3 := bx_cell hxr 3 rfl
      have d4 := bx_cell hxr 4 rfl
      have d5 := bx_cell hxr 5 rfl
      have d6 := bx_cell hxr 6 rfl
      have d7 := bx_cell hxr 7 rfl
      have d8 := bx_cell hxr 8 rfl
      have d9 := bx_cell hxr 9 rfl
      have d10 := bx_cell hxr 10 rfl
      have d11 := bx_cell hxr 11 rfl
      have d12 := bx_cell hxr 12 rfl
      have d13 := bx_cell hxr 13 rfl
      have HXR := hide (bx_blk (unhide HX5r) ((unhide HG).block w.heap.size (Nat.lt_trans hz3 (unhide HZ5)) (by simp; omega)))
      have HRN := hide (unhide HS).r
      have HGW := hide (gr_trans (unhide HG5) (unhide HG))
      clear hxr HRD
      have z0 := bx_cell (unhide HXR) 0 rfl
      have f0 := bx_free (unhide HXR) 0 (by decide)
      have z1 := bx_cell (unhide HXR) 1 rfl
      have f1 := bx_free (unhide HXR) 1 (by decide)
      have z2 := bx_cell (unhide HXR) 2 rfl
      have f2 := bx_free (unhide HXR) 2 (by decide)
      have z3 := bx_cell (unhide HXR) 3 rfl
      have f3 := bx_free (unhide HXR) 3 (by decide)
      have z4 := bx_cell (unhide HXR) 4 rfl
      have f4 := bx_free (unhide HXR) 4 (by decide)
      have z5 := bx_cell (unhide HXR) 5 rfl
      have f5 := bx_free (unhide HXR) 5 (by decide)
      have z6 := bx_cell (unhide HXR) 6 rfl
      have f6 := bx_free (unhide HXR) 6 (by decide)
      have z7 := bx_cell (unhide HXR) 7 rfl
      have f7 := bx_free (unhide HXR) 7 (by decide)
      have z8 := bx_cell (unhide HXR) 8 rfl
      have f8 := bx_free (unhide HXR) 8 (by decide)
      have z9 := bx_cell (unhide HXR) 9 rfl
      have f9 := bx_free (unhide HXR) 9 (by decide)
      have z10 := bx_cell (unhide HXR) 10 rfl
      have f10 := bx_free (unhide HXR) 10 (by decide)
      have z11 := bx_cell (unhide HXR) 11 rfl
      have f11 := bx_free (unhide HXR) 11 (by decide)
      have z12 := bx_cell (unhide HXR) 12 rfl
      have f12 := bx_free (unhide HXR) 12 (by decide)
      have z13 := bx_cell (unhide HXR) 13 rfl
      have f13 := bx_free (unhide HXR) 13 (by decide)
      clear HX5 HX5r HO5 HF5 c50 c51 HX6 HS6 HG6 hcell2 HS5 HX
      go_wp2_with fail
      rw [set14]
      have HXF := hide (bx_setCells (us := [.int .i64 kind, .int .i64 ck, .int .i64 cs, .int .i64 ct, .int .i64 cl, .int .i64 cq, .int .i64 ci, .float .f64 cp, .string cg, .int .i64 id, .int .i64 other, .int .i64 qty, .int .i64 price, .int .i64 reason]) (unhide HXR) rfl)
      have HQ := hide (evEnd_done (gr_setCells [.int .i64 kind, .int .i64 ck, .int .i64 cs, .int .i64 ct, .int .i64 cl, .int .i64 cq, .int .i64 ci, .float .f64 cp, .string cg, .int .i64 id, .int .i64 other, .int .i64 qty, .int .i64 price, .int .i64 reason] (unhide HGW) (Nat.le_refl w.heap.size)) (unhide HE) (rdr_setCells [.int .i64 kind, .int .i64 ck, .int .i64 cs, .int .i64 ct, .int .i64 cl, .int .i64 cq, .int .i64 ci, .float .f64 cp, .string cg, .int .i64 id, .int .i64 other, .int .i64 qty, .int .i64 price, .int .i64 reason] (unhide HRN) (by omega)))
      clear z0 f0 z1 f1 z2 f2 z3 f3 z4 f4 z5 f5 z6 f6 z7 f7 z8 f8 z9 f9 z10 f10 z11 f11 z12 f12 z13 f13 d0 d1 d2 d3 d4 d5 d6 d7 d8 d9 d10 d11 d12 d13 HXR
      generalize (wr.setCells w.heap.size 0 [.int .i64 kind, .int .i64 ck, .int .i64 cs, .int .i64 ct, .int .i64 cl, .int .i64 cq, .int .i64 ci, .float .f64 cp, .string cg, .int .i64 id, .int .i64 other, .int .i64 qty, .int .i64 price, .int .i64 reason]) = WF at HXF HQ ⊢
      have d0 := bx_cell (unhide HXF) 0 rfl
      have d1 := bx_cell (unhide HXF) 1 rfl
      have d2 := bx_cell (unhide HXF) 2 rfl
      have d3 := bx_cell (unhide HXF) 3 rfl
      have d4 := bx_cell (unhide HXF) 4 rfl
      have d5 := bx_cell (unhide HXF) 5 rfl
      have d6 := bx_cell (unhide HXF) 6 rfl
      have d7 := bx_cell (unhide HXF) 7 rfl
      have d8 := bx_cell (unhide HXF) 8 rfl
      have d9 := bx_cell (unhide HXF) 9 rfl
      have d10 := bx_cell (unhide HXF) 10 rfl
      have d11 := bx_cell (unhide HXF) 11 rfl
      have d12 := bx_cell (unhide HXF) 12 rfl
      have d13 := bx_cell (unhide HXF) 13 rfl
      refine bodyPost_ret (v := evV ⟨kind, ⟨ck, cs, ct, cl, cq, ci, cp, cg⟩, id, other, qty, price, reason⟩) ?_ rfl (unhide HQ)
      simp [results, Tryz.f63, go_sem, d0, d1, d2, d3, d4, d5, d6, d7, d8, d9, d10, d11, d12, d13, evV]
end Go.Proofs.YtmeekcdoajbjdaaGreatDoor
