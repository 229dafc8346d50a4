/-
  The bytes of an event laid behind others, by the program: proved by walking the function.
-/
import Derived.Test.YtmeekcdoajbjdaaGreatDoorGj15
import Derived.Test.YtmeekcdoajbjdaaGreatDoorGj16
import Derived.Test.YtmeekcdoajbjdaaGreatDoorGj17
namespace Go.Proofs.YtmeekcdoajbjdaaGreatDoor
open Go.RowKit
set_option linter.unusedVariables false

/-- The bytes of an event. -/
def evL (e : Ev) : List Int := e.kind :: (shF e.kind).flatMap (wrF e)
theorem textL_le (s : ByteArray) : (textL s).length ≤ 23 := by
  have h2 := cutB_size s
  have h3 := putU_len10 (zz (cutB s).size) (zz_lt _ (by omega) (by omega))
  rw [textL, List.length_append, bl_len]
  omega
theorem wrF_len (e : Ev) (he : e.fit) (o : Nat) : 0 < (wrF e o).length ∧ (wrF e o).length ≤ 23 := by
  unfold wrF
  split
  · rw [fl8_len]; omega
  · split
    · exact ⟨(textL_len _).1, textL_le _⟩
    · exact ⟨putU_pos _, Nat.le_trans (putU_len10 _ (zz_lt _ (he.n o).1 (he.n o).2)) (by omega)⟩
theorem flat_le (e : Ev) (he : e.fit) : ∀ os : List Nat, (os.flatMap (wrF e)).length ≤ 23 * os.length
  | [] => by simp
  | o :: os => by
    have := flat_le e he os
    have := (wrF_len e he o).2
    rw [List.flatMap_cons, List.length_append, List.length_cons]
    omega
theorem shF_len (k : Int) : (shF k).length ≤ 9 := by
  unfold shF
  repeat' split
  all_goals simp
/-- What stands while the fields are written. -/
structure AE (w Ws Wt : World) (v0 : Value) (wr : World) (ov : Value) : Prop where
  g : w.grownBy wr v0.ownBlock
  o : ∀ q, ov.ownBlock = some q → v0.ownBlock = some q ∨ (w.heap.size < q ∧ (q < Ws.heap.size ∨ Wt.heap.size ≤ q))
  k : ∀ i, i < Wt.heap.size → (i = w.heap.size ∨ Ws.heap.size ≤ i) → wr.heap[i]? = Wt.heap[i]?
  z : Wt.heap.size ≤ wr.heap.size
theorem ae_below {w Ws Wt wr wr' : World} {v0 ov : Value} (h : AE w Ws Wt v0 wr ov) (hb : Below wr.heap.size wr wr') : AE w Ws Wt v0 wr' ov :=
  ⟨⟨hb.os.trans h.g.os, hb.tape.trans h.g.tape, hb.output.trans h.g.output, Nat.le_trans h.g.size hb.size, fun i hi hn => (hb.block i (Nat.lt_of_lt_of_le hi h.g.size)).trans (h.g.block i hi hn)⟩,
   h.o, fun i hi hk => (hb.block i (Nat.lt_of_lt_of_le hi h.z)).trans (h.k i hi hk), Nat.le_trans h.z hb.size⟩
theorem ae_append {w Ws Wt wr wr' : World} {v0 ov v' : Value} (h : AE w Ws Wt v0 wr ov) (h0 : ∀ q, v0.ownBlock = some q → q < w.heap.size) (hws : w.heap.size < Ws.heap.size) (hst : Ws.heap.size ≤ Wt.heap.size) (hg : wr.grownBy wr' ov.ownBlock) (ha : v'.ownBlock = ov.ownBlock ∨ v'.ownBlock = some wr.heap.size) : AE w Ws Wt v0 wr' v' := by
  refine ⟨⟨hg.os.trans h.g.os, hg.tape.trans h.g.tape, hg.output.trans h.g.output, Nat.le_trans h.g.size hg.size, fun i hi hn => ?_⟩, fun q hq => ?_, fun i hi hk => ?_, Nat.le_trans h.z hg.size⟩
  · refine (hg.block i (Nat.lt_of_lt_of_le hi h.g.size) fun e => ?_).trans (h.g.block i hi hn)
    rcases h.o i e.symm with h1 | ⟨h1, _⟩
    · exact hn h1.symm
    · omega
  · rcases ha with ha | ha
    · exact h.o q (ha ▸ hq)
    · rw [ha] at hq
      obtain rfl : wr.heap.size = q := by simpa using hq
      exact .inr ⟨by have := h.z; omega, .inr h.z⟩
  · refine (hg.block i (Nat.lt_of_lt_of_le hi h.z) fun e => ?_).trans (h.k i hi hk)
    rcases h.o i e.symm with h1 | ⟨h1, h2⟩
    · have := h0 i h1; omega
    · omega
theorem ff_blk {F o : Nat} {W W' : World} {c : Fc} (h : FF W F o c) (hs : W.heap.size ≤ W'.heap.size) (hb : ∀ i, i < W.heap.size → F ≤ i → W'.heap[i]? = W.heap[i]?) : FF W' F o c := by
  unfold FF at h ⊢
  split
  · rwa [if_pos ‹_›] at h
  · rw [if_neg ‹_›] at h
    split
    · rwa [if_pos ‹_›] at h
    · rw [if_neg ‹_›] at h
      obtain ⟨b, h1, h2, h3, h4⟩ := h
      exact ⟨b, h1, h2, Nat.lt_of_lt_of_le h3 hs, (World.cell?_of_block (a := ⟨b, 0, none⟩) (hb b h3 h2)).trans h4⟩
theorem fld_shape (c : Int) (a : Option Addr) (n cap : Nat) (W : World) : (Instr.field 70 (.agg #[.int .i64 c, .slice a n cap]) 1).run Tryz.prog W = .ok (.slice a n cap) W := by kernel_rfl
/-- How the laying of an event's bytes ends. -/
def AdEnd (B : Nat) (v0 : Value) (l : List Int) (w : World) (r : Ending) (w' : World) : Prop :=
  ∃ v, r = .returned v ∧ BRow w' B v l ∧ w.grownBy w' v0.ownBlock ∧ ∀ q, v.ownBlock = some q → v0.ownBlock = some q ∨ w.heap.size < q
theorem adEnd_done {B : Nat} {v0 ov : Value} {l : List Int} {w Ws Wt wr : World} (hr : BRow wr B ov l) (h : AE w Ws Wt v0 wr ov) : AdEnd B v0 l w (.returned ov) wr :=
  ⟨ov, rfl, hr, h.g, fun q hq => (h.o q hq).imp (fun h => h) fun h => h.1⟩
set_option maxRecDepth 100000 in
set_option maxHeartbeats 3200000 in
theorem addEvent_any (e : Ev) (he : e.fit) (hk : 1 ≤ e.kind ∧ e.kind ≤ 9) (B : Nat) (v0 : Value) (l0 : List Int) (w : World) (hB : B ≤ w.heap.size) (hrow : BRow w B v0 l0) (hl0 : l0.length ≤ 1048576) :
    Calls Tryz.prog 32 #[v0, evV e] w fun r w' => AdEnd B v0 (l0 ++ evL e) w r w' := by
  have hsf := sfl
  have hsfn := sfn
  have hfld := fld_shape
  obtain ⟨i0, hi0, hz0, hz1, hz2⟩ := info_parts Tryz.infoByte
  have h0 : ∀ q, v0.ownBlock = some q → q < w.heap.size := fun q hq => (hrow.lt q hq).2
  have HFit := hide he
  have HKd := hide hk
  have HB1 : Hid (Below w.heap.size w (w.alloc (Obj.cells e.vs.toArray 46))) := (Below.refl _ _).alloc (Nat.le_refl _) _
  have HX1 := hide (bx_made w e.vs 46)
  have HZ1 : Hid ((w.alloc (Obj.cells e.vs.toArray 46)).heap.size = w.heap.size + 1) := by show _ = _; simp
  have HR1 := hide (bRow_below hrow (unhide HB1))
  have HWF := hide (fun F o c W h1 h2 => writeField_any F o c e W he h1 h2)
  have HWL := hide (wrF_len e he)
  have HFL := hide (flat_le e he)
  have hk0 : 0 ≤ e.kind := by omega
  have hk1 : e.kind ≤ 255 := by omega
  clear he hk hrow
  have HEL := hide (show evL e = e.kind :: (shF e.kind).flatMap (wrF e) from rfl)
  generalize evL e = EL at *
  generalize wrF e = wf at *
  obtain ⟨kind, ⟨ck, cs, ct, cl, cq, ci, cp, cg⟩, id, other, qty, price, reason⟩ := e
  unfold evV at HWF ⊢
  unfold Ev.vs at HB1 HX1 HZ1 HR1
  simp only at HWF HB1 HX1 HZ1 HR1 HEL hk0 hk1 ⊢
  go_enter Tryz.func32, Tryz.ntmps32
  refine wp_seq_k fun K hK => ?_
  have HK1 := hide hK
  clear hK
  go_wp2_with fail
  refine unhide HK1 _ _ ?_
  clear HK1
  generalize (w.alloc (Obj.cells #[.int .i64 kind, .int .i64 ck, .int .i64 cs, .int .i64 ct, .int .i64 cl, .int .i64 cq, .int .i64 ci, .float .f64 cp, .string cg, .int .i64 id, .int .i64 other, .int .i64 qty, .int .i64 price, .int .i64 reason] 46)) = X at HB1 HX1 HZ1 HR1 ⊢
  have x0 := bx_cell (unhide HX1) 0 rfl
  have HBA : Hid (Below X.heap.size X (X.alloc (Obj.cells #[.int .u8 kind] 5))) := (Below.refl _ _).alloc (Nat.le_refl _) _
  have HOT : Hid (OwnT X.heap.size (X.alloc (Obj.cells #[.int .u8 kind] 5)) (.slice (some ⟨X.heap.size, 0, none⟩) 1 1) [kind]) := ⟨X.heap.size, 1, #[.int .u8 kind], 5, rfl, Nat.le_refl _, heap_alloc_new _ _, Nat.le_refl _, Nat.le_refl _, by unfold maxLen; omega, by simp, rfl⟩
  have HRA := hide (bRow_below (unhide HR1) (unhide HBA))
  have HZA : Hid ((X.alloc (Obj.cells #[.int .u8 kind] 5)).heap.size = w.heap.size + 2) := by show _ = _; simp [unhide HZ1]
  refine wp_seq_k fun K hK => ?_
  have HK1 := hide hK
  clear hK
  go_wp2_with (at_builtin; go_must (refine wpList_append_ot _ rfl (.tmp 7) (.tmp 11) 24 rfl B i0 Tryz.underlying24 hi0 hz0 hz1 hz2 _ l0 rfl (unhide HRA) X.heap.size _ [kind] rfl (unhide HOT) (by simp; omega) (by have := unhide HZA; omega) ?_); intro v1 w1 hr1 hg1 ha1)
  have hxz := unhide HZA
  have hgA : w.grownBy w1 v0.ownBlock := by
    have hb := (unhide HB1).trans ((unhide HBA).mono (unhide HB1).size)
    exact ⟨hg1.os.trans hb.os, hg1.tape.trans hb.tape, hg1.output.trans hb.output, Nat.le_trans hb.size hg1.size, fun i hi hn => (hg1.block i (by omega) hn).trans (hb.block i hi)⟩
  have hX2 : Bx w1 w.heap.size [.int .i64 kind, .int .i64 ck, .int .i64 cs, .int .i64 ct, .int .i64 cl, .int .i64 cq, .int .i64 ci, .float .f64 cp, .string cg, .int .i64 id, .int .i64 other, .int .i64 qty, .int .i64 price, .int .i64 reason] := bx_blk (bx_below (unhide HX1) (unhide HBA) (by rw [unhide HZ1]; omega)) (hg1.block w.heap.size (by omega) (fun e => absurd (h0 _ e.symm) (Nat.lt_irrefl _)))
  have hw1 : w.heap.size + 2 ≤ w1.heap.size := by have := hg1.size; omega
  have hv1 : ∀ q, v1.ownBlock = some q → v0.ownBlock = some q ∨ (w.heap.size < q ∧ q < w1.heap.size) := fun q hq => by
    rcases ha1 with ha | ha
    · exact .inl (ha ▸ hq)
    · refine .inr ⟨?_, (hr1.lt q hq).2⟩
      rw [ha] at hq
      have : (X.alloc (Obj.cells #[.int .u8 kind] 5)).heap.size = q := by simpa using hq
      omega
  refine unhide HK1 _ _ ?_
  have x1 := bx_cell hX2 0 rfl
  have HGA := hide hgA
  have HX2 := hide hX2
  have HV1 := hide hv1
  have HR2 := hide hr1
  clear HK1 hg1 ha1 hgA hX2 hv1 hr1 HB1 HX1 HZ1 HR1 HBA HOT HRA HZA x0 hxz
  go_wp2_with fail
  refine (shape_any kind w1).mono ?_
  rintro r W3 ⟨fv, fs, rfl, hof, hff, hb3⟩
  have hlen2 := (ffs_get hff).1
  have HF3 := hide hff
  have HO3 := hide hof
  have HR3 := hide (bRow_below (unhide HR2) hb3)
  have HAE : Hid (AE w w1 W3 v0 W3 v1) := ⟨⟨hb3.os.trans (unhide HGA).os, hb3.tape.trans (unhide HGA).tape, hb3.output.trans (unhide HGA).output, Nat.le_trans (unhide HGA).size hb3.size, fun i hi hn => (hb3.block i (by omega)).trans ((unhide HGA).block i hi hn)⟩,
    fun q hq => (unhide HV1 q hq).imp (fun h => h) fun h => ⟨h.1, .inl h.2⟩, fun _ _ _ => rfl, Nat.le_refl _⟩
  have HX3 := hide (bx_below (unhide HX2) hb3 (by omega))
  have hst := hb3.size
  obtain ⟨fa, fcap, rfl, hfl, hrow⟩ := hof
  clear hff hb3 HR2 HGA HV1 HX2 x1 hrow
  go_wp2_with fail
  go_loopw [0, 18] (fun ov iv wr => ∃ (k : Nat), k ≤ fs.length ∧ iv = .int .i64 k ∧ Hid (BRow wr B ov (l0 ++ [kind] ++ ((shF kind).take k).flatMap wf) ∧ AE w w1 W3 v0 wr ov)) (fun _ iv _ => fs.length - (intOf iv).toNat)
  case atStart => exact ⟨0, Nat.zero_le _, rfl, by rw [List.take_zero, List.flatMap_nil, List.append_nil]; exact unhide HR3, unhide HAE⟩
  case round =>
    obtain ⟨k, hk, rfl, hin⟩ := hrel
    by_cases hlt : k < fs.length
    · obtain ⟨c, hic⟩ : ∃ c, fs[k]? = some c := ⟨_, List.getElem?_eq_getElem hlt⟩
      obtain ⟨o, hio, hfo⟩ := (ffs_get (unhide HF3)).2 k c hic
      obtain ⟨hrw, hae⟩ := unhide hin
      have hfw := ff_blk hfo hae.z (fun i hi hF => hae.k i hi (.inr hF))
      obtain ⟨a7, c7, e7, _, hrow⟩ := unhide HO3
      simp only [Value.slice.injEq] at e7
      obtain ⟨rfl, _, rfl⟩ := e7
      obtain ⟨g, rfl, hg0, hg1, hcells, _⟩ := hrow (by intro h; rw [h] at hlt; simp at hlt)
      have hgb := hae.k g hg1 (.inr hg0)
      have q0 : wr.cell? ⟨g, 0 + k * 2 + 0, none⟩ = _ := (World.cell?_of_block (a := ⟨g, 0 + k * 2 + 0, none⟩) hgb).trans (hcells k c hic 0 _ rfl)
      have q1 : wr.cell? ⟨g, 0 + k * 2 + 1, none⟩ = _ := (World.cell?_of_block (a := ⟨g, 0 + k * 2 + 1, none⟩) hgb).trans (hcells k c hic 1 _ rfl)
      simp only [Nat.zero_add, Nat.add_zero] at q0 q1
      have hen := fun args V => (field_enter _ o c wr hfw args V).2
      have hEV := shF_evO kind o (List.mem_of_getElem? hio)
      have hlt' : (k : Int) < fs.length := by omega
      have HD : Hid ((shF kind).take (k + 1) = (shF kind).take k ++ [o]) := by
        show (shF kind).take (k + 1) = _
        rw [List.take_add_one, hio]
        rfl
      obtain ⟨n1, n2, fl⟩ := c
      have hba : Below wr.heap.size wr (wr.alloc (Obj.cells #[.func (.func n1) #[] fl, .func (.func n2) #[] fl] 80)) := (Below.refl _ _).alloc (Nat.le_refl _) _
      have hXw : Bx wr w.heap.size [.int .i64 kind, .int .i64 ck, .int .i64 cs, .int .i64 ct, .int .i64 cl, .int .i64 cq, .int .i64 ci, .float .f64 cp, .string cg, .int .i64 id, .int .i64 other, .int .i64 qty, .int .i64 price, .int .i64 reason] := bx_blk (unhide HX3) (hae.k w.heap.size (by omega) (.inl rfl))
      have hX := bx_below hXw hba (by have := hae.z; omega)
      have z0 := bx_cell hX 0 rfl
      have z1 := bx_cell hX 1 rfl
      have z2 := bx_cell hX 2 rfl
      have z3 := bx_cell hX 3 rfl
      have z4 := bx_cell hX 4 rfl
      have z5 := bx_cell hX 5 rfl
      have z6 := bx_cell hX 6 rfl
      have z7 := bx_cell hX 7 rfl
      have z8 := bx_cell hX 8 rfl
      have z9 := bx_cell hX 9 rfl
      have z10 := bx_cell hX 10 rfl
      have z11 := bx_cell hX 11 rfl
      have z12 := bx_cell hX 12 rfl
      have z13 := bx_cell hX 13 rfl
      have HCT := hide (unhide HWF w1.heap.size o ⟨n1, n2, fl⟩ _ hEV (ff_below hfw hba (Nat.le_refl _)))
      have HRW := hide (bRow_below hrw hba)
      have HAW := hide (ae_below hae hba)
      have hL := Nat.le_trans (unhide HFL ((shF kind).take k)) (Nat.mul_le_mul_left 23 (Nat.le_trans (List.length_take_le _ _) (Nat.le_refl k)))
      have hk9 : k ≤ 9 := Nat.le_trans hk (by rw [← hlen2]; exact shF_len kind)
      have hLL : (l0 ++ [kind] ++ ((shF kind).take k).flatMap wf).length ≤ 1048784 := by
        rw [List.length_append, List.length_append, List.length_singleton]; omega
      have hLO := (unhide HWL o)
      have HZR := hide hae.z
      clear hcells hic hio hfo hfw hba hEV hin hrw hae hX hXw hL hrow hgb
      simp only at hen HCT
      generalize hLD : l0 ++ [kind] ++ ((shF kind).take k).flatMap wf = L at *
      have HLD := hide hLD
      clear hLD
      go_wp2_with fail
      refine (unhide HCT).mono ?_
      rintro r w4 ⟨v4, rfl, ho4, hb4⟩
      have HR4 := hide (bRow_below (unhide HRW) hb4)
      have HA4 := hide (ae_below (unhide HAW) hb4)
      have HO4 := hide ho4
      have hB4 : B ≤ w4.heap.size := by have := (unhide HA4).z; omega
      have HN : Hid (l0 ++ [kind] ++ ((shF kind).take (k + 1)).flatMap wf = L ++ wf o) := by
        show l0 ++ [kind] ++ ((shF kind).take (k + 1)).flatMap wf = L ++ wf o
        rw [unhide HD, List.flatMap_append, ← List.append_assoc, unhide HLD]
        simp
      clear ho4 hb4 HRW HAW HCT z0 z1 z2 z3 z4 z5 z6 z7 z8 z9 z10 z11 z12 z13 q0 q1 hen
      go_wp2_with (at_builtin; go_must (refine wpList_append_ot _ rfl (.tmp 22) (.tmp 26) 24 rfl B i0 Tryz.underlying24 hi0 hz0 hz1 hz2 _ L rfl (unhide HR4) _ _ (wf o) rfl (unhide HO4) (by omega) hB4 ?_); intro v5 w5 hr5 hg5 ha5; have HR5 := hide hr5; have HA5 := hide (ae_append (unhide HA4) h0 (by omega) hst hg5 ha5); clear hr5 hg5 ha5)
      go_roundw
      case rel => exact ⟨k + 1, by omega, by go_num, by rw [unhide HN]; exact unhide HR5, unhide HA5⟩
      case measure => simp [intOf]; omega
    · obtain ⟨hrw, hae⟩ := unhide hin
      have hk' : k = fs.length := by omega
      rw [List.take_of_length_le (by omega), List.append_assoc, show [kind] ++ (shF kind).flatMap wf = EL from (unhide HEL).symm] at hrw
      have HE := hide (adEnd_done hrw hae)
      clear hrw hae hin
      go_wp2_with fail
      go_ret
      exact unhide HE
end Go.Proofs.YtmeekcdoajbjdaaGreatDoor
