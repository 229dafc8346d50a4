/-
  Whether an event is right, by the program: proved by walking the function.
-/
import Derived.Test.YtmeekcdoajbjdaaGreatDoorGj20
import Derived.Test.YtmeekcdoajbjdaaGreatDoorGj23
import Derived.Test.YtmeekcdoajbjdaaGreatDoorGj24
namespace Go.Proofs.YtmeekcdoajbjdaaGreatDoor
open Go.RowKit
set_option linter.unusedVariables false

theorem ite_okb (p : Prop) [Decidable p] (b : Bool) (W : World) : (if p then Result.ok (Value.bool b) W else Result.ok (Value.bool false) W) = Result.ok (Value.bool (decide p && b)) W := by
  split <;> simp_all
theorem eqVlE (a b : Ev) (W : World) : (binOp .eql 76 (vlV a) (vlV b)).run Tryz.prog W = .ok (.bool (sameE a b)) W := by
  obtain ⟨ak, ⟨a1, a2, a3, a4, a5, a6, a7, a8⟩, a9, a10, a11, a12, a13⟩ := a
  obtain ⟨bk, ⟨b1, b2, b3, b4, b5, b6, b7, b8⟩, b9, b10, b11, b12, b13⟩ := b
  unfold vlV
  simp only
  go_simp
  unfold sameE
  simp only
  have h7 : ((fbit a7 : Int) = fbit b7) ↔ fbit a7 = fbit b7 := by omega
  simp only [h7, ite_okb, Bool.and_true]
  rfl
theorem eqGdE (a b : Ev) (W : World) : (eqGuard .eql 76 (.tmp 22) (.tmp 24) (vlV a) (vlV b)).run Tryz.prog W = .ok () W := by
  unfold vlV
  go_simp
set_option maxRecDepth 100000 in
set_option maxHeartbeats 3200000 in
theorem implOK_any (e : Ev) (he : e.fit) (w : World) (hE : ErrT w) : Calls Tryz.prog 30 #[evV e] w fun r w' => r = .returned (.bool (okE e)) ∧ Below w.heap.size w w' := by
  have hsf := sfl
  have hb0 : Below w.heap.size w (w.alloc (Obj.cells e.vs.toArray 46)) := (Below.refl _ _).alloc (Nat.le_refl _) _
  have HX1 := hide (bx_made w e.vs 46)
  have HZ1 : Hid ((w.alloc (Obj.cells e.vs.toArray 46)).heap.size = w.heap.size + 1) := by show _ = _; simp
  have HE1 := hide (errT_below hE hb0 (Nat.le_refl _))
  have HB1 := hide hb0
  have HAD := hide (fun (hk : 1 ≤ e.kind ∧ e.kind ≤ 9) W => addEvent_any e he hk W.heap.size (.slice none 0 0) [] W (Nat.le_refl _) (World.ownsRow_nil _ _ _ _) (by simp))
  have HEV := hide (fun (hk : 1 ≤ e.kind ∧ e.kind ≤ 9) => evA_wr e he ((shF_ne e.kind).2 hk) [])
  have HLN := hide (evL_len e he)
  have HBT := hide (evL_bts e)
  have HQ := hide (fun (hk : 1 ≤ e.kind ∧ e.kind ≤ 9) => okE_eq e hk)
  have HNO : Hid (¬ (1 ≤ e.kind ∧ e.kind ≤ 9) → okE e = false) := fun h => by
    unfold okE
    rw [if_pos (by unfold fldK; rw [if_neg (by omega), if_neg (by omega), if_neg (by omega), if_neg (by omega), if_neg (by omega)])]
  have HVA := hide (fun W => valueOf_any e W)
  have HVB := hide (fun W => valueOf_any (bkE e) W)
  have HSM := hide (fun W => eqVlE (bkE e) e W)
  have HGD := hide (fun W => eqGdE (bkE e) e W)
  have hke := shF_ne e.kind
  clear he hb0
  generalize okE e = ok at *
  generalize bkE e = b at *
  generalize evL e = L at *
  have HVE : Hid (evV e = .agg e.vs.toArray) := rfl
  generalize sameE b e = sm at *
  generalize vlV e = vl at *
  generalize vlV b = vb at *
  obtain ⟨kind, ⟨ck, cs, ct, cl, cq, ci, cp, cg⟩, id, other, qty, price, reason⟩ := e
  unfold evV at HVA HAD ⊢
  unfold Ev.vs at HX1 HZ1 HE1 HB1
  simp only at HVA HAD HX1 HZ1 HE1 HB1 hke HEV HBT HQ HNO ⊢
  go_enter Tryz.func30, Tryz.ntmps30
  refine wp_seq_k fun K hK => ?_
  have HK1 := hide hK
  clear hK
  go_wp2_with fail
  refine unhide HK1 _ _ ?_
  clear HK1
  generalize (w.alloc (Obj.cells #[.int .i64 kind, .int .i64 ck, .int .i64 cs, .int .i64 ct, .int .i64 cl, .int .i64 cq, .int .i64 ci, .float .f64 cp, .string cg, .int .i64 id, .int .i64 other, .int .i64 qty, .int .i64 price, .int .i64 reason] 46)) = W1 at HX1 HZ1 HE1 HB1 ⊢
  have x0 := bx_cell (unhide HX1) 0 rfl
  go_wp2_with fail
  refine (shape_any kind W1).mono ?_
  rintro r W2 ⟨fv, fs, rfl, hof, hff, hb2⟩
  have hlen2 := (ffs_get hff).1
  obtain ⟨fa, fcap, rfl, hfl, hrow⟩ := hof
  clear hff hrow
  have HB2 := hide hb2
  clear hb2
  go_wp2_with fail
  refine (isKind_any (shC kind) fa fs.length fcap W2).mono ?_
  rintro r W3 ⟨rfl, hb3⟩
  have HB3 := hide ((unhide HB2).trans (hb3.mono (unhide HB2).size))
  clear hb3
  by_cases hk : 1 ≤ kind ∧ kind ≤ 9
  · have hpos : decide (0 < fs.length) = true := by
      rw [← hlen2, decide_eq_true_iff]
      exact List.length_pos_iff.2 (hke.2 hk)
    rw [hpos]
    have hX3 := bx_below (unhide HX1) (unhide HB3) (by rw [unhide HZ1]; omega)
    have z0 := bx_cell hX3 0 rfl
    have z1 := bx_cell hX3 1 rfl
    have z2 := bx_cell hX3 2 rfl
    have z3 := bx_cell hX3 3 rfl
    have z4 := bx_cell hX3 4 rfl
    have z5 := bx_cell hX3 5 rfl
    have z6 := bx_cell hX3 6 rfl
    have z7 := bx_cell hX3 7 rfl
    have z8 := bx_cell hX3 8 rfl
    have z9 := bx_cell hX3 9 rfl
    have z10 := bx_cell hX3 10 rfl
    have z11 := bx_cell hX3 11 rfl
    have z12 := bx_cell hX3 12 rfl
    have z13 := bx_cell hX3 13 rfl
    have HX3 := hide hX3
    have HW3 := hide ((unhide HB1).trans ((unhide HB3).mono (unhide HB1).size))
    have HE3 := hide (errT_below (unhide HE1) (unhide HB3) (Nat.le_refl _))
    have HAD3 := hide (unhide HAD hk W3)
    have hz3 : w.heap.size < W3.heap.size := by have := (unhide HB3).size; rw [unhide HZ1] at this; omega
    clear hX3 hpos HB2 HB3 HX1 HE1 HB1 hlen2 hfl x0
    go_wp2_with fail
    refine (unhide HAD3).mono ?_
    rintro r W4 ⟨v4, rfl, hr4, hg4, hq4⟩
    rw [List.nil_append] at hr4
    have hln := unhide HLN
    have hot := bRow_own hr4 hln.1 (by omega)
    have hb4 : Below W3.heap.size W3 W4 := ⟨hg4.os, hg4.tape, hg4.output, hg4.size, fun i hi => hg4.block i hi (by simp [Value.ownBlock])⟩
    have HDC := hide (implDecode_any v4 L 0 W4 (own_rd hot.own) (capOk_own hot) (unhide HBT hk) (errT_below (unhide HE3) hb4 (Nat.le_refl _)))
    have her : evR L 0 = (b, ((L.length : Nat) : Int), 0) := evR_some (k := 0) (by omega) (by omega) (by have := unhide HEV hk; rwa [List.append_nil] at this)
    rw [her] at HDC
    have HX4 := hide (bx_below (unhide HX3) hb4 hz3)
    have HW4 := hide ((unhide HW3).trans (hb4.mono (unhide HW3).size))
    have hz4 : w.heap.size < W4.heap.size := Nat.lt_of_lt_of_le hz3 hb4.size
    clear hr4 hg4 hq4 hot hb4 her HE3 HAD3 HX3 HW3 hz3 z0 z1 z2 z3 z4 z5 z6 z7 z8 z9 z10 z11 z12 z13
    go_wp2_with fail
    refine (unhide HDC).mono ?_
    rintro r W5 ⟨rfl, hb5⟩
    unfold tupE
    have hX5 := bx_below (unhide HX4) hb5 hz4
    have HW5 := hide ((unhide HW4).trans (hb5.mono (unhide HW4).size))
    have hz5 : w.heap.size < W5.heap.size := Nat.lt_of_lt_of_le hz4 hb5.size
    obtain ⟨kind', ⟨ck', cs', ct', cl', cq', ci', cp', cg'⟩, id', other', qty', price', reason'⟩ := b
    unfold evV at HVB ⊢
    simp only at HVB ⊢
    have hb6 : Below W5.heap.size W5 (W5.alloc (Obj.cells #[.int .i64 kind', .int .i64 ck', .int .i64 cs', .int .i64 ct', .int .i64 cl', .int .i64 cq', .int .i64 ci', .float .f64 cp', .string cg', .int .i64 id', .int .i64 other', .int .i64 qty', .int .i64 price', .int .i64 reason'] 46)) := (Below.refl _ _).alloc (Nat.le_refl _) _
    have HY6 : Hid (Bx (W5.alloc (Obj.cells #[.int .i64 kind', .int .i64 ck', .int .i64 cs', .int .i64 ct', .int .i64 cl', .int .i64 cq', .int .i64 ci', .float .f64 cp', .string cg', .int .i64 id', .int .i64 other', .int .i64 qty', .int .i64 price', .int .i64 reason'] 46)) W5.heap.size [.int .i64 kind', .int .i64 ck', .int .i64 cs', .int .i64 ct', .int .i64 cl', .int .i64 cq', .int .i64 ci', .float .f64 cp', .string cg', .int .i64 id', .int .i64 other', .int .i64 qty', .int .i64 price', .int .i64 reason']) := bx_made W5 [.int .i64 kind', .int .i64 ck', .int .i64 cs', .int .i64 ct', .int .i64 cl', .int .i64 cq', .int .i64 ci', .float .f64 cp', .string cg', .int .i64 id', .int .i64 other', .int .i64 qty', .int .i64 price', .int .i64 reason'] 46
    have HX6 := hide (bx_below hX5 hb6 hz5)
    have HW6 := hide ((unhide HW5).trans (hb6.mono (unhide HW5).size))
    have HZ6 : Hid ((W5.alloc (Obj.cells #[.int .i64 kind', .int .i64 ck', .int .i64 cs', .int .i64 ct', .int .i64 cl', .int .i64 cq', .int .i64 ci', .float .f64 cp', .string cg', .int .i64 id', .int .i64 other', .int .i64 qty', .int .i64 price', .int .i64 reason'] 46)).heap.size = W5.heap.size + 1) := by show _ = _; simp
    clear hb5 hb6 hX5 HX4 HW4 HW5 hz4 HDC
    go_wp2_with fail
    generalize (W5.alloc (Obj.cells #[.int .i64 kind', .int .i64 ck', .int .i64 cs', .int .i64 ct', .int .i64 cl', .int .i64 cq', .int .i64 ci', .float .f64 cp', .string cg', .int .i64 id', .int .i64 other', .int .i64 qty', .int .i64 price', .int .i64 reason'] 46)) = W6 at HY6 HX6 HW6 HZ6 ⊢
    have HCB : Hid (Calls Tryz.prog 44 #[.agg #[.int .i64 kind', .int .i64 ck', .int .i64 cs', .int .i64 ct', .int .i64 cl', .int .i64 cq', .int .i64 ci', .float .f64 cp', .string cg', .int .i64 id', .int .i64 other', .int .i64 qty', .int .i64 price', .int .i64 reason']] W6.drew fun r W7 => r = .returned vb ∧ Bx W7 w.heap.size [.int .i64 kind, .int .i64 ck, .int .i64 cs, .int .i64 ct, .int .i64 cl, .int .i64 cq, .int .i64 ci, .float .f64 cp, .string cg, .int .i64 id, .int .i64 other, .int .i64 qty, .int .i64 price, .int .i64 reason] ∧ Below w.heap.size w W7) := by
      refine (unhide HVB W6.drew).mono ?_
      rintro r W7 ⟨rfl, hb7⟩
      exact ⟨rfl, bx_below (bx_drew (unhide HX6)) hb7 (by show w.heap.size < W6.heap.size; rw [unhide HZ6]; omega), (unhide HW6).drew.trans (hb7.mono (unhide HW6).drew.size)⟩
    have x0 := bx_cell (unhide HX6) 0 rfl
    have x1 := bx_cell (unhide HX6) 1 rfl
    have x2 := bx_cell (unhide HX6) 2 rfl
    have x3 := bx_cell (unhide HX6) 3 rfl
    have x4 := bx_cell (unhide HX6) 4 rfl
    have x5 := bx_cell (unhide HX6) 5 rfl
    have x6 := bx_cell (unhide HX6) 6 rfl
    have x7 := bx_cell (unhide HX6) 7 rfl
    have x8 := bx_cell (unhide HX6) 8 rfl
    have x9 := bx_cell (unhide HX6) 9 rfl
    have x10 := bx_cell (unhide HX6) 10 rfl
    have x11 := bx_cell (unhide HX6) 11 rfl
    have x12 := bx_cell (unhide HX6) 12 rfl
    have x13 := bx_cell (unhide HX6) 13 rfl
    have y0 := bx_cell (unhide HY6) 0 rfl
    have y1 := bx_cell (unhide HY6) 1 rfl
    have y2 := bx_cell (unhide HY6) 2 rfl
    have y3 := bx_cell (unhide HY6) 3 rfl
    have y4 := bx_cell (unhide HY6) 4 rfl
    have y5 := bx_cell (unhide HY6) 5 rfl
    have y6 := bx_cell (unhide HY6) 6 rfl
    have y7 := bx_cell (unhide HY6) 7 rfl
    have y8 := bx_cell (unhide HY6) 8 rfl
    have y9 := bx_cell (unhide HY6) 9 rfl
    have y10 := bx_cell (unhide HY6) 10 rfl
    have y11 := bx_cell (unhide HY6) 11 rfl
    have y12 := bx_cell (unhide HY6) 12 rfl
    have y13 := bx_cell (unhide HY6) 13 rfl
    have hsm := fun W => unhide HSM W
    have hgd := fun W => unhide HGD W
    have HQQ := hide (unhide HQ hk)
    clear HY6 HX6 HVB
    go_region_with (go_at_call 44; first | (with_reducible refine (unhide HCB).mono ?_; rintro r W7 ⟨rfl, hX7, hW7⟩; have HW7 := hide hW7; have g0 := bx_cell hX7 0 rfl; have g1 := bx_cell hX7 1 rfl; have g2 := bx_cell hX7 2 rfl; have g3 := bx_cell hX7 3 rfl; have g4 := bx_cell hX7 4 rfl; have g5 := bx_cell hX7 5 rfl; have g6 := bx_cell hX7 6 rfl; have g7 := bx_cell hX7 7 rfl; have g8 := bx_cell hX7 8 rfl; have g9 := bx_cell hX7 9 rfl; have g10 := bx_cell hX7 10 rfl; have g11 := bx_cell hX7 11 rfl; have g12 := bx_cell hX7 12 rfl; have g13 := bx_cell hX7 13 rfl; clear hX7 hW7) | (refine (unhide HVA _).mono ?_; rintro r W8 ⟨rfl, hb8⟩; have HW8 := hide ((unhide HW7).trans (hb8.mono (unhide HW7).size)); clear hb8))
    all_goals try go_wp2_with fail
    all_goals
      refine bodyPost_ret (v := .bool sm) ?_ rfl ⟨by rw [unhide HQQ], unhide HW8⟩
      simp [results, Tryz.f30, go_sem]
  · have hpos : decide (0 < fs.length) = false := by
      rw [← hlen2, decide_eq_false_iff_not]
      intro h
      exact hk (hke.1 (List.length_pos_iff.1 h))
    rw [hpos]
    go_wp2_with fail
    go_ret
    exact ⟨by rw [unhide HNO hk]; rfl, (unhide HB1).trans ((unhide HB3).mono (unhide HB1).size)⟩
end Go.Proofs.YtmeekcdoajbjdaaGreatDoor
