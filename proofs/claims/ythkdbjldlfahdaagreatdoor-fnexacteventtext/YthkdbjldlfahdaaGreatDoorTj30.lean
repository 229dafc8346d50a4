/-
  The text of an event, by the model: proved by walking the function.
-/
import Derived.Test.YthkdbjldlfahdaaGreatDoorTj26
import Derived.Test.YthkdbjldlfahdaaGreatDoorTj27
import Derived.Test.YthkdbjldlfahdaaGreatDoorTj28
import Derived.Test.YthkdbjldlfahdaaGreatDoorTj29
import Derived.Lib.QuietBelow
namespace Go.Proofs.YthkdbjldlfahdaaGreatDoor
open Go.RowKit
set_option linter.unusedVariables false

set_option maxRecDepth 100000 in
set_option maxHeartbeats 3200000 in
theorem textS3_any (e : Ev) (w : World) (he : e.fit) (hk : e.kind = 3) : Calls Tryz.prog 10 #[evV e] w fun r w' => r = .returned (.string (txE e)) ∧ Below w.heap.size w w' := by
  have n9 := he.n 9
  have n10 := he.n 10
  have n11 := he.n 11
  have n12 := he.n 12
  have n13 := he.n 13
  clear he
  obtain ⟨kind, ⟨ck, cs, ct, cl, cq, ci, cp, cg⟩, id, other, qty, price, reason⟩ := e
  simp only at hk
  subst hk
  unfold Ev.num at n9 n10 n11 n12 n13
  unfold evV
  simp only at n9 n10 n11 n12 n13 ⊢
  have h1 := bx_made w [.int .i64 3, .int .i64 ck, .int .i64 cs, .int .i64 ct, .int .i64 cl, .int .i64 cq, .int .i64 ci, .float .f64 cp, .string cg, .int .i64 id, .int .i64 other, .int .i64 qty, .int .i64 price, .int .i64 reason] 32
  have hb2 : Below (w.heap.size + 1) (w.alloc (Obj.cells #[.int .i64 3, .int .i64 ck, .int .i64 cs, .int .i64 ct, .int .i64 cl, .int .i64 cq, .int .i64 ci, .float .f64 cp, .string cg, .int .i64 id, .int .i64 other, .int .i64 qty, .int .i64 price, .int .i64 reason] 32)) ((w.alloc (Obj.cells #[.int .i64 3, .int .i64 ck, .int .i64 cs, .int .i64 ct, .int .i64 cl, .int .i64 cq, .int .i64 ci, .float .f64 cp, .string cg, .int .i64 id, .int .i64 other, .int .i64 qty, .int .i64 price, .int .i64 reason] 32)).alloc (Obj.cells #[.string ⟨#[]⟩, .string ⟨#[97, 99, 99, 101, 112, 116]⟩, .string ⟨#[114, 101, 102, 117, 115, 101]⟩, .string ⟨#[116, 114, 97, 100, 101]⟩, .string ⟨#[114, 101, 115, 116]⟩, .string ⟨#[100, 114, 111, 112]⟩, .string ⟨#[99, 97, 110, 99, 101, 108]⟩, .string ⟨#[114, 101, 100, 117, 99, 101]⟩, .string ⟨#[101, 110, 100]⟩, .string ⟨#[101, 120, 112, 105, 114, 101]⟩] 9)) := (Below.refl _ _).alloc (by simp) _
  have HX : Hid (Bx ((w.alloc (Obj.cells #[.int .i64 3, .int .i64 ck, .int .i64 cs, .int .i64 ct, .int .i64 cl, .int .i64 cq, .int .i64 ci, .float .f64 cp, .string cg, .int .i64 id, .int .i64 other, .int .i64 qty, .int .i64 price, .int .i64 reason] 32)).alloc (Obj.cells #[.string ⟨#[]⟩, .string ⟨#[97, 99, 99, 101, 112, 116]⟩, .string ⟨#[114, 101, 102, 117, 115, 101]⟩, .string ⟨#[116, 114, 97, 100, 101]⟩, .string ⟨#[114, 101, 115, 116]⟩, .string ⟨#[100, 114, 111, 112]⟩, .string ⟨#[99, 97, 110, 99, 101, 108]⟩, .string ⟨#[114, 101, 100, 117, 99, 101]⟩, .string ⟨#[101, 110, 100]⟩, .string ⟨#[101, 120, 112, 105, 114, 101]⟩] 9)) w.heap.size [.int .i64 3, .int .i64 ck, .int .i64 cs, .int .i64 ct, .int .i64 cl, .int .i64 cq, .int .i64 ci, .float .f64 cp, .string cg, .int .i64 id, .int .i64 other, .int .i64 qty, .int .i64 price, .int .i64 reason]) := bx_below h1 hb2 (by omega)
  have HN : Hid (Bx ((w.alloc (Obj.cells #[.int .i64 3, .int .i64 ck, .int .i64 cs, .int .i64 ct, .int .i64 cl, .int .i64 cq, .int .i64 ci, .float .f64 cp, .string cg, .int .i64 id, .int .i64 other, .int .i64 qty, .int .i64 price, .int .i64 reason] 32)).alloc (Obj.cells #[.string ⟨#[]⟩, .string ⟨#[97, 99, 99, 101, 112, 116]⟩, .string ⟨#[114, 101, 102, 117, 115, 101]⟩, .string ⟨#[116, 114, 97, 100, 101]⟩, .string ⟨#[114, 101, 115, 116]⟩, .string ⟨#[100, 114, 111, 112]⟩, .string ⟨#[99, 97, 110, 99, 101, 108]⟩, .string ⟨#[114, 101, 100, 117, 99, 101]⟩, .string ⟨#[101, 110, 100]⟩, .string ⟨#[101, 120, 112, 105, 114, 101]⟩] 9)) (w.heap.size + 1) [.string ⟨#[]⟩, .string ⟨#[97, 99, 99, 101, 112, 116]⟩, .string ⟨#[114, 101, 102, 117, 115, 101]⟩, .string ⟨#[116, 114, 97, 100, 101]⟩, .string ⟨#[114, 101, 115, 116]⟩, .string ⟨#[100, 114, 111, 112]⟩, .string ⟨#[99, 97, 110, 99, 101, 108]⟩, .string ⟨#[114, 101, 100, 117, 99, 101]⟩, .string ⟨#[101, 110, 100]⟩, .string ⟨#[101, 120, 112, 105, 114, 101]⟩]) := by
    have h := bx_made (w.alloc (Obj.cells #[.int .i64 3, .int .i64 ck, .int .i64 cs, .int .i64 ct, .int .i64 cl, .int .i64 cq, .int .i64 ci, .float .f64 cp, .string cg, .int .i64 id, .int .i64 other, .int .i64 qty, .int .i64 price, .int .i64 reason] 32)) [.string ⟨#[]⟩, .string ⟨#[97, 99, 99, 101, 112, 116]⟩, .string ⟨#[114, 101, 102, 117, 115, 101]⟩, .string ⟨#[116, 114, 97, 100, 101]⟩, .string ⟨#[114, 101, 115, 116]⟩, .string ⟨#[100, 114, 111, 112]⟩, .string ⟨#[99, 97, 110, 99, 101, 108]⟩, .string ⟨#[114, 101, 100, 117, 99, 101]⟩, .string ⟨#[101, 110, 100]⟩, .string ⟨#[101, 120, 112, 105, 114, 101]⟩] 9
    rw [show (w.alloc (Obj.cells #[.int .i64 3, .int .i64 ck, .int .i64 cs, .int .i64 ct, .int .i64 cl, .int .i64 cq, .int .i64 ci, .float .f64 cp, .string cg, .int .i64 id, .int .i64 other, .int .i64 qty, .int .i64 price, .int .i64 reason] 32)).heap.size = w.heap.size + 1 by simp] at h
    exact h
  have HB : Hid (Below w.heap.size w ((w.alloc (Obj.cells #[.int .i64 3, .int .i64 ck, .int .i64 cs, .int .i64 ct, .int .i64 cl, .int .i64 cq, .int .i64 ci, .float .f64 cp, .string cg, .int .i64 id, .int .i64 other, .int .i64 qty, .int .i64 price, .int .i64 reason] 32)).alloc (Obj.cells #[.string ⟨#[]⟩, .string ⟨#[97, 99, 99, 101, 112, 116]⟩, .string ⟨#[114, 101, 102, 117, 115, 101]⟩, .string ⟨#[116, 114, 97, 100, 101]⟩, .string ⟨#[114, 101, 115, 116]⟩, .string ⟨#[100, 114, 111, 112]⟩, .string ⟨#[99, 97, 110, 99, 101, 108]⟩, .string ⟨#[114, 101, 100, 117, 99, 101]⟩, .string ⟨#[101, 110, 100]⟩, .string ⟨#[101, 120, 112, 105, 114, 101]⟩] 9))) := ((Below.refl _ w).alloc (Nat.le_refl _) _).alloc (by simp) _
  have HZ : Hid (((w.alloc (Obj.cells #[.int .i64 3, .int .i64 ck, .int .i64 cs, .int .i64 ct, .int .i64 cl, .int .i64 cq, .int .i64 ci, .float .f64 cp, .string cg, .int .i64 id, .int .i64 other, .int .i64 qty, .int .i64 price, .int .i64 reason] 32)).alloc (Obj.cells #[.string ⟨#[]⟩, .string ⟨#[97, 99, 99, 101, 112, 116]⟩, .string ⟨#[114, 101, 102, 117, 115, 101]⟩, .string ⟨#[116, 114, 97, 100, 101]⟩, .string ⟨#[114, 101, 115, 116]⟩, .string ⟨#[100, 114, 111, 112]⟩, .string ⟨#[99, 97, 110, 99, 101, 108]⟩, .string ⟨#[114, 101, 100, 117, 99, 101]⟩, .string ⟨#[101, 110, 100]⟩, .string ⟨#[101, 120, 112, 105, 114, 101]⟩] 9)).heap.size = w.heap.size + 2) := by show _ = _; simp
  clear h1 hb2
  have HV : Hid (txE ⟨3, ⟨ck, cs, ct, cl, cq, ci, cp, cg⟩, id, other, qty, price, reason⟩ = (((((((((⟨#[116, 114, 97, 100, 101]⟩ : ByteArray) ++ (⟨#[32]⟩ : ByteArray)) ++ itB id) ++ (⟨#[32]⟩ : ByteArray)) ++ itB other) ++ (⟨#[32]⟩ : ByteArray)) ++ itB qty) ++ (⟨#[32]⟩ : ByteArray)) ++ itB price)) := by
    show lnB ⟨#[116, 114, 97, 100, 101]⟩ [id, other, qty, price] = _
    simp only [lnB, List.foldl_cons, List.foldl_nil, app_assoc]
  have hs9 := itB_size id n9.1 n9.2
  have HD9 := hide (fun W => dig_any id W n9.1 n9.2)
  generalize itB id = I9 at *
  have hs10 := itB_size other n10.1 n10.2
  have HD10 := hide (fun W => dig_any other W n10.1 n10.2)
  generalize itB other = I10 at *
  have hs11 := itB_size qty n11.1 n11.2
  have HD11 := hide (fun W => dig_any qty W n11.1 n11.2)
  generalize itB qty = I11 at *
  have hs12 := itB_size price n12.1 n12.2
  have HD12 := hide (fun W => dig_any price W n12.1 n12.2)
  generalize itB price = I12 at *
  go_enter Tryz.func10, Tryz.ntmps10
  refine wp_seq_k fun K hK => ?_
  have HK1 := hide hK
  clear hK
  go_wp2_with fail
  refine unhide HK1 _ _ ?_
  clear HK1
  refine wp_seq_k fun K hK => ?_
  have HK1 := hide hK
  clear hK
  go_wp2_with fail
  refine unhide HK1 _ _ ?_
  clear HK1
  generalize ((w.alloc (Obj.cells #[.int .i64 3, .int .i64 ck, .int .i64 cs, .int .i64 ct, .int .i64 cl, .int .i64 cq, .int .i64 ci, .float .f64 cp, .string cg, .int .i64 id, .int .i64 other, .int .i64 qty, .int .i64 price, .int .i64 reason] 32)).alloc (Obj.cells #[.string ⟨#[]⟩, .string ⟨#[97, 99, 99, 101, 112, 116]⟩, .string ⟨#[114, 101, 102, 117, 115, 101]⟩, .string ⟨#[116, 114, 97, 100, 101]⟩, .string ⟨#[114, 101, 115, 116]⟩, .string ⟨#[100, 114, 111, 112]⟩, .string ⟨#[99, 97, 110, 99, 101, 108]⟩, .string ⟨#[114, 101, 100, 117, 99, 101]⟩, .string ⟨#[101, 110, 100]⟩, .string ⟨#[101, 120, 112, 105, 114, 101]⟩] 9)) = W1 at HX HN HB HZ ⊢
  have hlt : w.heap.size < W1.heap.size := by rw [unhide HZ]; omega
  have x0 := bx_cell (unhide HX) 0 rfl
  have x9 := bx_cell (unhide HX) 9 rfl
  have x10 := bx_cell (unhide HX) 10 rfl
  have x11 := bx_cell (unhide HX) 11 rfl
  have x12 := bx_cell (unhide HX) 12 rfl
  have x13 := bx_cell (unhide HX) 13 rfl
  have y := bx_cell (unhide HN) 3 rfl
  go_wp2_with fail
  have k9 := cell_regrown x9
  have k10 := cell_regrown x10
  have k11 := cell_regrown x11
  have k12 := cell_regrown x12
  have c9 : ∀ d os, Calls Tryz.prog 17 #[.int .i64 id] (Go.Sort.grow (redrawn W1 d) os) fun e w'' => e = .returned (.string I9) ∧ ∃ p : Regrown, w'' = Go.Sort.grow (redrawn W1 p.d) p.os := fun d os => Calls.regrown_of (unhide HD9 _)
  have c10 : ∀ d os, Calls Tryz.prog 17 #[.int .i64 other] (Go.Sort.grow (redrawn W1 d) os) fun e w'' => e = .returned (.string I10) ∧ ∃ p : Regrown, w'' = Go.Sort.grow (redrawn W1 p.d) p.os := fun d os => Calls.regrown_of (unhide HD10 _)
  have c11 : ∀ d os, Calls Tryz.prog 17 #[.int .i64 qty] (Go.Sort.grow (redrawn W1 d) os) fun e w'' => e = .returned (.string I11) ∧ ∃ p : Regrown, w'' = Go.Sort.grow (redrawn W1 p.d) p.os := fun d os => Calls.regrown_of (unhide HD11 _)
  have c12 : ∀ d os, Calls Tryz.prog 17 #[.int .i64 price] (Go.Sort.grow (redrawn W1 d) os) fun e w'' => e = .returned (.string I12) ∧ ∃ p : Regrown, w'' = Go.Sort.grow (redrawn W1 p.d) p.os := fun d os => Calls.regrown_of (unhide HD12 _)
  clear HD9 HD10 HD11 HD12 HX HN HZ y hlt x0 x9 x10 x11 x12 x13
  have m1 : ¬ 9223372036854775807 < 6 + I9.size := by omega
  have m2 : ¬ 9223372036854775807 < 6 + I9.size + 1 := by omega
  have m3 : ¬ 9223372036854775807 < 6 + I9.size + 1 + I10.size := by omega
  have m4 : ¬ 9223372036854775807 < 6 + I9.size + 1 + I10.size + 1 := by omega
  have m5 : ¬ 9223372036854775807 < 6 + I9.size + 1 + I10.size + 1 + I11.size := by omega
  have m6 : ¬ 9223372036854775807 < 6 + I9.size + 1 + I10.size + 1 + I11.size + 1 := by omega
  have m7 : ¬ 9223372036854775807 < 6 + I9.size + 1 + I10.size + 1 + I11.size + 1 + I12.size := by omega
  have m8 : ¬ 9223372036854775807 < 5 + 1 + I9.size := by omega
  have m9 : ¬ 9223372036854775807 < 5 + 1 + I9.size + 1 := by omega
  have m10 : ¬ 9223372036854775807 < 5 + 1 + I9.size + 1 + I10.size := by omega
  have m11 : ¬ 9223372036854775807 < 5 + 1 + I9.size + 1 + I10.size + 1 := by omega
  have m12 : ¬ 9223372036854775807 < 5 + 1 + I9.size + 1 + I10.size + 1 + I11.size := by omega
  have m13 : ¬ 9223372036854775807 < 5 + 1 + I9.size + 1 + I10.size + 1 + I11.size + 1 := by omega
  have m14 : ¬ 9223372036854775807 < 5 + 1 + I9.size + 1 + I10.size + 1 + I11.size + 1 + I12.size := by omega
  refine wp_region_quiet_below (by kernel_rfl) (by kernel_rfl) ?_
  repeat (quiet_step (first | (with_reducible exact c9 _ _) | (with_reducible exact c10 _ _) | (with_reducible exact c11 _ _) | (with_reducible exact c12 _ _)))
  refine wpQuiet_nil ?_
  rintro w' ⟨p, hw'⟩
  have HB2 : Hid (Below w.heap.size w w') := by
    rw [hw']
    exact (unhide HB).trans ((below_regrown W1 p.d p.os).mono (unhide HB).size)
  clear hw' c9 c10 c11 c12 k9 k10 k11 k12
  go_wp2_with fail
  go_ret
  exact ⟨by rw [unhide HV]; rfl, unhide HB2⟩
end Go.Proofs.YthkdbjldlfahdaaGreatDoor
namespace Go.Proofs.YthkdbjldlfahdaaGreatDoor
open Go.RowKit
set_option linter.unusedVariables false

theorem textS_any (e : Ev) (w : World) (he : e.fit) (hk : 1 ≤ e.kind ∧ e.kind ≤ 9) : Calls Tryz.prog 10 #[evV e] w fun r w' => r = .returned (.string (txE e)) ∧ Below w.heap.size w w' := by
  rcases (show e.kind = 1 ∨ e.kind = 2 ∨ e.kind = 3 ∨ e.kind = 4 ∨ e.kind = 5 ∨ e.kind = 6 ∨ e.kind = 7 ∨ e.kind = 8 ∨ e.kind = 9 by omega) with h | h | h | h | h | h | h | h | h
  · exact textS1_any e w he h
  · exact textS2_any e w he h
  · exact textS3_any e w he h
  · exact textS4_any e w he h
  · exact textS5_any e w he h
  · exact textS6_any e w he h
  · exact textS7_any e w he h
  · exact textS8_any e w he h
  · exact textS9_any e w he h
end Go.Proofs.YthkdbjldlfahdaaGreatDoor
