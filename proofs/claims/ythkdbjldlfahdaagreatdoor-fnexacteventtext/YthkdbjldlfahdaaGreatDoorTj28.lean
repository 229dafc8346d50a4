/-
  The text of an event, by the model: proved by walking the function.
-/
import Derived.Test.YthkdbjldlfahdaaGreatDoorTj26
import Derived.Deep.RegionWith
namespace Go.Proofs.YthkdbjldlfahdaaGreatDoor
open Go.RowKit
set_option linter.unusedVariables false

set_option maxRecDepth 100000 in
set_option maxHeartbeats 3200000 in
theorem textS6_any (e : Ev) (w : World) (he : e.fit) (hk : e.kind = 6) : Calls Tryz.prog 10 #[evV e] w fun r w' => r = .returned (.string (txE e)) ∧ Below w.heap.size w w' := by
  have n9 := he.n 9
  have n10 := he.n 10
  have n11 := he.n 11
  have n12 := he.n 12
  have n13 := he.n 13
  clear he
  obtain ⟨kind, ⟨ck, cs, ct, cl, cq, ci, cp, cg⟩, id, other, qty, price, reason⟩ := e
  simp only at hk
  subst hk
  unfold Ev.num at n9 n10 n11 n12 n13
  unfold evV
  simp only at n9 n10 n11 n12 n13 ⊢
  have h1 := bx_made w [.int .i64 6, .int .i64 ck, .int .i64 cs, .int .i64 ct, .int .i64 cl, .int .i64 cq, .int .i64 ci, .float .f64 cp, .string cg, .int .i64 id, .int .i64 other, .int .i64 qty, .int .i64 price, .int .i64 reason] 32
  have hb2 : Below (w.heap.size + 1) (w.alloc (Obj.cells #[.int .i64 6, .int .i64 ck, .int .i64 cs, .int .i64 ct, .int .i64 cl, .int .i64 cq, .int .i64 ci, .float .f64 cp, .string cg, .int .i64 id, .int .i64 other, .int .i64 qty, .int .i64 price, .int .i64 reason] 32)) ((w.alloc (Obj.cells #[.int .i64 6, .int .i64 ck, .int .i64 cs, .int .i64 ct, .int .i64 cl, .int .i64 cq, .int .i64 ci, .float .f64 cp, .string cg, .int .i64 id, .int .i64 other, .int .i64 qty, .int .i64 price, .int .i64 reason] 32)).alloc (Obj.cells #[.string ⟨#[]⟩, .string ⟨#[97, 99, 99, 101, 112, 116]⟩, .string ⟨#[114, 101, 102, 117, 115, 101]⟩, .string ⟨#[116, 114, 97, 100, 101]⟩, .string ⟨#[114, 101, 115, 116]⟩, .string ⟨#[100, 114, 111, 112]⟩, .string ⟨#[99, 97, 110, 99, 101, 108]⟩, .string ⟨#[114, 101, 100, 117, 99, 101]⟩, .string ⟨#[101, 110, 100]⟩, .string ⟨#[101, 120, 112, 105, 114, 101]⟩] 9)) := (Below.refl _ _).alloc (by simp) _
  have HX : Hid (Bx ((w.alloc (Obj.cells #[.int .i64 6, .int .i64 ck, .int .i64 cs, .int .i64 ct, .int .i64 cl, .int .i64 cq, .int .i64 ci, .float .f64 cp, .string cg, .int .i64 id, .int .i64 other, .int .i64 qty, .int .i64 price, .int .i64 reason] 32)).alloc (Obj.cells #[.string ⟨#[]⟩, .string ⟨#[97, 99, 99, 101, 112, 116]⟩, .string ⟨#[114, 101, 102, 117, 115, 101]⟩, .string ⟨#[116, 114, 97, 100, 101]⟩, .string ⟨#[114, 101, 115, 116]⟩, .string ⟨#[100, 114, 111, 112]⟩, .string ⟨#[99, 97, 110, 99, 101, 108]⟩, .string ⟨#[114, 101, 100, 117, 99, 101]⟩, .string ⟨#[101, 110, 100]⟩, .string ⟨#[101, 120, 112, 105, 114, 101]⟩] 9)) w.heap.size [.int .i64 6, .int .i64 ck, .int .i64 cs, .int .i64 ct, .int .i64 cl, .int .i64 cq, .int .i64 ci, .float .f64 cp, .string cg, .int .i64 id, .int .i64 other, .int .i64 qty, .int .i64 price, .int .i64 reason]) := bx_below h1 hb2 (by omega)
  have HN : Hid (Bx ((w.alloc (Obj.cells #[.int .i64 6, .int .i64 ck, .int .i64 cs, .int .i64 ct, .int .i64 cl, .int .i64 cq, .int .i64 ci, .float .f64 cp, .string cg, .int .i64 id, .int .i64 other, .int .i64 qty, .int .i64 price, .int .i64 reason] 32)).alloc (Obj.cells #[.string ⟨#[]⟩, .string ⟨#[97, 99, 99, 101, 112, 116]⟩, .string ⟨#[114, 101, 102, 117, 115, 101]⟩, .string ⟨#[116, 114, 97, 100, 101]⟩, .string ⟨#[114, 101, 115, 116]⟩, .string ⟨#[100, 114, 111, 112]⟩, .string ⟨#[99, 97, 110, 99, 101, 108]⟩, .string ⟨#[114, 101, 100, 117, 99, 101]⟩, .string ⟨#[101, 110, 100]⟩, .string ⟨#[101, 120, 112, 105, 114, 101]⟩] 9)) (w.heap.size + 1) [.string ⟨#[]⟩, .string ⟨#[97, 99, 99, 101, 112, 116]⟩, .string ⟨#[114, 101, 102, 117, 115, 101]⟩, .string ⟨#[116, 114, 97, 100, 101]⟩, .string ⟨#[114, 101, 115, 116]⟩, .string ⟨#[100, 114, 111, 112]⟩, .string ⟨#[99, 97, 110, 99, 101, 108]⟩, .string ⟨#[114, 101, 100, 117, 99, 101]⟩, .string ⟨#[101, 110, 100]⟩, .string ⟨#[101, 120, 112, 105, 114, 101]⟩]) := by
    have h := bx_made (w.alloc (Obj.cells #[.int .i64 6, .int .i64 ck, .int .i64 cs, .int .i64 ct, .int .i64 cl, .int .i64 cq, .int .i64 ci, .float .f64 cp, .string cg, .int .i64 id, .int .i64 other, .int .i64 qty, .int .i64 price, .int .i64 reason] 32)) [.string ⟨#[]⟩, .string ⟨#[97, 99, 99, 101, 112, 116]⟩, .string ⟨#[114, 101, 102, 117, 115, 101]⟩, .string ⟨#[116, 114, 97, 100, 101]⟩, .string ⟨#[114, 101, 115, 116]⟩, .string ⟨#[100, 114, 111, 112]⟩, .string ⟨#[99, 97, 110, 99, 101, 108]⟩, .string ⟨#[114, 101, 100, 117, 99, 101]⟩, .string ⟨#[101, 110, 100]⟩, .string ⟨#[101, 120, 112, 105, 114, 101]⟩] 9
    rw [show (w.alloc (Obj.cells #[.int .i64 6, .int .i64 ck, .int .i64 cs, .int .i64 ct, .int .i64 cl, .int .i64 cq, .int .i64 ci, .float .f64 cp, .string cg, .int .i64 id, .int .i64 other, .int .i64 qty, .int .i64 price, .int .i64 reason] 32)).heap.size = w.heap.size + 1 by simp] at h
    exact h
  have HB : Hid (Below w.heap.size w ((w.alloc (Obj.cells #[.int .i64 6, .int .i64 ck, .int .i64 cs, .int .i64 ct, .int .i64 cl, .int .i64 cq, .int .i64 ci, .float .f64 cp, .string cg, .int .i64 id, .int .i64 other, .int .i64 qty, .int .i64 price, .int .i64 reason] 32)).alloc (Obj.cells #[.string ⟨#[]⟩, .string ⟨#[97, 99, 99, 101, 112, 116]⟩, .string ⟨#[114, 101, 102, 117, 115, 101]⟩, .string ⟨#[116, 114, 97, 100, 101]⟩, .string ⟨#[114, 101, 115, 116]⟩, .string ⟨#[100, 114, 111, 112]⟩, .string ⟨#[99, 97, 110, 99, 101, 108]⟩, .string ⟨#[114, 101, 100, 117, 99, 101]⟩, .string ⟨#[101, 110, 100]⟩, .string ⟨#[101, 120, 112, 105, 114, 101]⟩] 9))) := ((Below.refl _ w).alloc (Nat.le_refl _) _).alloc (by simp) _
  have HZ : Hid (((w.alloc (Obj.cells #[.int .i64 6, .int .i64 ck, .int .i64 cs, .int .i64 ct, .int .i64 cl, .int .i64 cq, .int .i64 ci, .float .f64 cp, .string cg, .int .i64 id, .int .i64 other, .int .i64 qty, .int .i64 price, .int .i64 reason] 32)).alloc (Obj.cells #[.string ⟨#[]⟩, .string ⟨#[97, 99, 99, 101, 112, 116]⟩, .string ⟨#[114, 101, 102, 117, 115, 101]⟩, .string ⟨#[116, 114, 97, 100, 101]⟩, .string ⟨#[114, 101, 115, 116]⟩, .string ⟨#[100, 114, 111, 112]⟩, .string ⟨#[99, 97, 110, 99, 101, 108]⟩, .string ⟨#[114, 101, 100, 117, 99, 101]⟩, .string ⟨#[101, 110, 100]⟩, .string ⟨#[101, 120, 112, 105, 114, 101]⟩] 9)).heap.size = w.heap.size + 2) := by show _ = _; simp
  clear h1 hb2
  have HV : Hid (txE ⟨6, ⟨ck, cs, ct, cl, cq, ci, cp, cg⟩, id, other, qty, price, reason⟩ = (((((⟨#[99, 97, 110, 99, 101, 108]⟩ : ByteArray) ++ (⟨#[32]⟩ : ByteArray)) ++ itB id) ++ (⟨#[32]⟩ : ByteArray)) ++ itB qty)) := by
    show lnB ⟨#[99, 97, 110, 99, 101, 108]⟩ [id, qty] = _
    simp only [lnB, List.foldl_cons, List.foldl_nil, app_assoc]
  have hs9 := itB_size id n9.1 n9.2
  have HD9 := hide (fun W => dig_any id W n9.1 n9.2)
  generalize itB id = I9 at *
  have hs11 := itB_size qty n11.1 n11.2
  have HD11 := hide (fun W => dig_any qty W n11.1 n11.2)
  generalize itB qty = I11 at *
  go_enter Tryz.func10, Tryz.ntmps10
  refine wp_seq_k fun K hK => ?_
  have HK1 := hide hK
  clear hK
  go_wp2_with fail
  refine unhide HK1 _ _ ?_
  clear HK1
  refine wp_seq_k fun K hK => ?_
  have HK1 := hide hK
  clear hK
  go_wp2_with fail
  refine unhide HK1 _ _ ?_
  clear HK1
  generalize ((w.alloc (Obj.cells #[.int .i64 6, .int .i64 ck, .int .i64 cs, .int .i64 ct, .int .i64 cl, .int .i64 cq, .int .i64 ci, .float .f64 cp, .string cg, .int .i64 id, .int .i64 other, .int .i64 qty, .int .i64 price, .int .i64 reason] 32)).alloc (Obj.cells #[.string ⟨#[]⟩, .string ⟨#[97, 99, 99, 101, 112, 116]⟩, .string ⟨#[114, 101, 102, 117, 115, 101]⟩, .string ⟨#[116, 114, 97, 100, 101]⟩, .string ⟨#[114, 101, 115, 116]⟩, .string ⟨#[100, 114, 111, 112]⟩, .string ⟨#[99, 97, 110, 99, 101, 108]⟩, .string ⟨#[114, 101, 100, 117, 99, 101]⟩, .string ⟨#[101, 110, 100]⟩, .string ⟨#[101, 120, 112, 105, 114, 101]⟩] 9)) = W1 at HX HN HB HZ ⊢
  have hlt : w.heap.size < W1.heap.size := by rw [unhide HZ]; omega
  have x0 := bx_cell (unhide HX) 0 rfl
  have x9 := bx_cell (unhide HX) 9 rfl
  have x10 := bx_cell (unhide HX) 10 rfl
  have x11 := bx_cell (unhide HX) 11 rfl
  have x12 := bx_cell (unhide HX) 12 rfl
  have x13 := bx_cell (unhide HX) 13 rfl
  have y := bx_cell (unhide HN) 6 rfl
  go_wp2_with fail
  have HXc := hide (bx_drew (unhide HX))
  have HBc := hide (unhide HB).drew
  have hltc : w.heap.size < W1.drew.heap.size := hlt
  clear HX HN HB HZ y hlt
  go_region_with (go_at_call 17; (first | (with_reducible refine (unhide HD9 _).mono ?_) | (with_reducible refine (unhide HD11 _).mono ?_)); rintro r W9 ⟨rfl, hb9⟩; have HXc := hide (bx_below (unhide HXc) hb9 hltc); have HBc := hide ((unhide HBc).trans (hb9.mono (unhide HBc).size)); have hltc := Nat.lt_of_lt_of_le hltc hb9.size; have x9 := bx_cell (unhide HXc) 9 rfl; have x10 := bx_cell (unhide HXc) 10 rfl; have x11 := bx_cell (unhide HXc) 11 rfl; have x12 := bx_cell (unhide HXc) 12 rfl; clear hb9)
  all_goals try go_wp2_with fail
  all_goals
    go_ret
    exact ⟨by rw [unhide HV]; rfl, unhide HBc⟩
set_option maxRecDepth 100000 in
set_option maxHeartbeats 3200000 in
theorem textS7_any (e : Ev) (w : World) (he : e.fit) (hk : e.kind = 7) : Calls Tryz.prog 10 #[evV e] w fun r w' => r = .returned (.string (txE e)) ∧ Below w.heap.size w w' := by
  have n9 := he.n 9
  have n10 := he.n 10
  have n11 := he.n 11
  have n12 := he.n 12
  have n13 := he.n 13
  clear he
  obtain ⟨kind, ⟨ck, cs, ct, cl, cq, ci, cp, cg⟩, id, other, qty, price, reason⟩ := e
  simp only at hk
  subst hk
  unfold Ev.num at n9 n10 n11 n12 n13
  unfold evV
  simp only at n9 n10 n11 n12 n13 ⊢
  have h1 := bx_made w [.int .i64 7, .int .i64 ck, .int .i64 cs, .int .i64 ct, .int .i64 cl, .int .i64 cq, .int .i64 ci, .float .f64 cp, .string cg, .int .i64 id, .int .i64 other, .int .i64 qty, .int .i64 price, .int .i64 reason] 32
  have hb2 : Below (w.heap.size + 1) (w.alloc (Obj.cells #[.int .i64 7, .int .i64 ck, .int .i64 cs, .int .i64 ct, .int .i64 cl, .int .i64 cq, .int .i64 ci, .float .f64 cp, .string cg, .int .i64 id, .int .i64 other, .int .i64 qty, .int .i64 price, .int .i64 reason] 32)) ((w.alloc (Obj.cells #[.int .i64 7, .int .i64 ck, .int .i64 cs, .int .i64 ct, .int .i64 cl, .int .i64 cq, .int .i64 ci, .float .f64 cp, .string cg, .int .i64 id, .int .i64 other, .int .i64 qty, .int .i64 price, .int .i64 reason] 32)).alloc (Obj.cells #[.string ⟨#[]⟩, .string ⟨#[97, 99, 99, 101, 112, 116]⟩, .string ⟨#[114, 101, 102, 117, 115, 101]⟩, .string ⟨#[116, 114, 97, 100, 101]⟩, .string ⟨#[114, 101, 115, 116]⟩, .string ⟨#[100, 114, 111, 112]⟩, .string ⟨#[99, 97, 110, 99, 101, 108]⟩, .string ⟨#[114, 101, 100, 117, 99, 101]⟩, .string ⟨#[101, 110, 100]⟩, .string ⟨#[101, 120, 112, 105, 114, 101]⟩] 9)) := (Below.refl _ _).alloc (by simp) _
  have HX : Hid (Bx ((w.alloc (Obj.cells #[.int .i64 7, .int .i64 ck, .int .i64 cs, .int .i64 ct, .int .i64 cl, .int .i64 cq, .int .i64 ci, .float .f64 cp, .string cg, .int .i64 id, .int .i64 other, .int .i64 qty, .int .i64 price, .int .i64 reason] 32)).alloc (Obj.cells #[.string ⟨#[]⟩, .string ⟨#[97, 99, 99, 101, 112, 116]⟩, .string ⟨#[114, 101, 102, 117, 115, 101]⟩, .string ⟨#[116, 114, 97, 100, 101]⟩, .string ⟨#[114, 101, 115, 116]⟩, .string ⟨#[100, 114, 111, 112]⟩, .string ⟨#[99, 97, 110, 99, 101, 108]⟩, .string ⟨#[114, 101, 100, 117, 99, 101]⟩, .string ⟨#[101, 110, 100]⟩, .string ⟨#[101, 120, 112, 105, 114, 101]⟩] 9)) w.heap.size [.int .i64 7, .int .i64 ck, .int .i64 cs, .int .i64 ct, .int .i64 cl, .int .i64 cq, .int .i64 ci, .float .f64 cp, .string cg, .int .i64 id, .int .i64 other, .int .i64 qty, .int .i64 price, .int .i64 reason]) := bx_below h1 hb2 (by omega)
  have HN : Hid (Bx ((w.alloc (Obj.cells #[.int .i64 7, .int .i64 ck, .int .i64 cs, .int .i64 ct, .int .i64 cl, .int .i64 cq, .int .i64 ci, .float .f64 cp, .string cg, .int .i64 id, .int .i64 other, .int .i64 qty, .int .i64 price, .int .i64 reason] 32)).alloc (Obj.cells #[.string ⟨#[]⟩, .string ⟨#[97, 99, 99, 101, 112, 116]⟩, .string ⟨#[114, 101, 102, 117, 115, 101]⟩, .string ⟨#[116, 114, 97, 100, 101]⟩, .string ⟨#[114, 101, 115, 116]⟩, .string ⟨#[100, 114, 111, 112]⟩, .string ⟨#[99, 97, 110, 99, 101, 108]⟩, .string ⟨#[114, 101, 100, 117, 99, 101]⟩, .string ⟨#[101, 110, 100]⟩, .string ⟨#[101, 120, 112, 105, 114, 101]⟩] 9)) (w.heap.size + 1) [.string ⟨#[]⟩, .string ⟨#[97, 99, 99, 101, 112, 116]⟩, .string ⟨#[114, 101, 102, 117, 115, 101]⟩, .string ⟨#[116, 114, 97, 100, 101]⟩, .string ⟨#[114, 101, 115, 116]⟩, .string ⟨#[100, 114, 111, 112]⟩, .string ⟨#[99, 97, 110, 99, 101, 108]⟩, .string ⟨#[114, 101, 100, 117, 99, 101]⟩, .string ⟨#[101, 110, 100]⟩, .string ⟨#[101, 120, 112, 105, 114, 101]⟩]) := by
    have h := bx_made (w.alloc (Obj.cells #[.int .i64 7, .int .i64 ck, .int .i64 cs, .int .i64 ct, .int .i64 cl, .int .i64 cq, .int .i64 ci, .float .f64 cp, .string cg, .int .i64 id, .int .i64 other, .int .i64 qty, .int .i64 price, .int .i64 reason] 32)) [.string ⟨#[]⟩, .string ⟨#[97, 99, 99, 101, 112, 116]⟩, .string ⟨#[114, 101, 102, 117, 115, 101]⟩, .string ⟨#[116, 114, 97, 100, 101]⟩, .string ⟨#[114, 101, 115, 116]⟩, .string ⟨#[100, 114, 111, 112]⟩, .string ⟨#[99, 97, 110, 99, 101, 108]⟩, .string ⟨#[114, 101, 100, 117, 99, 101]⟩, .string ⟨#[101, 110, 100]⟩, .string ⟨#[101, 120, 112, 105, 114, 101]⟩] 9
    rw [show (w.alloc (Obj.cells #[.int .i64 7, .int .i64 ck, .int .i64 cs, .int .i64 ct, .int .i64 cl, .int .i64 cq, .int .i64 ci, .float .f64 cp, .string cg, .int .i64 id, .int .i64 other, .int .i64 qty, .int .i64 price, .int .i64 reason] 32)).heap.size = w.heap.size + 1 by simp] at h
    exact h
  have HB : Hid (Below w.heap.size w ((w.alloc (Obj.cells #[.int .i64 7, .int .i64 ck, .int .i64 cs, .int .i64 ct, .int .i64 cl, .int .i64 cq, .int .i64 ci, .float .f64 cp, .string cg, .int .i64 id, .int .i64 other, .int .i64 qty, .int .i64 price, .int .i64 reason] 32)).alloc (Obj.cells #[.string ⟨#[]⟩, .string ⟨#[97, 99, 99, 101, 112, 116]⟩, .string ⟨#[114, 101, 102, 117, 115, 101]⟩, .string ⟨#[116, 114, 97, 100, 101]⟩, .string ⟨#[114, 101, 115, 116]⟩, .string ⟨#[100, 114, 111, 112]⟩, .string ⟨#[99, 97, 110, 99, 101, 108]⟩, .string ⟨#[114, 101, 100, 117, 99, 101]⟩, .string ⟨#[101, 110, 100]⟩, .string ⟨#[101, 120, 112, 105, 114, 101]⟩] 9))) := ((Below.refl _ w).alloc (Nat.le_refl _) _).alloc (by simp) _
  have HZ : Hid (((w.alloc (Obj.cells #[.int .i64 7, .int .i64 ck, .int .i64 cs, .int .i64 ct, .int .i64 cl, .int .i64 cq, .int .i64 ci, .float .f64 cp, .string cg, .int .i64 id, .int .i64 other, .int .i64 qty, .int .i64 price, .int .i64 reason] 32)).alloc (Obj.cells #[.string ⟨#[]⟩, .string ⟨#[97, 99, 99, 101, 112, 116]⟩, .string ⟨#[114, 101, 102, 117, 115, 101]⟩, .string ⟨#[116, 114, 97, 100, 101]⟩, .string ⟨#[114, 101, 115, 116]⟩, .string ⟨#[100, 114, 111, 112]⟩, .string ⟨#[99, 97, 110, 99, 101, 108]⟩, .string ⟨#[114, 101, 100, 117, 99, 101]⟩, .string ⟨#[101, 110, 100]⟩, .string ⟨#[101, 120, 112, 105, 114, 101]⟩] 9)).heap.size = w.heap.size + 2) := by show _ = _; simp
  clear h1 hb2
  have HV : Hid (txE ⟨7, ⟨ck, cs, ct, cl, cq, ci, cp, cg⟩, id, other, qty, price, reason⟩ = (((((⟨#[114, 101, 100, 117, 99, 101]⟩ : ByteArray) ++ (⟨#[32]⟩ : ByteArray)) ++ itB id) ++ (⟨#[32]⟩ : ByteArray)) ++ itB qty)) := by
    show lnB ⟨#[114, 101, 100, 117, 99, 101]⟩ [id, qty] = _
    simp only [lnB, List.foldl_cons, List.foldl_nil, app_assoc]
  have hs9 := itB_size id n9.1 n9.2
  have HD9 := hide (fun W => dig_any id W n9.1 n9.2)
  generalize itB id = I9 at *
  have hs11 := itB_size qty n11.1 n11.2
  have HD11 := hide (fun W => dig_any qty W n11.1 n11.2)
  generalize itB qty = I11 at *
  go_enter Tryz.func10, Tryz.ntmps10
  refine wp_seq_k fun K hK => ?_
  have HK1 := hide hK
  clear hK
  go_wp2_with fail
  refine unhide HK1 _ _ ?_
  clear HK1
  refine wp_seq_k fun K hK => ?_
  have HK1 := hide hK
  clear hK
  go_wp2_with fail
  refine unhide HK1 _ _ ?_
  clear HK1
  generalize ((w.alloc (Obj.cells #[.int .i64 7, .int .i64 ck, .int .i64 cs, .int .i64 ct, .int .i64 cl, .int .i64 cq, .int .i64 ci, .float .f64 cp, .string cg, .int .i64 id, .int .i64 other, .int .i64 qty, .int .i64 price, .int .i64 reason] 32)).alloc (Obj.cells #[.string ⟨#[]⟩, .string ⟨#[97, 99, 99, 101, 112, 116]⟩, .string ⟨#[114, 101, 102, 117, 115, 101]⟩, .string ⟨#[116, 114, 97, 100, 101]⟩, .string ⟨#[114, 101, 115, 116]⟩, .string ⟨#[100, 114, 111, 112]⟩, .string ⟨#[99, 97, 110, 99, 101, 108]⟩, .string ⟨#[114, 101, 100, 117, 99, 101]⟩, .string ⟨#[101, 110, 100]⟩, .string ⟨#[101, 120, 112, 105, 114, 101]⟩] 9)) = W1 at HX HN HB HZ ⊢
  have hlt : w.heap.size < W1.heap.size := by rw [unhide HZ]; omega
  have x0 := bx_cell (unhide HX) 0 rfl
  have x9 := bx_cell (unhide HX) 9 rfl
  have x10 := bx_cell (unhide HX) 10 rfl
  have x11 := bx_cell (unhide HX) 11 rfl
  have x12 := bx_cell (unhide HX) 12 rfl
  have x13 := bx_cell (unhide HX) 13 rfl
  have y := bx_cell (unhide HN) 7 rfl
  go_wp2_with fail
  have HXc := hide (bx_drew (unhide HX))
  have HBc := hide (unhide HB).drew
  have hltc : w.heap.size < W1.drew.heap.size := hlt
  clear HX HN HB HZ y hlt
  go_region_with (go_at_call 17; (first | (with_reducible refine (unhide HD9 _).mono ?_) | (with_reducible refine (unhide HD11 _).mono ?_)); rintro r W9 ⟨rfl, hb9⟩; have HXc := hide (bx_below (unhide HXc) hb9 hltc); have HBc := hide ((unhide HBc).trans (hb9.mono (unhide HBc).size)); have hltc := Nat.lt_of_lt_of_le hltc hb9.size; have x9 := bx_cell (unhide HXc) 9 rfl; have x10 := bx_cell (unhide HXc) 10 rfl; have x11 := bx_cell (unhide HXc) 11 rfl; have x12 := bx_cell (unhide HXc) 12 rfl; clear hb9)
  all_goals try go_wp2_with fail
  all_goals
    go_ret
    exact ⟨by rw [unhide HV]; rfl, unhide HBc⟩
end Go.Proofs.YthkdbjldlfahdaaGreatDoor
