/-
  No event decoded by the model: at the end, or where the byte is no kind; proved by walking the function.
-/
import Derived.Test.YtfhjbhnfapdmmaaDoorNj36
namespace Go.Proofs.YtfhjbhnfapdmmaaDoor
open Go.RowKit
set_option linter.unusedVariables false

set_option maxRecDepth 100000 in
set_option maxHeartbeats 1600000 in
theorem decodeE_any (v : Value) (l : List Int) (k : Nat) (w : World) (hrd : Rd w v l) (hl : l.length ≤ 65536) (hk : l.length ≤ k) (hk2 : k ≤ 65536) :
    Calls Tryd.prog 24 #[v, .int .i64 k] w fun e w' => DcEnd w (evA l k) e w' := by
  have hsf := sfl
  have HEE : Hid (evT (evA l k) = .tuple #[evV zEv, .int .i64 0, .bool false]) := by show evT (evA l k) = _; rw [evA_end hk]; rfl
  have HR : Hid (Bx (w.alloc (Obj.cells #[.int .i64 0, .int .i64 0, .int .i64 0, .int .i64 0, .int .i64 0, .int .i64 0, .int .i64 0, .float .f64 0, .string ⟨#[]⟩, .int .i64 0, .int .i64 0, .int .i64 0, .int .i64 0, .int .i64 0] 31)) w.heap.size [.int .i64 0, .int .i64 0, .int .i64 0, .int .i64 0, .int .i64 0, .int .i64 0, .int .i64 0, .float .f64 0, .string ⟨#[]⟩, .int .i64 0, .int .i64 0, .int .i64 0, .int .i64 0, .int .i64 0]) := bx_made w [.int .i64 0, .int .i64 0, .int .i64 0, .int .i64 0, .int .i64 0, .int .i64 0, .int .i64 0, .float .f64 0, .string ⟨#[]⟩, .int .i64 0, .int .i64 0, .int .i64 0, .int .i64 0, .int .i64 0] 31
  have HBW : Hid (Below w.heap.size w (w.alloc (Obj.cells #[.int .i64 0, .int .i64 0, .int .i64 0, .int .i64 0, .int .i64 0, .int .i64 0, .int .i64 0, .float .f64 0, .string ⟨#[]⟩, .int .i64 0, .int .i64 0, .int .i64 0, .int .i64 0, .int .i64 0] 31))) := (Below.refl _ _).alloc (Nat.le_refl _) _
  obtain ⟨a, cap, rfl⟩ := rd_len hrd
  have hkl : (l.length : Int) ≤ k := by omega
  clear hrd
  go_enter Tryd.func24, Tryd.ntmps24
  refine wp_seq_k fun K hK => ?_
  have HK1 := hide hK
  clear hK
  go_wp2_with fail
  refine unhide HK1 _ _ ?_
  clear HK1
  generalize (w.alloc (Obj.cells #[.int .i64 0, .int .i64 0, .int .i64 0, .int .i64 0, .int .i64 0, .int .i64 0, .int .i64 0, .float .f64 0, .string ⟨#[]⟩, .int .i64 0, .int .i64 0, .int .i64 0, .int .i64 0, .int .i64 0] 31)) = W1 at HR HBW ⊢
  have z0 := bx_cell (unhide HR) 0 rfl
  have fz0 := bx_free (unhide HR) 0 (by simp)
  have z1 := bx_cell (unhide HR) 1 rfl
  have fz1 := bx_free (unhide HR) 1 (by simp)
  have z2 := bx_cell (unhide HR) 2 rfl
  have fz2 := bx_free (unhide HR) 2 (by simp)
  have z3 := bx_cell (unhide HR) 3 rfl
  have fz3 := bx_free (unhide HR) 3 (by simp)
  have z4 := bx_cell (unhide HR) 4 rfl
  have fz4 := bx_free (unhide HR) 4 (by simp)
  have z5 := bx_cell (unhide HR) 5 rfl
  have fz5 := bx_free (unhide HR) 5 (by simp)
  have z6 := bx_cell (unhide HR) 6 rfl
  have fz6 := bx_free (unhide HR) 6 (by simp)
  have z7 := bx_cell (unhide HR) 7 rfl
  have fz7 := bx_free (unhide HR) 7 (by simp)
  have z8 := bx_cell (unhide HR) 8 rfl
  have fz8 := bx_free (unhide HR) 8 (by simp)
  have z9 := bx_cell (unhide HR) 9 rfl
  have fz9 := bx_free (unhide HR) 9 (by simp)
  have z10 := bx_cell (unhide HR) 10 rfl
  have fz10 := bx_free (unhide HR) 10 (by simp)
  have z11 := bx_cell (unhide HR) 11 rfl
  have fz11 := bx_free (unhide HR) 11 (by simp)
  have z12 := bx_cell (unhide HR) 12 rfl
  have fz12 := bx_free (unhide HR) 12 (by simp)
  have z13 := bx_cell (unhide HR) 13 rfl
  have fz13 := bx_free (unhide HR) 13 (by simp)
  go_wp2_with fail
  rw [set14]
  have HXF := hide (bx_setCells (us := [.int .i64 0, .int .i64 0, .int .i64 0, .int .i64 0, .int .i64 0, .int .i64 0, .int .i64 0, .float .f64 0, .string ⟨#[]⟩, .int .i64 0, .int .i64 0, .int .i64 0, .int .i64 0, .int .i64 0]) (unhide HR) rfl)
  have HBF := hide (below_setCells w.heap.size (Nat.le_refl _) [.int .i64 0, .int .i64 0, .int .i64 0, .int .i64 0, .int .i64 0, .int .i64 0, .int .i64 0, .float .f64 0, .string ⟨#[]⟩, .int .i64 0, .int .i64 0, .int .i64 0, .int .i64 0, .int .i64 0] 0 _ (unhide HBW))
  generalize World.setCells _ w.heap.size 0 [.int .i64 0, .int .i64 0, .int .i64 0, .int .i64 0, .int .i64 0, .int .i64 0, .int .i64 0, .float .f64 0, .string ⟨#[]⟩, .int .i64 0, .int .i64 0, .int .i64 0, .int .i64 0, .int .i64 0] = WF at HXF HBF ⊢
  have d0 := bx_cell (unhide HXF) 0 rfl
  have d1 := bx_cell (unhide HXF) 1 rfl
  have d2 := bx_cell (unhide HXF) 2 rfl
  have d3 := bx_cell (unhide HXF) 3 rfl
  have d4 := bx_cell (unhide HXF) 4 rfl
  have d5 := bx_cell (unhide HXF) 5 rfl
  have d6 := bx_cell (unhide HXF) 6 rfl
  have d7 := bx_cell (unhide HXF) 7 rfl
  have d8 := bx_cell (unhide HXF) 8 rfl
  have d9 := bx_cell (unhide HXF) 9 rfl
  have d10 := bx_cell (unhide HXF) 10 rfl
  have d11 := bx_cell (unhide HXF) 11 rfl
  have d12 := bx_cell (unhide HXF) 12 rfl
  have d13 := bx_cell (unhide HXF) 13 rfl
  refine bodyPost_ret (v := .tuple #[evV zEv, .int .i64 0, .bool false]) ?_ rfl ⟨by rw [unhide HEE], unhide HBF⟩
  simp [results, Tryd.f24, go_sem, d0, d1, d2, d3, d4, d5, d6, d7, d8, d9, d10, d11, d12, d13, evV, zEv]
set_option maxRecDepth 100000 in
set_option maxHeartbeats 1600000 in
theorem decodeO_any (v : Value) (l : List Int) (k : Nat) (w : World) (hrd : Rd w v l) (hb : Bts l) (hl : l.length ≤ 65536) (hk : k < l.length) (hkd : ¬ (1 ≤ l.getD k 0 ∧ l.getD k 0 ≤ 9)) :
    Calls Tryd.prog 24 #[v, .int .i64 k] w fun e w' => DcEnd w (evA l k) e w' := by
  have hsf := sfl
  have HEE : Hid (evT (evA l k) = .tuple #[evV zEv, .int .i64 0, .bool false]) := by
    show evT (evA l k) = _
    rw [evA_no hk (by
      rcases Classical.em (shF (l.getD k 0) = []) with h | h
      · exact h
      · exact absurd ((shF_ne _).1 h) hkd)]
    rfl
  have hbt := bts_get hb k
  have hcell0 : ∃ b off cap, v = .slice (some ⟨b, off, none⟩) l.length cap ∧ b < w.heap.size ∧ w.cell? ⟨b, off + k, none⟩ = some (.int .u8 (l.getD k 0)) := by
    obtain ⟨a, cap, hv, _, hc⟩ := hrd
    obtain ⟨b, off, rfl, hcell⟩ := hc (by intro h; rw [h] at hk; simp at hk)
    exact ⟨b, off, cap, hv, World.block_lt_of_cell? w _ (hcell 0 (by omega)), hcell k hk⟩
  generalize l.getD k 0 = kd at *
  have hf0 : fldK kd = [] := by unfold fldK; rw [if_neg (by omega), if_neg (by omega), if_neg (by omega), if_neg (by omega), if_neg (by omega)]
  have h1 := bx_made w [.int .i64 0, .int .i64 0, .int .i64 0, .int .i64 0, .int .i64 0, .int .i64 0, .int .i64 0, .float .f64 0, .string ⟨#[]⟩, .int .i64 0, .int .i64 0, .int .i64 0, .int .i64 0, .int .i64 0] 31
  have hs1 : (w.alloc (Obj.cells #[.int .i64 0, .int .i64 0, .int .i64 0, .int .i64 0, .int .i64 0, .int .i64 0, .int .i64 0, .float .f64 0, .string ⟨#[]⟩, .int .i64 0, .int .i64 0, .int .i64 0, .int .i64 0, .int .i64 0] 31)).heap.size = w.heap.size + 1 := by simp
  have h2 : Bx ((w.alloc (Obj.cells #[.int .i64 0, .int .i64 0, .int .i64 0, .int .i64 0, .int .i64 0, .int .i64 0, .int .i64 0, .float .f64 0, .string ⟨#[]⟩, .int .i64 0, .int .i64 0, .int .i64 0, .int .i64 0, .int .i64 0] 31)).alloc (Obj.cells #[.int .i64 kd, .int .i64 0, .int .i64 0, .int .i64 0, .int .i64 0, .int .i64 0, .int .i64 0, .float .f64 0, .string ⟨#[]⟩, .int .i64 0, .int .i64 0, .int .i64 0, .int .i64 0, .int .i64 0] 31)) (w.heap.size + 1) [.int .i64 kd, .int .i64 0, .int .i64 0, .int .i64 0, .int .i64 0, .int .i64 0, .int .i64 0, .float .f64 0, .string ⟨#[]⟩, .int .i64 0, .int .i64 0, .int .i64 0, .int .i64 0, .int .i64 0] := by
    have h := bx_made (w.alloc (Obj.cells #[.int .i64 0, .int .i64 0, .int .i64 0, .int .i64 0, .int .i64 0, .int .i64 0, .int .i64 0, .float .f64 0, .string ⟨#[]⟩, .int .i64 0, .int .i64 0, .int .i64 0, .int .i64 0, .int .i64 0] 31)) [.int .i64 kd, .int .i64 0, .int .i64 0, .int .i64 0, .int .i64 0, .int .i64 0, .int .i64 0, .float .f64 0, .string ⟨#[]⟩, .int .i64 0, .int .i64 0, .int .i64 0, .int .i64 0, .int .i64 0] 31
    rw [hs1] at h
    exact h
  have hb12 : Below (w.heap.size + 1) (w.alloc (Obj.cells #[.int .i64 0, .int .i64 0, .int .i64 0, .int .i64 0, .int .i64 0, .int .i64 0, .int .i64 0, .float .f64 0, .string ⟨#[]⟩, .int .i64 0, .int .i64 0, .int .i64 0, .int .i64 0, .int .i64 0] 31)) ((w.alloc (Obj.cells #[.int .i64 0, .int .i64 0, .int .i64 0, .int .i64 0, .int .i64 0, .int .i64 0, .int .i64 0, .float .f64 0, .string ⟨#[]⟩, .int .i64 0, .int .i64 0, .int .i64 0, .int .i64 0, .int .i64 0] 31)).alloc (Obj.cells #[.int .i64 kd, .int .i64 0, .int .i64 0, .int .i64 0, .int .i64 0, .int .i64 0, .int .i64 0, .float .f64 0, .string ⟨#[]⟩, .int .i64 0, .int .i64 0, .int .i64 0, .int .i64 0, .int .i64 0] 31)) := (Below.refl _ _).alloc (by omega) _
  have HR2 := hide (bx_below h1 hb12 (by omega))
  have HB2 : Hid (Below w.heap.size w ((w.alloc (Obj.cells #[.int .i64 0, .int .i64 0, .int .i64 0, .int .i64 0, .int .i64 0, .int .i64 0, .int .i64 0, .float .f64 0, .string ⟨#[]⟩, .int .i64 0, .int .i64 0, .int .i64 0, .int .i64 0, .int .i64 0] 31)).alloc (Obj.cells #[.int .i64 kd, .int .i64 0, .int .i64 0, .int .i64 0, .int .i64 0, .int .i64 0, .int .i64 0, .float .f64 0, .string ⟨#[]⟩, .int .i64 0, .int .i64 0, .int .i64 0, .int .i64 0, .int .i64 0] 31))) := ((Below.refl _ w).alloc (Nat.le_refl _) _).trans (hb12.mono (by omega))
  have HZ2 : Hid (((w.alloc (Obj.cells #[.int .i64 0, .int .i64 0, .int .i64 0, .int .i64 0, .int .i64 0, .int .i64 0, .int .i64 0, .float .f64 0, .string ⟨#[]⟩, .int .i64 0, .int .i64 0, .int .i64 0, .int .i64 0, .int .i64 0] 31)).alloc (Obj.cells #[.int .i64 kd, .int .i64 0, .int .i64 0, .int .i64 0, .int .i64 0, .int .i64 0, .int .i64 0, .float .f64 0, .string ⟨#[]⟩, .int .i64 0, .int .i64 0, .int .i64 0, .int .i64 0, .int .i64 0] 31)).heap.size = w.heap.size + 2) := by show _ = _; simp
  have x20 := bx_cell h2 0 rfl
  obtain ⟨b, off, cap, rfl, hbw, hcell⟩ := hcell0
  have hkl : (k : Int) < l.length := by omega
  have hll : (l.length : Int) ≤ 65536 := by omega
  obtain ⟨hk0, hk9⟩ := hbt
  clear h1 h2 hb12 hs1 hrd hb hkd
  go_enter Tryd.func24, Tryd.ntmps24
  go_wp2_with fail
  generalize ((w.alloc (Obj.cells #[.int .i64 0, .int .i64 0, .int .i64 0, .int .i64 0, .int .i64 0, .int .i64 0, .int .i64 0, .float .f64 0, .string ⟨#[]⟩, .int .i64 0, .int .i64 0, .int .i64 0, .int .i64 0, .int .i64 0] 31)).alloc (Obj.cells #[.int .i64 kd, .int .i64 0, .int .i64 0, .int .i64 0, .int .i64 0, .int .i64 0, .int .i64 0, .float .f64 0, .string ⟨#[]⟩, .int .i64 0, .int .i64 0, .int .i64 0, .int .i64 0, .int .i64 0] 31)) = W2 at HR2 HB2 HZ2 x20 ⊢
  refine (fields_any kd W2).mono ?_
  rintro r W3 ⟨g, rfl, hg3, hF3, hb3⟩
  rw [hf0]
  have HR := hide (bx_below (unhide HR2) hb3 (by rw [unhide HZ2]; omega))
  have HBW := hide ((unhide HB2).trans (hb3.mono (by rw [unhide HZ2]; omega)))
  clear hb3 hF3 x20 HR2 HB2 HZ2
  have z0 := bx_cell (unhide HR) 0 rfl
  have fz0 := bx_free (unhide HR) 0 (by simp)
  have z1 := bx_cell (unhide HR) 1 rfl
  have fz1 := bx_free (unhide HR) 1 (by simp)
  have z2 := bx_cell (unhide HR) 2 rfl
  have fz2 := bx_free (unhide HR) 2 (by simp)
  have z3 := bx_cell (unhide HR) 3 rfl
  have fz3 := bx_free (unhide HR) 3 (by simp)
  have z4 := bx_cell (unhide HR) 4 rfl
  have fz4 := bx_free (unhide HR) 4 (by simp)
  have z5 := bx_cell (unhide HR) 5 rfl
  have fz5 := bx_free (unhide HR) 5 (by simp)
  have z6 := bx_cell (unhide HR) 6 rfl
  have fz6 := bx_free (unhide HR) 6 (by simp)
  have z7 := bx_cell (unhide HR) 7 rfl
  have fz7 := bx_free (unhide HR) 7 (by simp)
  have z8 := bx_cell (unhide HR) 8 rfl
  have fz8 := bx_free (unhide HR) 8 (by simp)
  have z9 := bx_cell (unhide HR) 9 rfl
  have fz9 := bx_free (unhide HR) 9 (by simp)
  have z10 := bx_cell (unhide HR) 10 rfl
  have fz10 := bx_free (unhide HR) 10 (by simp)
  have z11 := bx_cell (unhide HR) 11 rfl
  have fz11 := bx_free (unhide HR) 11 (by simp)
  have z12 := bx_cell (unhide HR) 12 rfl
  have fz12 := bx_free (unhide HR) 12 (by simp)
  have z13 := bx_cell (unhide HR) 13 rfl
  have fz13 := bx_free (unhide HR) 13 (by simp)
  go_wp2_with fail
  rw [set14]
  have HXF := hide (bx_setCells (us := [.int .i64 0, .int .i64 0, .int .i64 0, .int .i64 0, .int .i64 0, .int .i64 0, .int .i64 0, .float .f64 0, .string ⟨#[]⟩, .int .i64 0, .int .i64 0, .int .i64 0, .int .i64 0, .int .i64 0]) (unhide HR) rfl)
  have HBF := hide (below_setCells w.heap.size (Nat.le_refl _) [.int .i64 0, .int .i64 0, .int .i64 0, .int .i64 0, .int .i64 0, .int .i64 0, .int .i64 0, .float .f64 0, .string ⟨#[]⟩, .int .i64 0, .int .i64 0, .int .i64 0, .int .i64 0, .int .i64 0] 0 _ (unhide HBW))
  generalize World.setCells _ w.heap.size 0 [.int .i64 0, .int .i64 0, .int .i64 0, .int .i64 0, .int .i64 0, .int .i64 0, .int .i64 0, .float .f64 0, .string ⟨#[]⟩, .int .i64 0, .int .i64 0, .int .i64 0, .int .i64 0, .int .i64 0] = WF at HXF HBF ⊢
  have d0 := bx_cell (unhide HXF) 0 rfl
  have d1 := bx_cell (unhide HXF) 1 rfl
  have d2 := bx_cell (unhide HXF) 2 rfl
  have d3 := bx_cell (unhide HXF) 3 rfl
  have d4 := bx_cell (unhide HXF) 4 rfl
  have d5 := bx_cell (unhide HXF) 5 rfl
  have d6 := bx_cell (unhide HXF) 6 rfl
  have d7 := bx_cell (unhide HXF) 7 rfl
  have d8 := bx_cell (unhide HXF) 8 rfl
  have d9 := bx_cell (unhide HXF) 9 rfl
  have d10 := bx_cell (unhide HXF) 10 rfl
  have d11 := bx_cell (unhide HXF) 11 rfl
  have d12 := bx_cell (unhide HXF) 12 rfl
  have d13 := bx_cell (unhide HXF) 13 rfl
  refine bodyPost_ret (v := .tuple #[evV zEv, .int .i64 0, .bool false]) ?_ rfl ⟨by rw [unhide HEE], unhide HBF⟩
  simp [results, Tryd.f24, go_sem, d0, d1, d2, d3, d4, d5, d6, d7, d8, d9, d10, d11, d12, d13, evV, zEv]
end Go.Proofs.YtfhjbhnfapdmmaaDoor
