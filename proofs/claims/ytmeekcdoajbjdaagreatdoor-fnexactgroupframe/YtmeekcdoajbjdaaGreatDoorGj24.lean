/-
  Events as values without a float, by the program: proved by walking the function.
-/
import Derived.Test.YtmeekcdoajbjdaaGreatDoorGj12
import Derived.StillTailTactics
import Derived.Handy
namespace Go.Proofs.YtmeekcdoajbjdaaGreatDoor
open Go.RowKit
set_option linter.unusedVariables false

theorem cells_madeV (w : World) (cs : List Value) (t : TypeId) : (w.alloc (Obj.cells cs.toArray t)).rangeAt w.heap.size 0 cs := fun j u h => by
  rw [cell_of_row _ w.heap.size (0 + j) cs.toArray t (0, 0) (heap_alloc_new w _)]
  simpa using h
theorem size_madeV (w : World) (o : Obj) : (w.alloc o).heap.size = w.heap.size + 1 := by simp
theorem there_madeV (w : World) (cs : List Value) (t : TypeId) : (w.alloc (Obj.cells cs.toArray t)).there w.heap.size 0 cs.length := there_block (heap_alloc_new w _) (by simp)
set_option maxRecDepth 100000 in
set_option maxHeartbeats 1600000 in
theorem valueOf_any (e : Ev) (w : World) :
    Calls Tryz.prog 44 #[evV e] w fun x w' => x = .returned (vlV e) ∧ Below w.heap.size w w' := by
  obtain ⟨kind, ⟨k, s, t, l, q, i, p, g⟩, id, other, qty, price, reason⟩ := e
  unfold evV vlV
  have hsf := sfl
  simp only
  generalize hfb : fbit p = fp
  have HFB := hide (fun W => hfb ▸ floatBits_any p W)
  clear hfb
  have hs1 : (w.alloc (Obj.cells #[.int .i64 kind, .int .i64 k, .int .i64 s, .int .i64 t, .int .i64 l, .int .i64 q, .int .i64 i, .float .f64 p, .string g, .int .i64 id, .int .i64 other, .int .i64 qty, .int .i64 price, .int .i64 reason] 46)).heap.size = w.heap.size + 1 := size_madeV _ _
  have hs2 : ((w.alloc (Obj.cells #[.int .i64 kind, .int .i64 k, .int .i64 s, .int .i64 t, .int .i64 l, .int .i64 q, .int .i64 i, .float .f64 p, .string g, .int .i64 id, .int .i64 other, .int .i64 qty, .int .i64 price, .int .i64 reason] 46)).alloc (Obj.cells #[.int .i64 0, .int .i64 0, .int .i64 0, .int .i64 0, .int .i64 0, .int .i64 0, .int .i64 0, .int .i64 0, .int .i64 0, .int .i64 0, .int .i64 0, .int .i64 0, .int .u64 0, .string ⟨#[]⟩] 76)).heap.size = w.heap.size + 2 := by rw [size_madeV, hs1]
  have hs3 : (((w.alloc (Obj.cells #[.int .i64 kind, .int .i64 k, .int .i64 s, .int .i64 t, .int .i64 l, .int .i64 q, .int .i64 i, .float .f64 p, .string g, .int .i64 id, .int .i64 other, .int .i64 qty, .int .i64 price, .int .i64 reason] 46)).alloc (Obj.cells #[.int .i64 0, .int .i64 0, .int .i64 0, .int .i64 0, .int .i64 0, .int .i64 0, .int .i64 0, .int .i64 0, .int .i64 0, .int .i64 0, .int .i64 0, .int .i64 0, .int .u64 0, .string ⟨#[]⟩] 76)).alloc (Obj.cells #[.int .i64 k, .int .i64 s, .int .i64 t, .int .i64 l, .int .i64 q, .int .i64 i, .float .f64 p, .string g] 44)).heap.size = w.heap.size + 3 := by rw [size_madeV, hs2]
  have b1 : Below (w.heap.size + 1) (w.alloc (Obj.cells #[.int .i64 kind, .int .i64 k, .int .i64 s, .int .i64 t, .int .i64 l, .int .i64 q, .int .i64 i, .float .f64 p, .string g, .int .i64 id, .int .i64 other, .int .i64 qty, .int .i64 price, .int .i64 reason] 46)) (((w.alloc (Obj.cells #[.int .i64 kind, .int .i64 k, .int .i64 s, .int .i64 t, .int .i64 l, .int .i64 q, .int .i64 i, .float .f64 p, .string g, .int .i64 id, .int .i64 other, .int .i64 qty, .int .i64 price, .int .i64 reason] 46)).alloc (Obj.cells #[.int .i64 0, .int .i64 0, .int .i64 0, .int .i64 0, .int .i64 0, .int .i64 0, .int .i64 0, .int .i64 0, .int .i64 0, .int .i64 0, .int .i64 0, .int .i64 0, .int .u64 0, .string ⟨#[]⟩] 76)).alloc (Obj.cells #[.int .i64 k, .int .i64 s, .int .i64 t, .int .i64 l, .int .i64 q, .int .i64 i, .float .f64 p, .string g] 44)) := (((Below.refl _ _).alloc (by rw [hs1]; omega) _).alloc (by rw [hs2]; omega) _)
  have b2 : Below (w.heap.size + 2) ((w.alloc (Obj.cells #[.int .i64 kind, .int .i64 k, .int .i64 s, .int .i64 t, .int .i64 l, .int .i64 q, .int .i64 i, .float .f64 p, .string g, .int .i64 id, .int .i64 other, .int .i64 qty, .int .i64 price, .int .i64 reason] 46)).alloc (Obj.cells #[.int .i64 0, .int .i64 0, .int .i64 0, .int .i64 0, .int .i64 0, .int .i64 0, .int .i64 0, .int .i64 0, .int .i64 0, .int .i64 0, .int .i64 0, .int .i64 0, .int .u64 0, .string ⟨#[]⟩] 76)) (((w.alloc (Obj.cells #[.int .i64 kind, .int .i64 k, .int .i64 s, .int .i64 t, .int .i64 l, .int .i64 q, .int .i64 i, .float .f64 p, .string g, .int .i64 id, .int .i64 other, .int .i64 qty, .int .i64 price, .int .i64 reason] 46)).alloc (Obj.cells #[.int .i64 0, .int .i64 0, .int .i64 0, .int .i64 0, .int .i64 0, .int .i64 0, .int .i64 0, .int .i64 0, .int .i64 0, .int .i64 0, .int .i64 0, .int .i64 0, .int .u64 0, .string ⟨#[]⟩] 76)).alloc (Obj.cells #[.int .i64 k, .int .i64 s, .int .i64 t, .int .i64 l, .int .i64 q, .int .i64 i, .float .f64 p, .string g] 44)) := ((Below.refl _ _).alloc (by rw [hs2]; omega) _)
  have r1 := range_below (cells_madeV w [.int .i64 kind, .int .i64 k, .int .i64 s, .int .i64 t, .int .i64 l, .int .i64 q, .int .i64 i, .float .f64 p, .string g, .int .i64 id, .int .i64 other, .int .i64 qty, .int .i64 price, .int .i64 reason] 46) b1 (by omega)
  have t2 := there_madeV (w.alloc (Obj.cells #[.int .i64 kind, .int .i64 k, .int .i64 s, .int .i64 t, .int .i64 l, .int .i64 q, .int .i64 i, .float .f64 p, .string g, .int .i64 id, .int .i64 other, .int .i64 qty, .int .i64 price, .int .i64 reason] 46)) [.int .i64 0, .int .i64 0, .int .i64 0, .int .i64 0, .int .i64 0, .int .i64 0, .int .i64 0, .int .i64 0, .int .i64 0, .int .i64 0, .int .i64 0, .int .i64 0, .int .u64 0, .string ⟨#[]⟩] 76
  have r3 := cells_madeV ((w.alloc (Obj.cells #[.int .i64 kind, .int .i64 k, .int .i64 s, .int .i64 t, .int .i64 l, .int .i64 q, .int .i64 i, .float .f64 p, .string g, .int .i64 id, .int .i64 other, .int .i64 qty, .int .i64 price, .int .i64 reason] 46)).alloc (Obj.cells #[.int .i64 0, .int .i64 0, .int .i64 0, .int .i64 0, .int .i64 0, .int .i64 0, .int .i64 0, .int .i64 0, .int .i64 0, .int .i64 0, .int .i64 0, .int .i64 0, .int .u64 0, .string ⟨#[]⟩] 76)) [.int .i64 k, .int .i64 s, .int .i64 t, .int .i64 l, .int .i64 q, .int .i64 i, .float .f64 p, .string g] 44
  rw [hs1] at t2
  rw [hs2] at r3
  have t2' := there_below t2 b2 (by omega)
  have HB3 : Hid (Below w.heap.size w (((w.alloc (Obj.cells #[.int .i64 kind, .int .i64 k, .int .i64 s, .int .i64 t, .int .i64 l, .int .i64 q, .int .i64 i, .float .f64 p, .string g, .int .i64 id, .int .i64 other, .int .i64 qty, .int .i64 price, .int .i64 reason] 46)).alloc (Obj.cells #[.int .i64 0, .int .i64 0, .int .i64 0, .int .i64 0, .int .i64 0, .int .i64 0, .int .i64 0, .int .i64 0, .int .i64 0, .int .i64 0, .int .i64 0, .int .i64 0, .int .u64 0, .string ⟨#[]⟩] 76)).alloc (Obj.cells #[.int .i64 k, .int .i64 s, .int .i64 t, .int .i64 l, .int .i64 q, .int .i64 i, .float .f64 p, .string g] 44))) := (((Below.refl _ _).alloc (Nat.le_refl _) _).alloc (by rw [hs1]; omega) _).alloc (by rw [hs2]; omega) _
  have HX : Hid (_ ∧ _ ∧ _) := ⟨r1, t2', r3⟩
  clear r1 t2 t2' r3 b1 b2 hs1 hs2 hs3
  go_enter Tryz.func44, Tryz.ntmps44
  go_wp2_with fail
  generalize (((w.alloc (Obj.cells #[.int .i64 kind, .int .i64 k, .int .i64 s, .int .i64 t, .int .i64 l, .int .i64 q, .int .i64 i, .float .f64 p, .string g, .int .i64 id, .int .i64 other, .int .i64 qty, .int .i64 price, .int .i64 reason] 46)).alloc (Obj.cells #[.int .i64 0, .int .i64 0, .int .i64 0, .int .i64 0, .int .i64 0, .int .i64 0, .int .i64 0, .int .i64 0, .int .i64 0, .int .i64 0, .int .i64 0, .int .i64 0, .int .u64 0, .string ⟨#[]⟩] 76)).alloc (Obj.cells #[.int .i64 k, .int .i64 s, .int .i64 t, .int .i64 l, .int .i64 q, .int .i64 i, .float .f64 p, .string g] 44)) = WW at HB3 HX ⊢
  obtain ⟨hr1, ht2, hr3⟩ := unhide HX
  have x0 := hr1 0 _ rfl
  have x1 := hr1 1 _ rfl
  have x2 := hr1 2 _ rfl
  have x3 := hr1 3 _ rfl
  have x4 := hr1 4 _ rfl
  have x5 := hr1 5 _ rfl
  have x6 := hr1 6 _ rfl
  have x7 := hr1 7 _ rfl
  have x8 := hr1 8 _ rfl
  have x9 := hr1 9 _ rfl
  have x10 := hr1 10 _ rfl
  have x11 := hr1 11 _ rfl
  have x12 := hr1 12 _ rfl
  have x13 := hr1 13 _ rfl
  have y0 := hr3 0 _ rfl
  have y1 := hr3 1 _ rfl
  have y2 := hr3 2 _ rfl
  have y3 := hr3 3 _ rfl
  have y4 := hr3 4 _ rfl
  have y5 := hr3 5 _ rfl
  have y6 := hr3 6 _ rfl
  have y7 := hr3 7 _ rfl
  simp only [Nat.zero_add] at x0 x1 x2 x3 x4 x5 x6 x7 x8 x9 x10 x11 x12 x13 y0 y1 y2 y3 y4 y5 y6 y7
  obtain ⟨v0, z0, f0⟩ := there1 ht2 0 (by decide)
  obtain ⟨v1, z1, f1⟩ := there1 ht2 1 (by decide)
  obtain ⟨v2, z2, f2⟩ := there1 ht2 2 (by decide)
  obtain ⟨v3, z3, f3⟩ := there1 ht2 3 (by decide)
  obtain ⟨v4, z4, f4⟩ := there1 ht2 4 (by decide)
  obtain ⟨v5, z5, f5⟩ := there1 ht2 5 (by decide)
  obtain ⟨v6, z6, f6⟩ := there1 ht2 6 (by decide)
  obtain ⟨v7, z7, f7⟩ := there1 ht2 7 (by decide)
  obtain ⟨v8, z8, f8⟩ := there1 ht2 8 (by decide)
  obtain ⟨v9, z9, f9⟩ := there1 ht2 9 (by decide)
  obtain ⟨v10, z10, f10⟩ := there1 ht2 10 (by decide)
  obtain ⟨v11, z11, f11⟩ := there1 ht2 11 (by decide)
  obtain ⟨v12, z12, f12⟩ := there1 ht2 12 (by decide)
  obtain ⟨v13, z13, f13⟩ := there1 ht2 13 (by decide)
  simp only [Nat.zero_add] at z0 f0 z1 f1 z2 f2 z3 f3 z4 f4 z5 f5 z6 f6 z7 f7 z8 f8 z9 f9 z10 f10 z11 f11 z12 f12 z13 f13
  have HT := hide ht2
  clear hr1 ht2 hr3 HX
  refine wp_region_still_tail 30 (by kernel_rfl) (by kernel_rfl) ?_
  simp only [List.take_succ_cons, List.take_zero, List.drop_succ_cons, List.drop_zero]
  repeat still_step
  still_call (unhide HFB _)
  repeat still_step
  refine wpStill_nil ?_
  go_wp2_with fail
  change bodyPost _ _ _ _ _ (WW.setCells (w.heap.size + 1) 0 [.int .i64 kind, .int .i64 id, .int .i64 other, .int .i64 qty, .int .i64 price, .int .i64 reason, .int .i64 k, .int .i64 s, .int .i64 t, .int .i64 l, .int .i64 q, .int .i64 i, .int .u64 fp, .string g]).drew
  have HRX := hide (World.rangeAt_setCells_same WW (w.heap.size + 1) 0 [.int .i64 kind, .int .i64 id, .int .i64 other, .int .i64 qty, .int .i64 price, .int .i64 reason, .int .i64 k, .int .i64 s, .int .i64 t, .int .i64 l, .int .i64 q, .int .i64 i, .int .u64 fp, .string g] (fun j hj => unhide HT j hj))
  have HBX := hide (below_setCells (w.heap.size + 1) (by omega) [.int .i64 kind, .int .i64 id, .int .i64 other, .int .i64 qty, .int .i64 price, .int .i64 reason, .int .i64 k, .int .i64 s, .int .i64 t, .int .i64 l, .int .i64 q, .int .i64 i, .int .u64 fp, .string g] 0 WW (unhide HB3))
  generalize WW.setCells (w.heap.size + 1) 0 [.int .i64 kind, .int .i64 id, .int .i64 other, .int .i64 qty, .int .i64 price, .int .i64 reason, .int .i64 k, .int .i64 s, .int .i64 t, .int .i64 l, .int .i64 q, .int .i64 i, .int .u64 fp, .string g] = WE at HRX HBX ⊢
  have d0 : WE.drew.cell? ⟨w.heap.size + 1, 0, none⟩ = some (.int .i64 kind) := unhide HRX 0 _ rfl
  have d1 : WE.drew.cell? ⟨w.heap.size + 1, 1, none⟩ = some (.int .i64 id) := unhide HRX 1 _ rfl
  have d2 : WE.drew.cell? ⟨w.heap.size + 1, 2, none⟩ = some (.int .i64 other) := unhide HRX 2 _ rfl
  have d3 : WE.drew.cell? ⟨w.heap.size + 1, 3, none⟩ = some (.int .i64 qty) := unhide HRX 3 _ rfl
  have d4 : WE.drew.cell? ⟨w.heap.size + 1, 4, none⟩ = some (.int .i64 price) := unhide HRX 4 _ rfl
  have d5 : WE.drew.cell? ⟨w.heap.size + 1, 5, none⟩ = some (.int .i64 reason) := unhide HRX 5 _ rfl
  have d6 : WE.drew.cell? ⟨w.heap.size + 1, 6, none⟩ = some (.int .i64 k) := unhide HRX 6 _ rfl
  have d7 : WE.drew.cell? ⟨w.heap.size + 1, 7, none⟩ = some (.int .i64 s) := unhide HRX 7 _ rfl
  have d8 : WE.drew.cell? ⟨w.heap.size + 1, 8, none⟩ = some (.int .i64 t) := unhide HRX 8 _ rfl
  have d9 : WE.drew.cell? ⟨w.heap.size + 1, 9, none⟩ = some (.int .i64 l) := unhide HRX 9 _ rfl
  have d10 : WE.drew.cell? ⟨w.heap.size + 1, 10, none⟩ = some (.int .i64 q) := unhide HRX 10 _ rfl
  have d11 : WE.drew.cell? ⟨w.heap.size + 1, 11, none⟩ = some (.int .i64 i) := unhide HRX 11 _ rfl
  have d12 : WE.drew.cell? ⟨w.heap.size + 1, 12, none⟩ = some (.int .u64 fp) := unhide HRX 12 _ rfl
  have d13 : WE.drew.cell? ⟨w.heap.size + 1, 13, none⟩ = some (.string g) := unhide HRX 13 _ rfl
  try simp only [Exit.inBlock, Exit.then]
  refine bodyPost_ret (by simp [results, Tryz.results44, go_sem, d0, d1, d2, d3, d4, d5, d6, d7, d8, d9, d10, d11, d12, d13]; try rfl) rfl ?_
  exact ⟨rfl, (unhide HBX).drew⟩
end Go.Proofs.YtmeekcdoajbjdaaGreatDoor
