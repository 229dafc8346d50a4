/-
  A command drawn out of the source: proved by walking the method.
-/
import Derived.Test.YthmgkabpcjkieaaVj19
namespace Go.Proofs.Ythmgkabpcjkieaa
open Go.RowKit
set_option linter.unusedVariables false

/-- The world of a region in which the source is asked: by how many operations have come up. -/
def BSd (B : Nat) (W0 : World) (v : Value) (l : List Int) (m0 : Int) (n : Nat) (W : World) : Prop := ∃ m', m' ≤ m0 + 3 * (n : Int) ∧ SrcEnd B W0 v l m' W
theorem bsd_more {B : Nat} {W0 W : World} {v : Value} {l : List Int} {m0 : Int} {n : Nat} (h : BSd B W0 v l m0 n W) : BSd B W0 v l m0 (n + 1) W := by
  obtain ⟨m', h1, h2⟩ := h
  exact ⟨m', by omega, h2⟩
theorem bsd_call {B : Nat} {W0 W W' : World} {v : Value} {l : List Int} {m0 m' : Int} {n : Nat} (h1 : m' ≤ m0 + 3 * (n : Int)) (h2 : SrcEnd B W0 v l m' W) (h : SrcEnd B W v l (m' + 3) W') : BSd B W0 v l m0 (n + 1) W' :=
  ⟨m' + 3, by omega, h.1, gr_trans h2.2 h.2⟩
theorem bsd_alloc {B : Nat} {W0 W : World} {v : Value} {l : List Int} {m0 : Int} {n : Nat} (h : BSd B W0 v l m0 n W) (o : Obj) : BSd B W0 v l m0 (n + 1) (W.alloc o) := by
  obtain ⟨m', h1, h2⟩ := h
  exact ⟨m', by omega, src_alloc h2 o⟩
/-- A drawn command in its block pt, and the source. -/
structure DrP (B pt : Nat) (w : World) (v : Value) (l : List Int) (m : Int) (c : Cm) (V : World) : Prop where
  dc : DrC B w.heap.size w v l m V
  r : V.rangeAt pt 0 c.vs
  t : V.there pt 0 8
  lt : pt < V.heap.size
theorem drP_more {B pt : Nat} {w V : World} {v : Value} {l : List Int} {m m' : Int} {c : Cm} (h : DrP B pt w v l m c V) (hm : m ≤ m') : DrP B pt w v l m' c V :=
  ⟨⟨⟨src_more h.dc.e.1 hm, h.dc.e.2⟩, h.dc.t⟩, h.r, h.t, h.lt⟩
theorem drP_step {B pt : Nat} {w V V' : World} {v : Value} {l : List Int} {m m' : Int} {c : Cm} (h : DrP B pt w v l m c V) (hB : B < w.heap.size) (hp : w.heap.size < pt) (hE : SrcEnd B V v l m' V') : DrP B pt w v l m' c V' :=
  ⟨drC_step h.dc hB hE (by have := h.lt; omega), range_grown h.r hE.2 h.lt (fun e => by have := Option.some.inj e; omega), there_grown h.t hE.2 h.lt (fun e => by have := Option.some.inj e; omega), Nat.lt_of_lt_of_le h.lt hE.2.size⟩
theorem drP_set {B pt : Nat} {w V : World} {v : Value} {l : List Int} {m : Int} {c c' : Cm} (h : DrP B pt w v l m c V) (hv : l ≠ [] → ∃ k, v.ownBlock = some k ∧ k < w.heap.size) (hB : B < w.heap.size) (hp : w.heap.size < pt) (j : Nat) (u : Value) (hj : j < 8) (hc : c.vs.set j u = c'.vs) : DrP B pt w v l m c' (V.setCell ⟨pt, j, none⟩ u) := by
  refine ⟨⟨srcE_set (b := pt) (o := j) hv h.dc.e hB (by omega) [u], World.there_setCells (vs := [u]) h.dc.t pt j⟩, ?_, World.there_setCells (vs := [u]) h.t pt j, Nat.lt_of_lt_of_le h.lt (gr_setsD pt [u] j V).size⟩
  have := set_range_in (v := u) h.r (j0 := j) hj
  rwa [Nat.zero_add, hc] at this
def tys8 : List Value := [.int .i64 1, .int .i64 1, .int .i64 1, .int .i64 2, .int .i64 3, .int .i64 4, .int .i64 5, .int .i64 5]
def tag3 : List ByteArray := [⟨#[]⟩, ⟨#[97]⟩, ⟨#[100, 101, 115, 107, 32, 55]⟩]
theorem tag3_len : ∀ s ∈ tag3, s.size ≤ 20 := by decide +kernel
/-- What each operation of a new order drawn has. -/
def D10 (B S0 : Nat) (Fin : Nat → World → Prop) (p : Prop) (W : World) : Nat → Value → Prop
  | 0, v => v = .pointer (some ⟨B, 0, none⟩)
  | 1, v => ∃ y : Int, v = .int .i64 y
  | 2, v => ∃ y : Int, v = .int .i64 y
  | 3, v => ∃ g, v = .slice (some ⟨g, 0, none⟩) 8 8 ∧ S0 ≤ g ∧ (¬ p → W.rangeAt g 0 tys8)
  | 4, v => v = .pointer (some ⟨B, 0, none⟩)
  | 5, v => ∃ k : Nat, v = .int .i64 k ∧ k < 8
  | 6, v => ∃ g k, v = .pointer (some ⟨g, k, none⟩) ∧ k < 8 ∧ S0 ≤ g ∧ (¬ p → W.rangeAt g 0 tys8)
  | 7, v => ∃ y : Int, v = .int .i64 y
  | 8, v => v = .pointer (some ⟨B, 0, none⟩)
  | 9, v => ∃ y : Int, v = .int .i64 y
  | 10, v => ∃ y : Int, v = .int .i64 y
  | 11, v => v = .pointer (some ⟨B, 0, none⟩)
  | 12, v => ∃ g, v = .slice (some ⟨g, 0, none⟩) 3 3 ∧ S0 ≤ g ∧ (¬ p → W.rangeAt g 0 (tag3.map .string))
  | 13, v => ∃ s, v = .string s ∧ s.size ≤ 20
  | 14, v => ∃ c : Cm, v = .agg c.vs.toArray ∧ DrOk c
  | 15, v => ∃ pt, v = .pointer (some ⟨pt, 0, none⟩) ∧ S0 ≤ pt ∧ (¬ p → pt < W.heap.size ∧ W.there pt 0 8) ∧ (p → Fin pt W)
  | _, _ => True
theorem d10_mono {B S0 : Nat} {Fin : Nat → World → Prop} {p : Prop} {W W' : World} (hp : ¬ p) (hB : B < S0) (hg : W.grownBy W' (some B)) : ∀ j v, D10 B S0 Fin p W j v → D10 B S0 Fin p W' j v := by
  have e : ∀ g (vs : List Value) (u : Value), S0 ≤ g → W.rangeAt g 0 (u :: vs) → W'.rangeAt g 0 (u :: vs) := fun g vs u h h1 => range_grown h1 hg (World.block_lt_of_cell? W _ (h1 0 _ rfl)) (fun e => by have := Option.some.inj e; omega)
  intro j v h
  match j with
  | 3 => obtain ⟨g, h1, h2, h3⟩ := h; exact ⟨g, h1, h2, fun q => e g _ _ h2 (h3 q)⟩
  | 6 => obtain ⟨g, k, h1, h2, h3, h4⟩ := h; exact ⟨g, k, h1, h2, h3, fun q => e g _ _ h3 (h4 q)⟩
  | 12 => obtain ⟨g, h1, h2, h3⟩ := h; exact ⟨g, h1, h2, fun q => e g _ _ h2 (h3 q)⟩
  | 15 => obtain ⟨pt, h1, h2, h3, h4⟩ := h; exact ⟨pt, h1, h2, fun q => ⟨Nat.lt_of_lt_of_le (h3 q).1 hg.size, there_grown (h3 q).2 hg (h3 q).1 (fun e => by have := Option.some.inj e; omega)⟩, fun q => absurd q hp⟩
  | 0 | 1 | 2 | 4 | 5 | 7 | 8 | 9 | 10 | 11 | 13 | 14 => exact h
  | j + 16 => trivial
theorem tys8_at {W : World} {g k : Nat} (h : W.rangeAt g 0 tys8) (hk : k < 8) : ∃ y : Int, W.cell? ⟨g, k, none⟩ = some (.int .i64 y) := by
  rcases (by omega : k = 0 ∨ k = 1 ∨ k = 2 ∨ k = 3 ∨ k = 4 ∨ k = 5 ∨ k = 6 ∨ k = 7) with rfl | rfl | rfl | rfl | rfl | rfl | rfl | rfl
  all_goals first | exact ⟨_, h 0 _ rfl⟩ | exact ⟨_, h 1 _ rfl⟩ | exact ⟨_, h 2 _ rfl⟩ | exact ⟨_, h 3 _ rfl⟩ | exact ⟨_, h 4 _ rfl⟩ | exact ⟨_, h 5 _ rfl⟩ | exact ⟨_, h 6 _ rfl⟩ | exact ⟨_, h 7 _ rfl⟩
set_option maxRecDepth 100000 in
set_option maxHeartbeats 3200000 in
theorem cmd_drawn (B : Nat) (v : Value) (l : List Int) (m ids : Int) (w : World) (h : Src B w v l m) (hm : m ≤ 700000000) (hi0 : 0 ≤ ids) (hi1 : ids ≤ 1000) :
    Calls Try.prog 27 #[.pointer (some ⟨B, 0, none⟩), .int .i64 ids] w fun e w' => ∃ c : Cm, e = .returned (.agg c.vs.toArray) ∧ DrOk c ∧ SrcEnd B w v l (m + 100) w' := by
  have HV := hide (src_far h)
  have hB := src_lt h
  have HD0 : Hid (DrC B w.heap.size w v l m (w.alloc (Obj.cells #[.int .i64 0, .int .i64 0, .int .i64 0, .int .i64 0, .int .i64 0, .int .i64 0, .float .f64 0, .string ⟨#[]⟩] 66))) := ⟨src_alloc (src_refl h) _, (bx_made w [.int .i64 0, .int .i64 0, .int .i64 0, .int .i64 0, .int .i64 0, .int .i64 0, .float .f64 0, .string ⟨#[]⟩] 66).t⟩
  have hs0 : w.heap.size < (w.alloc (Obj.cells #[.int .i64 0, .int .i64 0, .int .i64 0, .int .i64 0, .int .i64 0, .int .i64 0, .float .f64 0, .string ⟨#[]⟩] 66)).heap.size := by simp
  clear h
  go_enter Try.func27, Try.ntmps27
  go_wp2_with fail
  generalize (w.alloc (Obj.cells #[.int .i64 0, .int .i64 0, .int .i64 0, .int .i64 0, .int .i64 0, .int .i64 0, .float .f64 0, .string ⟨#[]⟩] 66)) = W0 at HD0 hs0 ⊢
  refine (next_any B v l m 12 W0 (unhide HD0).e.1 (by omega) (by omega) (by omega)).mono ?_
  rintro e W1 ⟨y, rfl, hy0, hy1, hE⟩
  have HD1 := hide (drC_step (unhide HD0) hB hE hs0)
  have hs1 : w.heap.size < W1.heap.size := Nat.lt_of_lt_of_le hs0 hE.2.size
  clear hE HD0 hs0
  by_cases e0 : y = 0
  · subst e0
    go_wp2_with fail
    refine (rawCmd_drawn B v l (m + 3) W1 (unhide HD1).e.1 (by omega)).mono ?_
    rintro e W2 ⟨⟨y1, y2, y3, y4, y5, y6, y7, y8⟩, rfl, hy8, hE⟩
    have HD2 := hide (drC_step (unhide HD1) hB hE hs1)
    clear hE HD1 hs1
    unfold Cm.vs
    simp only
    have HTH := hide (unhide HD2).t
    have HSC : Hid ((W2.setCells w.heap.size 0 [.int .i64 y1, .int .i64 y2, .int .i64 y3, .int .i64 y4, .int .i64 y5, .int .i64 y6, .float .f64 y7, .string y8]).rangeAt w.heap.size 0 [.int .i64 y1, .int .i64 y2, .int .i64 y3, .int .i64 y4, .int .i64 y5, .int .i64 y6, .float .f64 y7, .string y8]) := World.rangeAt_setCells_same _ _ _ _ (unhide HD2).t
    have HEN : Hid (SrcEnd B w v l (m + 3 + 30) (W2.setCells w.heap.size 0 [.int .i64 y1, .int .i64 y2, .int .i64 y3, .int .i64 y4, .int .i64 y5, .int .i64 y6, .float .f64 y7, .string y8])) := srcE_set (unhide HV) (unhide HD2).e hB (Nat.le_refl _) _
    try dsimp only
    rename_i K1 hK1 K2 hK2
    refine hK2 _ _ ?_
    have HK1 := hide hK1
    clear hK1 hK2
    refine wpList_store_mid rfl 66 (.tmp 4) (.tmp 11) rfl w.heap.size 0 #[.int .i64 y1, .int .i64 y2, .int .i64 y3, .int .i64 y4, .int .i64 y5, .int .i64 y6, .float .f64 y7, .string y8] rfl rfl (unhide HTH) (by kernel_rfl) (by simp [Value.oneCell']) ?_
    change wpList _ _ _ _ _ (W2.setCells w.heap.size 0 [.int .i64 y1, .int .i64 y2, .int .i64 y3, .int .i64 y4, .int .i64 y5, .int .i64 y6, .float .f64 y7, .string y8])
    generalize W2.setCells w.heap.size 0 [.int .i64 y1, .int .i64 y2, .int .i64 y3, .int .i64 y4, .int .i64 y5, .int .i64 y6, .float .f64 y7, .string y8] = WF at HSC HEN ⊢
    have hK1 := unhide HK1
    go_wp2_with fail
    have d0 := unhide HSC 0 _ rfl
    have d1 := unhide HSC 1 _ rfl
    have d2 := unhide HSC 2 _ rfl
    have d3 := unhide HSC 3 _ rfl
    have d4 := unhide HSC 4 _ rfl
    have d5 := unhide HSC 5 _ rfl
    have d6 := unhide HSC 6 _ rfl
    have d7 := unhide HSC 7 _ rfl
    simp only [Nat.zero_add] at d0 d1 d2 d3 d4 d5 d6 d7
    refine bodyPost_ret (by simp [results, Try.results27, go_sem, d0, d1, d2, d3, d4, d5, d6, d7]; try rfl) rfl ?_
    exact ⟨⟨y1, y2, y3, y4, y5, y6, y7, y8⟩, rfl, hy8, src_more (unhide HEN).1 (by omega), (unhide HEN).2⟩
  have b0 : (y == 0) = false := by simpa using e0
  by_cases e1 : y = 1
  · subst e1
    have hwr : IntKind.i64.wrap (ids + 1) = ids + 1 := by rw [IntKind.wrap_i64]; omega
    go_wp2_with fail
    refine (next_any B v l (m + 3) (ids + 1) W1 (unhide HD1).e.1 (by omega) (by omega) (by omega)).mono ?_
    rintro e W2 ⟨z, rfl, hz0, hz1, hE⟩
    have HD2 := hide (drC_step (unhide HD1) hB hE hs1)
    have hwz : IntKind.i64.wrap (1 + z) = 1 + z := by rw [IntKind.wrap_i64]; omega
    clear hE HD1 hs1
    have HTH := hide (unhide HD2).t
    have HSC : Hid ((W2.setCells w.heap.size 0 [.int .i64 2, .int .i64 0, .int .i64 0, .int .i64 0, .int .i64 0, .int .i64 (1 + z), .float .f64 0, .string ⟨#[]⟩]).rangeAt w.heap.size 0 [.int .i64 2, .int .i64 0, .int .i64 0, .int .i64 0, .int .i64 0, .int .i64 (1 + z), .float .f64 0, .string ⟨#[]⟩]) := World.rangeAt_setCells_same _ _ _ _ (unhide HD2).t
    have HEN : Hid (SrcEnd B w v l (m + 3 + 3) (W2.setCells w.heap.size 0 [.int .i64 2, .int .i64 0, .int .i64 0, .int .i64 0, .int .i64 0, .int .i64 (1 + z), .float .f64 0, .string ⟨#[]⟩])) := srcE_set (unhide HV) (unhide HD2).e hB (Nat.le_refl _) _
    try dsimp only
    rename_i K1 hK1 K2 hK2
    refine hK2 _ _ ?_
    have HK1 := hide hK1
    clear hK1 hK2
    refine wpList_step fun K3 hK3 => ?_
    have HK3 := hide hK3
    clear hK3
    rw [if_pos (by rfl)]
    unfold Oper.wp
    go_simp
    refine unhide HK3 _ _ ?_
    clear HK3
    refine wpList_step fun K3 hK3 => ?_
    have HK3 := hide hK3
    clear hK3
    rw [if_pos (by rfl)]
    unfold Oper.wp
    go_simp
    refine unhide HK3 _ _ ?_
    clear HK3
    refine wpList_store_mid rfl 66 (.tmp 4) (.tmp 19) rfl w.heap.size 0 #[.int .i64 2, .int .i64 0, .int .i64 0, .int .i64 0, .int .i64 0, .int .i64 (1 + z), .float .f64 0, .string ⟨#[]⟩] rfl rfl (unhide HTH) (by kernel_rfl) (by simp [Value.oneCell']) ?_
    change wpList _ _ _ _ _ (W2.setCells w.heap.size 0 [.int .i64 2, .int .i64 0, .int .i64 0, .int .i64 0, .int .i64 0, .int .i64 (1 + z), .float .f64 0, .string ⟨#[]⟩])
    generalize W2.setCells w.heap.size 0 [.int .i64 2, .int .i64 0, .int .i64 0, .int .i64 0, .int .i64 0, .int .i64 (1 + z), .float .f64 0, .string ⟨#[]⟩] = WF at HSC HEN ⊢
    have hK1 := unhide HK1
    go_wp2_with fail
    have d0 := unhide HSC 0 _ rfl
    have d1 := unhide HSC 1 _ rfl
    have d2 := unhide HSC 2 _ rfl
    have d3 := unhide HSC 3 _ rfl
    have d4 := unhide HSC 4 _ rfl
    have d5 := unhide HSC 5 _ rfl
    have d6 := unhide HSC 6 _ rfl
    have d7 := unhide HSC 7 _ rfl
    simp only [Nat.zero_add] at d0 d1 d2 d3 d4 d5 d6 d7
    refine bodyPost_ret (by simp [results, Try.results27, go_sem, d0, d1, d2, d3, d4, d5, d6, d7]; try rfl) rfl ?_
    exact ⟨⟨2, 0, 0, 0, 0, 1 + z, 0, ⟨#[]⟩⟩, rfl, ⟨by show ByteArray.size ⟨#[]⟩ ≤ 20; decide, prW_of (by kernel_rfl)⟩, src_more (unhide HEN).1 (by omega), (unhide HEN).2⟩
  have b1 : (y == 1) = false := by simpa using e1
  by_cases e2 : y = 2
  · subst e2
    have hwr : IntKind.i64.wrap (ids + 1) = ids + 1 := by rw [IntKind.wrap_i64]; omega
    go_wp2_with fail
    refine (next_any B v l (m + 3) (ids + 1) W1 (unhide HD1).e.1 (by omega) (by omega) (by omega)).mono ?_
    rintro e W2 ⟨z, rfl, hz0, hz1, hE⟩
    have HD2 := hide (drC_step (unhide HD1) hB hE hs1)
    have hs2 : w.heap.size < W2.heap.size := Nat.lt_of_lt_of_le hs1 hE.2.size
    have hwz : IntKind.i64.wrap (1 + z) = 1 + z := by rw [IntKind.wrap_i64]; omega
    clear hE HD1 hs1
    go_wp2_with fail
    refine (next_any B v l (m + 3 + 3) 6 W2 (unhide HD2).e.1 (by omega) (by omega) (by omega)).mono ?_
    rintro e W3 ⟨u, rfl, hu0, hu1, hE⟩
    have HD3 := hide (drC_step (unhide HD2) hB hE hs2)
    clear hE HD2 hs2
    have HTH := hide (unhide HD3).t
    have HSC : Hid ((W3.setCells w.heap.size 0 [.int .i64 3, .int .i64 0, .int .i64 0, .int .i64 0, .int .i64 u, .int .i64 (1 + z), .float .f64 0, .string ⟨#[]⟩]).rangeAt w.heap.size 0 [.int .i64 3, .int .i64 0, .int .i64 0, .int .i64 0, .int .i64 u, .int .i64 (1 + z), .float .f64 0, .string ⟨#[]⟩]) := World.rangeAt_setCells_same _ _ _ _ (unhide HD3).t
    have HEN : Hid (SrcEnd B w v l (m + 3 + 3 + 3) (W3.setCells w.heap.size 0 [.int .i64 3, .int .i64 0, .int .i64 0, .int .i64 0, .int .i64 u, .int .i64 (1 + z), .float .f64 0, .string ⟨#[]⟩])) := srcE_set (unhide HV) (unhide HD3).e hB (Nat.le_refl _) _
    try dsimp only
    rename_i K1 hK1 K2 hK2
    refine hK2 _ _ ?_
    have HK1 := hide hK1
    clear hK1 hK2
    refine wpList_step fun K3 hK3 => ?_
    have HK3 := hide hK3
    clear hK3
    rw [if_pos (by rfl)]
    unfold Oper.wp
    go_simp
    refine unhide HK3 _ _ ?_
    clear HK3
    refine wpList_store_mid rfl 66 (.tmp 4) (.tmp 29) rfl w.heap.size 0 #[.int .i64 3, .int .i64 0, .int .i64 0, .int .i64 0, .int .i64 u, .int .i64 (1 + z), .float .f64 0, .string ⟨#[]⟩] rfl rfl (unhide HTH) (by kernel_rfl) (by simp [Value.oneCell']) ?_
    change wpList _ _ _ _ _ (W3.setCells w.heap.size 0 [.int .i64 3, .int .i64 0, .int .i64 0, .int .i64 0, .int .i64 u, .int .i64 (1 + z), .float .f64 0, .string ⟨#[]⟩])
    generalize W3.setCells w.heap.size 0 [.int .i64 3, .int .i64 0, .int .i64 0, .int .i64 0, .int .i64 u, .int .i64 (1 + z), .float .f64 0, .string ⟨#[]⟩] = WF at HSC HEN ⊢
    have hK1 := unhide HK1
    go_wp2_with fail
    have d0 := unhide HSC 0 _ rfl
    have d1 := unhide HSC 1 _ rfl
    have d2 := unhide HSC 2 _ rfl
    have d3 := unhide HSC 3 _ rfl
    have d4 := unhide HSC 4 _ rfl
    have d5 := unhide HSC 5 _ rfl
    have d6 := unhide HSC 6 _ rfl
    have d7 := unhide HSC 7 _ rfl
    simp only [Nat.zero_add] at d0 d1 d2 d3 d4 d5 d6 d7
    refine bodyPost_ret (by simp [results, Try.results27, go_sem, d0, d1, d2, d3, d4, d5, d6, d7]; try rfl) rfl ?_
    exact ⟨⟨3, 0, 0, 0, u, 1 + z, 0, ⟨#[]⟩⟩, rfl, ⟨by show ByteArray.size ⟨#[]⟩ ≤ 20; decide, prW_of (by kernel_rfl)⟩, src_more (unhide HEN).1 (by omega), (unhide HEN).2⟩
  have b2 : (y == 2) = false := by simpa using e2
  by_cases e3 : y = 3
  · subst e3
    have HSC : Hid ((W1.setCells w.heap.size 0 [.int .i64 4, .int .i64 0, .int .i64 0, .int .i64 0, .int .i64 0, .int .i64 0, .float .f64 0, .string ⟨#[]⟩]).rangeAt w.heap.size 0 [.int .i64 4, .int .i64 0, .int .i64 0, .int .i64 0, .int .i64 0, .int .i64 0, .float .f64 0, .string ⟨#[]⟩]) := World.rangeAt_setCells_same _ _ _ _ (unhide HD1).t
    have HEN : Hid (SrcEnd B w v l (m + 3) (W1.setCells w.heap.size 0 [.int .i64 4, .int .i64 0, .int .i64 0, .int .i64 0, .int .i64 0, .int .i64 0, .float .f64 0, .string ⟨#[]⟩])) := srcE_set (unhide HV) (unhide HD1).e hB (Nat.le_refl _) _
    try dsimp only
    repeat (first | (refine wpList_store_mid rfl 66 (.tmp 4) (.tmp 32) rfl w.heap.size 0 #[.int .i64 4, .int .i64 0, .int .i64 0, .int .i64 0, .int .i64 0, .int .i64 0, .float .f64 0, .string ⟨#[]⟩] rfl rfl (unhide HD1).t (by kernel_rfl) (by simp [Value.oneCell']) ?_; change wpList _ _ _ _ _ (W1.setCells w.heap.size 0 [.int .i64 4, .int .i64 0, .int .i64 0, .int .i64 0, .int .i64 0, .int .i64 0, .float .f64 0, .string ⟨#[]⟩])) | go_step)
    generalize W1.setCells w.heap.size 0 [.int .i64 4, .int .i64 0, .int .i64 0, .int .i64 0, .int .i64 0, .int .i64 0, .float .f64 0, .string ⟨#[]⟩] = WF at HSC HEN ⊢
    have d0 := unhide HSC 0 _ rfl
    have d1 := unhide HSC 1 _ rfl
    have d2 := unhide HSC 2 _ rfl
    have d3 := unhide HSC 3 _ rfl
    have d4 := unhide HSC 4 _ rfl
    have d5 := unhide HSC 5 _ rfl
    have d6 := unhide HSC 6 _ rfl
    have d7 := unhide HSC 7 _ rfl
    simp only [Nat.zero_add] at d0 d1 d2 d3 d4 d5 d6 d7
    refine bodyPost_ret (by simp [results, Try.results27, go_sem, d0, d1, d2, d3, d4, d5, d6, d7]; try rfl) rfl ?_
    exact ⟨⟨4, 0, 0, 0, 0, 0, 0, ⟨#[]⟩⟩, rfl, ⟨by show ByteArray.size ⟨#[]⟩ ≤ 20; decide, prW_of (by kernel_rfl)⟩, src_more (unhide HEN).1 (by omega), (unhide HEN).2⟩
  have b3 : (y == 3) = false := by simpa using e3
  clear e0 e1 e2 e3
  go_wp2_with fail
  have hB1 : B < W1.heap.size := by omega
  refine wp_region_inv2 (RS (BSd B W1 v l (m + 3)) (fun f => { tmps := #[.pointer (some ⟨B, 0, none⟩), .int .i64 ids, undef, undef, .pointer (some ⟨w.heap.size, 0, none⟩), f 15, .pointer (some ⟨B, 0, none⟩), .int .i64 y, .bool false, .bool false, undef, undef, .bool false, .bool false, undef, undef, undef, undef, undef, undef, .bool false, .bool false, undef, undef, undef, undef, undef, undef, undef, undef, .bool false, .bool false, undef, f 0, f 1, f 2, f 3, f 4, f 5, f 6, f 7, f 8, f 9, f 10, f 11, f 12, f 13, f 14, undef, undef, undef, undef, undef, undef, undef, undef, undef, undef, undef, undef, undef, undef, undef, undef, undef, undef], defers := [] }) 16 (D10 B W1.heap.size (fun pt W => ∃ c : Cm, DrOk c ∧ W.rangeAt pt 0 c.vs ∧ W.there pt 0 8 ∧ pt < W.heap.size ∧ DrC B w.heap.size w v l (m + 60) W))) (by kernel_rfl) ?_ ?_ ?_
  · exact ⟨fun j => undef, rfl, fun _ => ⟨m + 3, by simp, src_drew (src_refl (unhide HD1).e.1) 1⟩, fun j hj => by rw [List.getElem?_replicate] at hj; split at hj <;> simp at hj⟩
  · rintro x A V ⟨f, rfl, -, hD⟩ hx hrd
    have hallx := ready_all hrd hx (acyc _ (by kernel_rfl))
    obtain ⟨pt, e15, hSp, -, hfin⟩ := hD 15 (hallx 15 (by simp))
    obtain ⟨⟨ck, cs, ct, cl, cq, ci, cp, cg⟩, hcg, hr, ht, hpl, hdc⟩ := hfin (hallx 16 (by simp))
    have HP : Hid (DrP B pt w v l (m + 60) ⟨ck, cs, ct, cl, cq, ci, cp, cg⟩ V) := ⟨hdc, hr, ht, hpl⟩
    have HCG : Hid (cg.size ≤ 20) := hcg.1
    have HCP : Hid (PrW cp) := hcg.2
    have hsp : w.heap.size < pt := Nat.lt_of_lt_of_le hs1 hSp
    dsimp only
    simp only [e15]
    clear hD hallx hrd hx hr ht hdc hfin e15 HD1 hSp hpl hcg
    generalize f 0 = a0, f 1 = a1, f 2 = a2, f 3 = a3, f 4 = a4, f 5 = a5, f 6 = a6, f 7 = a7, f 8 = a8, f 9 = a9, f 10 = a10, f 11 = a11, f 12 = a12, f 13 = a13, f 14 = a14
    go_step
    go_step
    refine wp_seq_k fun K2 hK2 => ?_
    have HK2 := hide hK2
    clear hK2
    have HT : Hid (∀ (u48 u49 u50 u51 u52 u53 u54 u55 u56 : Value) (p' : Nat) (V' : World), PrW p' → DrP B pt w v l (m + 63) ⟨ck, cs, ct, cl, cq, ci, p', cg⟩ V' → K2 { tmps := #[.pointer (some ⟨B, 0, none⟩), .int .i64 ids, undef, undef, .pointer (some ⟨w.heap.size, 0, none⟩), .pointer (some ⟨pt, 0, none⟩), .pointer (some ⟨B, 0, none⟩), .int .i64 y, .bool false, .bool false, undef, undef, .bool false, .bool false, undef, undef, undef, undef, undef, undef, .bool false, .bool false, undef, undef, undef, undef, undef, undef, undef, undef, .bool false, .bool false, undef, a0, a1, a2, a3, a4, a5, a6, a7, a8, a9, a10, a11, a12, a13, a14, u48, u49, u50, u51, u52, u53, u54, u55, u56, undef, undef, undef, undef, undef, undef, undef, undef, undef], defers := [] } V') := by
      intro u48 u49 u50 u51 u52 u53 u54 u55 u56 p' V' hpw hP
      have HPW := hide hpw
      clear hpw
      have HP1 := hide hP
      clear hP HP
      refine unhide HK2 _ _ ?_
      clear HK2
      refine wp_seq_k fun K3 hK3 => ?_
      have HK3 := hide hK3
      clear hK3
      have HT2 : Hid (∀ (u48 u49 u50 u51 u52 u53 u54 u55 u56 u57 u58 u59 u60 u61 u62 u63 u64 : Value) (l' : Int) (V2 : World), DrP B pt w v l (m + 66) ⟨ck, cs, ct, l', cq, ci, p', cg⟩ V2 → K3 { tmps := #[.pointer (some ⟨B, 0, none⟩), .int .i64 ids, undef, undef, .pointer (some ⟨w.heap.size, 0, none⟩), .pointer (some ⟨pt, 0, none⟩), .pointer (some ⟨B, 0, none⟩), .int .i64 y, .bool false, .bool false, undef, undef, .bool false, .bool false, undef, undef, undef, undef, undef, undef, .bool false, .bool false, undef, undef, undef, undef, undef, undef, undef, undef, .bool false, .bool false, undef, a0, a1, a2, a3, a4, a5, a6, a7, a8, a9, a10, a11, a12, a13, a14, u48, u49, u50, u51, u52, u53, u54, u55, u56, u57, u58, u59, u60, u61, u62, u63, u64, undef], defers := [] } V2) := by
        intro u48 u49 u50 u51 u52 u53 u54 u55 u56 u57 u58 u59 u60 u61 u62 u63 u64 l' V2 hP
        have HTH := hide hP.dc.t
        have HSC : Hid ((V2.setCells w.heap.size 0 [.int .i64 ck, .int .i64 cs, .int .i64 ct, .int .i64 l', .int .i64 cq, .int .i64 ci, .float .f64 p', .string cg]).rangeAt w.heap.size 0 [.int .i64 ck, .int .i64 cs, .int .i64 ct, .int .i64 l', .int .i64 cq, .int .i64 ci, .float .f64 p', .string cg]) := World.rangeAt_setCells_same _ _ _ _ hP.dc.t
        have HEN : Hid (SrcEnd B w v l (m + 66) (V2.setCells w.heap.size 0 [.int .i64 ck, .int .i64 cs, .int .i64 ct, .int .i64 l', .int .i64 cq, .int .i64 ci, .float .f64 p', .string cg])) := srcE_set (unhide HV) hP.dc.e hB (Nat.le_refl _) _
        have o0 : V2.cell? ⟨pt, 0, none⟩ = some (.int .i64 ck) := hP.r 0 _ rfl
        have o1 : V2.cell? ⟨pt, 1, none⟩ = some (.int .i64 cs) := hP.r 1 _ rfl
        have o2 : V2.cell? ⟨pt, 2, none⟩ = some (.int .i64 ct) := hP.r 2 _ rfl
        have o3 : V2.cell? ⟨pt, 3, none⟩ = some (.int .i64 l') := hP.r 3 _ rfl
        have o4 : V2.cell? ⟨pt, 4, none⟩ = some (.int .i64 cq) := hP.r 4 _ rfl
        have o5 : V2.cell? ⟨pt, 5, none⟩ = some (.int .i64 ci) := hP.r 5 _ rfl
        have o6 : V2.cell? ⟨pt, 6, none⟩ = some (.float .f64 p') := hP.r 6 _ rfl
        have o7 : V2.cell? ⟨pt, 7, none⟩ = some (.string cg) := hP.r 7 _ rfl
        clear hP HP1
        refine unhide HK3 _ _ ?_
        clear HK3
        repeat (first | (refine wpList_store_mid rfl 66 (.tmp 4) (.tmp 65) rfl w.heap.size 0 #[.int .i64 ck, .int .i64 cs, .int .i64 ct, .int .i64 l', .int .i64 cq, .int .i64 ci, .float .f64 p', .string cg] rfl rfl (unhide HTH) (by kernel_rfl) (by simp [Value.oneCell']) ?_; change wpList _ _ _ _ _ (V2.setCells w.heap.size 0 [.int .i64 ck, .int .i64 cs, .int .i64 ct, .int .i64 l', .int .i64 cq, .int .i64 ci, .float .f64 p', .string cg])) | go_step)
        generalize V2.setCells w.heap.size 0 [.int .i64 ck, .int .i64 cs, .int .i64 ct, .int .i64 l', .int .i64 cq, .int .i64 ci, .float .f64 p', .string cg] = WF at HSC HEN ⊢
        have d0 := unhide HSC 0 _ rfl
        have d1 := unhide HSC 1 _ rfl
        have d2 := unhide HSC 2 _ rfl
        have d3 := unhide HSC 3 _ rfl
        have d4 := unhide HSC 4 _ rfl
        have d5 := unhide HSC 5 _ rfl
        have d6 := unhide HSC 6 _ rfl
        have d7 := unhide HSC 7 _ rfl
        simp only [Nat.zero_add] at d0 d1 d2 d3 d4 d5 d6 d7
        refine bodyPost_ret (by simp [results, Try.results27, go_sem, d0, d1, d2, d3, d4, d5, d6, d7]; try rfl) rfl ?_
        exact ⟨⟨ck, cs, ct, l', cq, ci, p', cg⟩, rfl, ⟨unhide HCG, unhide HPW⟩, src_more (unhide HEN).1 (by omega), (unhide HEN).2⟩
      clear HK3
      have o2 : V'.cell? ⟨pt, 2, none⟩ = some (.int .i64 ct) := (unhide HP1).r 2 _ rfl
      go_wp2_with fail
      refine (l04Rests_any ct V').mono ?_
      rintro e V3 ⟨rfl, rfl⟩
      cases hb : restB ct
      · go_wp2_with fail
        exact unhide HT2 _ _ _ _ _ _ _ _ _ _ _ _ _ _ _ _ _ cl V3 (drP_more (unhide HP1) (by omega))
      · go_wp2_with fail
        refine (chance_any B v l (m + 63) 3 V3 (unhide HP1).dc.e.1 (by omega) (by omega) (by omega)).mono ?_
        rintro e V4 ⟨b, rfl, hE⟩
        have HP4 := hide (drP_step (unhide HP1) hB hsp hE)
        clear hE
        cases b
        · go_wp2_with fail
          exact unhide HT2 _ _ _ _ _ _ _ _ _ _ _ _ _ _ _ _ _ cl V4 (drP_more (unhide HP4) (by omega))
        · have o3 : V4.cell? ⟨pt, 3, none⟩ = some (.int .i64 cl) := (unhide HP4).r 3 _ rfl
          have z3 : V4.frozen? ⟨pt, 3, none⟩ = false := by have := ((unhide HP4).t 3 (by omega)).2; rwa [Nat.zero_add] at this
          have HP5 := hide (drP_set (c' := ⟨ck, cs, ct, 1, cq, ci, p', cg⟩) (unhide HP4) (unhide HV) hB hsp 3 (.int .i64 1) (by omega) rfl)
          go_wp2_with fail
          exact unhide HT2 _ _ _ _ _ _ _ _ _ _ _ _ _ _ _ _ _ 1 _ (drP_more (unhide HP5) (by omega))
    clear HK2
    have o2 : V.cell? ⟨pt, 2, none⟩ = some (.int .i64 ct) := (unhide HP).r 2 _ rfl
    by_cases hty : ct = 2
    · subst hty
      go_wp2_with fail
      exact unhide HT _ _ _ _ _ _ _ _ _ cp V (unhide HCP) (drP_more (unhide HP) (by omega))
    · have hb : (ct != 2) = true := by simpa using hty
      go_wp2_with fail
      refine (next_any B v l (m + 60) 9 V (unhide HP).dc.e.1 (by omega) (by omega) (by omega)).mono ?_
      rintro e V2 ⟨y9, rfl, h90, h91, hE⟩
      obtain ⟨k9, rfl⟩ := Int.eq_ofNat_of_zero_le h90
      obtain ⟨pa, pb, pc, hpo, hpw⟩ := prO_any k9 (by omega)
      have HPW := hide hpw
      clear hpw
      have HP2 := hide (drP_step (unhide HP) hB hsp hE)
      have f1 := fun W => (hpo W).1
      have f2 := fun W => (hpo W).2.1
      have f3 := fun W => (hpo W).2.2
      have o6 : V2.cell? ⟨pt, 6, none⟩ = some (.float .f64 cp) := (unhide HP2).r 6 _ rfl
      have z6 : V2.frozen? ⟨pt, 6, none⟩ = false := by have := ((unhide HP2).t 6 (by omega)).2; rwa [Nat.zero_add] at this
      have HP3 := hide (drP_set (c' := ⟨ck, cs, ct, cl, cq, ci, pc, cg⟩) (unhide HP2) (unhide HV) hB hsp 6 (.float .f64 pc) (by omega) rfl)
      have hst : (store ⟨pt, 6, none⟩ (.float .f64 pc)).run Try.prog V2 = .ok () (V2.setCell ⟨pt, 6, none⟩ (.float .f64 pc)) := by rw [run_store _ _ _ _ _ rfl, o6, z6]; rfl
      clear hE hpo
      go_wp2_with fail
      exact unhide HT _ _ _ _ _ _ _ _ _ pc _ (unhide HPW) (drP_more (unhide HP3) (by omega))
  · rintro x A V j o ⟨f, rfl, hbs, hD⟩ hcl hx ho hxi hall
    have HBS := hide hbs
    have HD := hide hD
    have kk : j < 16 → ¬ x[16]? = some true := fun hlt h16 => by
      have e : ∀ i, i < 16 → x[i]? = some true := fun i hi => by
        rcases (by omega : i = 0 ∨ i = 1 ∨ i = 2 ∨ i = 3 ∨ i = 4 ∨ i = 5 ∨ i = 6 ∨ i = 7 ∨ i = 8 ∨ i = 9 ∨ i = 10 ∨ i = 11 ∨ i = 12 ∨ i = 13 ∨ i = 14 ∨ i = 15) with rfl | rfl | rfl | rfl | rfl | rfl | rfl | rfl | rfl | rfl | rfl | rfl | rfl | rfl | rfl | rfl
        all_goals exact hcl 16 _ rfl h16 ⟨_, .phase⟩ (by simp) rfl
      rw [e j hlt] at hxi; cases hxi
    have hct : x.count true ≤ 17 := by have := List.count_le_length (a := true) (l := x); rw [hx] at this; simpa using this
    clear hbs hcl
    match j, ho with
    | 0, ho =>
      obtain rfl := Option.some.inj ho
      have nk := kk (by omega)
      clear hall hD
      rw [if_pos (by rfl)]
      unfold Oper.wp
      go_simp
      exact ⟨upd f 0 (.pointer (some ⟨B, 0, none⟩)), by simp [upd], rs_step (unhide HD) (by decide) hxi (fun _ _ h => h) (bsd_more (unhide HBS nk)) rfl⟩
    | 1, ho =>
      obtain rfl := Option.some.inj ho
      have nk := kk (by omega)
      have gd : f 0 = .pointer (some ⟨B, 0, none⟩) := hD 0 (hall ⟨0, .data⟩ (by simp) rfl)
      obtain ⟨mm, hmm, hee⟩ := unhide HBS nk
      have HEE := hide hee
      have hcnt : mm ≤ 900000000 := by omega
      clear hee
      clear hall hD
      rw [if_pos (by rfl)]
      unfold Oper.wp
      go_simp
      refine (next_any B v l mm 2 V (unhide HEE).1 (by omega) (by omega) (by omega)).mono ?_
      rintro e w5 ⟨y5, rfl, -, -, hE5⟩
      exact ⟨upd f 1 (.int .i64 y5), by simp [upd, gd], rs_step (unhide HD) (by decide) hxi (d10_mono nk hB1 hE5.2) (bsd_call hmm (unhide HEE) hE5) ⟨y5, rfl⟩⟩
    | 2, ho =>
      obtain rfl := Option.some.inj ho
      have nk := kk (by omega)
      obtain ⟨y5, gd⟩ := hD 1 (hall ⟨1, .data⟩ (by simp) rfl)
      clear hall hD
      rw [if_pos (by rfl)]
      unfold Oper.wp
      go_simp
      exact ⟨upd f 2 (.int .i64 (IntKind.i64.wrap (1 + y5))), by simp [upd, gd], rs_step (unhide HD) (by decide) hxi (fun _ _ h => h) (bsd_more (unhide HBS nk)) ⟨_, rfl⟩⟩
    | 3, ho =>
      obtain rfl := Option.some.inj ho
      have nk := kk (by omega)
      have hS : W1.heap.size ≤ V.heap.size := by obtain ⟨mm, hmm, hee⟩ := unhide HBS nk; exact hee.2.size
      clear hall hD
      rw [if_pos (by rfl)]
      unfold Oper.wp
      go_simp
      exact ⟨upd f 3 (.slice (some ⟨V.heap.size, 0, none⟩) 8 8), by simp [upd], rs_step (unhide HD) (by decide) hxi (d10_mono nk hB1 (gr_alloc _ _ _)) (bsd_alloc (unhide HBS nk) _) ⟨V.heap.size, rfl, hS, fun _ => (bx_made V tys8 _).r⟩⟩
    | 4, ho =>
      obtain rfl := Option.some.inj ho
      have nk := kk (by omega)
      clear hall hD
      rw [if_pos (by rfl)]
      unfold Oper.wp
      go_simp
      exact ⟨upd f 4 (.pointer (some ⟨B, 0, none⟩)), by simp [upd], rs_step (unhide HD) (by decide) hxi (fun _ _ h => h) (bsd_more (unhide HBS nk)) rfl⟩
    | 5, ho =>
      obtain rfl := Option.some.inj ho
      have nk := kk (by omega)
      have gd : f 4 = .pointer (some ⟨B, 0, none⟩) := hD 4 (hall ⟨4, .data⟩ (by simp) rfl)
      obtain ⟨mm, hmm, hee⟩ := unhide HBS nk
      have HEE := hide hee
      have hcnt : mm ≤ 900000000 := by omega
      clear hee
      clear hall hD
      rw [if_pos (by rfl)]
      unfold Oper.wp
      go_simp
      refine (next_any B v l mm 8 V (unhide HEE).1 (by omega) (by omega) (by omega)).mono ?_
      rintro e w5 ⟨y5, rfl, h50, h51, hE5⟩
      obtain ⟨k5, rfl⟩ := Int.eq_ofNat_of_zero_le h50
      exact ⟨upd f 5 (.int .i64 k5), by simp [upd, gd], rs_step (unhide HD) (by decide) hxi (d10_mono nk hB1 hE5.2) (bsd_call hmm (unhide HEE) hE5) ⟨k5, rfl, by omega⟩⟩
    | 6, ho =>
      obtain rfl := Option.some.inj ho
      have nk := kk (by omega)
      obtain ⟨g, g3, hSg, hrg⟩ := hD 3 (hall ⟨3, .data⟩ (by simp) rfl)
      obtain ⟨k, g5, hk⟩ := hD 5 (hall ⟨5, .data⟩ (by simp) rfl)
      have HRG := hide (hrg nk)
      have hki : (k : Int) < 8 := by omega
      clear hrg
      clear hall hD
      rw [if_pos (by rfl)]
      unfold Oper.wp
      go_simp
      exact ⟨upd f 6 (.pointer (some ⟨g, k, none⟩)), by simp [upd, g3, g5], rs_step (unhide HD) (by decide) hxi (fun _ _ h => h) (bsd_more (unhide HBS nk)) ⟨g, k, rfl, hk, hSg, fun _ => unhide HRG⟩⟩
    | 7, ho =>
      obtain rfl := Option.some.inj ho
      have nk := kk (by omega)
      obtain ⟨g, k, g6, hk, hSg, hrg⟩ := hD 6 (hall ⟨6, .data⟩ (by simp) rfl)
      obtain ⟨y7, hc7⟩ := tys8_at (hrg nk) hk
      clear hrg
      clear hall hD
      rw [if_pos (by rfl)]
      unfold Oper.wp
      go_simp
      exact ⟨upd f 7 (.int .i64 y7), by simp [upd, g6], rs_step (unhide HD) (by decide) hxi (fun _ _ h => h) (bsd_more (unhide HBS nk)) ⟨_, rfl⟩⟩
    | 8, ho =>
      obtain rfl := Option.some.inj ho
      have nk := kk (by omega)
      clear hall hD
      rw [if_pos (by rfl)]
      unfold Oper.wp
      go_simp
      exact ⟨upd f 8 (.pointer (some ⟨B, 0, none⟩)), by simp [upd], rs_step (unhide HD) (by decide) hxi (fun _ _ h => h) (bsd_more (unhide HBS nk)) rfl⟩
    | 9, ho =>
      obtain rfl := Option.some.inj ho
      have nk := kk (by omega)
      have gd : f 8 = .pointer (some ⟨B, 0, none⟩) := hD 8 (hall ⟨8, .data⟩ (by simp) rfl)
      obtain ⟨mm, hmm, hee⟩ := unhide HBS nk
      have HEE := hide hee
      have hcnt : mm ≤ 900000000 := by omega
      clear hee
      clear hall hD
      rw [if_pos (by rfl)]
      unfold Oper.wp
      go_simp
      refine (next_any B v l mm 12 V (unhide HEE).1 (by omega) (by omega) (by omega)).mono ?_
      rintro e w5 ⟨y5, rfl, -, -, hE5⟩
      exact ⟨upd f 9 (.int .i64 y5), by simp [upd, gd], rs_step (unhide HD) (by decide) hxi (d10_mono nk hB1 hE5.2) (bsd_call hmm (unhide HEE) hE5) ⟨y5, rfl⟩⟩
    | 10, ho =>
      obtain rfl := Option.some.inj ho
      have nk := kk (by omega)
      obtain ⟨y5, gd⟩ := hD 9 (hall ⟨9, .data⟩ (by simp) rfl)
      clear hall hD
      rw [if_pos (by rfl)]
      unfold Oper.wp
      go_simp
      exact ⟨upd f 10 (.int .i64 (IntKind.i64.wrap (1 + y5))), by simp [upd, gd], rs_step (unhide HD) (by decide) hxi (fun _ _ h => h) (bsd_more (unhide HBS nk)) ⟨_, rfl⟩⟩
    | 11, ho =>
      obtain rfl := Option.some.inj ho
      have nk := kk (by omega)
      clear hall hD
      rw [if_pos (by rfl)]
      unfold Oper.wp
      go_simp
      exact ⟨upd f 11 (.pointer (some ⟨B, 0, none⟩)), by simp [upd], rs_step (unhide HD) (by decide) hxi (fun _ _ h => h) (bsd_more (unhide HBS nk)) rfl⟩
    | 12, ho =>
      obtain rfl := Option.some.inj ho
      have nk := kk (by omega)
      have hS : W1.heap.size ≤ V.heap.size := by obtain ⟨mm, hmm, hee⟩ := unhide HBS nk; exact hee.2.size
      clear hall hD
      rw [if_pos (by rfl)]
      unfold Oper.wp
      go_simp
      exact ⟨upd f 12 (.slice (some ⟨V.heap.size, 0, none⟩) 3 3), by simp [upd], rs_step (unhide HD) (by decide) hxi (d10_mono nk hB1 (gr_alloc _ _ _)) (bsd_alloc (unhide HBS nk) _) ⟨V.heap.size, rfl, hS, fun _ => (bx_made V (tag3.map .string) _).r⟩⟩
    | 13, ho =>
      obtain rfl := Option.some.inj ho
      have nk := kk (by omega)
      have gd : f 11 = .pointer (some ⟨B, 0, none⟩) := hD 11 (hall ⟨11, .data⟩ (by simp) rfl)
      obtain ⟨g, gs, hSg, hrg⟩ := hD 12 (hall ⟨12, .data⟩ (by simp) rfl)
      have HRG := hide (hrg nk)
      clear hrg
      obtain ⟨mm, hmm, hee⟩ := unhide HBS nk
      have HEE := hide hee
      have hcnt : mm ≤ 900000000 := by omega
      clear hee
      clear hall hD
      rw [if_pos (by rfl)]
      unfold Oper.wp
      go_simp
      refine (pick_any B g 3 v l mm tag3 V (unhide HEE).1 (by omega) (by omega) rfl (by omega) (by omega) (fun k s hs => by have := unhide HRG k (.string s) (by rw [List.getElem?_map, hs]; rfl); rwa [Nat.zero_add] at this)).mono ?_
      rintro e w5 ⟨s5, rfl, hs5, hE5⟩
      exact ⟨upd f 13 (.string s5), by simp [upd, gd, gs], rs_step (unhide HD) (by decide) hxi (d10_mono nk hB1 hE5.2) (bsd_call hmm (unhide HEE) hE5) ⟨s5, rfl, tag3_len s5 hs5⟩⟩
    | 14, ho =>
      obtain rfl := Option.some.inj ho
      have nk := kk (by omega)
      obtain ⟨y2, g2⟩ := hD 2 (hall ⟨2, .data⟩ (by simp) rfl)
      obtain ⟨y7, g7⟩ := hD 7 (hall ⟨7, .data⟩ (by simp) rfl)
      obtain ⟨y10, g10⟩ := hD 10 (hall ⟨10, .data⟩ (by simp) rfl)
      obtain ⟨s13, g13, hs13⟩ := hD 13 (hall ⟨13, .data⟩ (by simp) rfl)
      clear hall hD
      rw [if_pos (by rfl)]
      unfold Oper.wp
      go_simp
      exact ⟨upd f 14 (.agg (Cm.mk 1 y2 y7 0 y10 0 0 s13).vs.toArray), by simp [upd, g2, g7, g10, g13, Cm.vs], rs_step (unhide HD) (by decide) hxi (fun _ _ h => h) (bsd_more (unhide HBS nk)) ⟨⟨1, y2, y7, 0, y10, 0, 0, s13⟩, rfl, hs13, prW_of (by kernel_rfl)⟩⟩
    | 15, ho =>
      obtain rfl := Option.some.inj ho
      have nk := kk (by omega)
      have hS : W1.heap.size ≤ V.heap.size := by obtain ⟨mm, hmm, hee⟩ := unhide HBS nk; exact hee.2.size
      clear hall hD
      rw [if_pos (by rfl)]
      unfold Oper.wp
      go_simp
      exact ⟨upd f 15 (.pointer (some ⟨V.heap.size, 0, none⟩)), by simp [upd], rs_step (unhide HD) (by decide) hxi (d10_mono nk hB1 (gr_alloc _ _ _)) (bsd_alloc (unhide HBS nk) _) ⟨V.heap.size, rfl, hS, fun _ => ⟨by simp, (bx_made V [.int .i64 0, .int .i64 0, .int .i64 0, .int .i64 0, .int .i64 0, .int .i64 0, .float .f64 0, .string ⟨#[]⟩] _).t⟩, fun q => absurd q nk⟩⟩
    | 16, ho =>
      obtain rfl := Option.some.inj ho
      have nk0 : ¬ x[16]? = some true := by rw [hxi]; simp
      obtain ⟨⟨ck, cs, ct, cl, cq, ci, cp, cg⟩, g14, hcg⟩ := hD 14 (hall ⟨14, .data⟩ (by simp) rfl)
      obtain ⟨pt, g15, hSp, hpl, -⟩ := hD 15 (hall ⟨15, .data⟩ (by simp) rfl)
      obtain ⟨hpl, hpt⟩ := hpl nk0
      obtain ⟨mm, hmm, hee⟩ := unhide HBS nk0
      have hsv : w.heap.size < V.heap.size := Nat.lt_of_lt_of_le hs1 hee.2.size
      have HDC : Hid (DrC B w.heap.size w v l (m + 60) (V.setCells pt 0 (Cm.mk ck cs ct cl cq ci cp cg).vs)) := ⟨srcE_set (unhide HV) ⟨src_more hee.1 (by omega), gr_trans (unhide HD1).e.2 hee.2⟩ hB (by omega) _, World.there_setCells (there_grown (unhide HD1).t hee.2 hs1 (fun e => by have := Option.some.inj e; omega)) pt 0 _⟩
      have HFI : Hid ((V.setCells pt 0 (Cm.mk ck cs ct cl cq ci cp cg).vs).rangeAt pt 0 (Cm.mk ck cs ct cl cq ci cp cg).vs ∧ (V.setCells pt 0 (Cm.mk ck cs ct cl cq ci cp cg).vs).there pt 0 8 ∧ pt < (V.setCells pt 0 (Cm.mk ck cs ct cl cq ci cp cg).vs).heap.size) := ⟨World.rangeAt_setCells_same _ _ _ _ hpt, World.there_setCells hpt pt 0 _, Nat.lt_of_lt_of_le hpl (gr_setsD pt _ 0 V).size⟩
      clear hall hD hee
      rw [if_pos (by rfl)]
      refine wp_store_mid 66 (.tmp 5) (.tmp 47) rfl pt 0 (Cm.mk ck cs ct cl cq ci cp cg).vs.toArray g15 g14 hpt (by kernel_rfl) (by simp [Value.oneCell', Cm.vs]) ?_
      refine ⟨upd f 16 undef, by simp [upd, Act.put], rs_last (unhide HD) hxi (fun j hj hxj h => ?_) trivial⟩
      match j with
      | 3 => obtain ⟨g, h1, h2, h3⟩ := h; exact ⟨g, h1, h2, fun q => absurd trivial q⟩
      | 6 => obtain ⟨g, k, h1, h2, h3, h4⟩ := h; exact ⟨g, k, h1, h2, h3, fun q => absurd trivial q⟩
      | 12 => obtain ⟨g, h1, h2, h3⟩ := h; exact ⟨g, h1, h2, fun q => absurd trivial q⟩
      | 15 => exact ⟨pt, g15, hSp, fun q => absurd trivial q, fun _ => ⟨⟨ck, cs, ct, cl, cq, ci, cp, cg⟩, hcg, (unhide HFI).1, (unhide HFI).2.1, (unhide HFI).2.2, unhide HDC⟩⟩
      | 16 => exact absurd rfl hj
      | 0 | 1 | 2 | 4 | 5 | 7 | 8 | 9 | 10 | 11 | 13 | 14 => exact h
      | j + 17 => trivial
    | j + 17, ho => simp at ho
end Go.Proofs.Ythmgkabpcjkieaa
