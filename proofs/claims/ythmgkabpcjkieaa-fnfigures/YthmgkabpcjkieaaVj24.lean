/-
  What holds of a book along a script: not too many orders, quantities in their bounds, Ids rising and below the next one. No function walked.
-/
import Derived.Test.YthmgkabpcjkieaaVj23
namespace Go.Proofs.Ythmgkabpcjkieaa
open Go.RowKit
set_option linter.unusedVariables false

structure Inv (next : Int) (l : List Od) : Prop where
  good : GoodL l
  side : ∀ o ∈ l, o.side = 1 ∨ o.side = 2
  ids : ∀ o ∈ l, o.id < next
theorem inv_start : Inv 1 [] := ⟨⟨by simp, by simp, List.Pairwise.nil⟩, by simp, by simp⟩
theorem hit_ids {l : List Od} {k : Nat} {o : Od} {q : Int} (hk : l[k]? = some o) {b : Int} (h : ∀ x ∈ l, x.id < b) : ∀ x ∈ hitAt l k o q, x.id < b := by
  intro x hx
  rw [hitAt] at hx
  split at hx
  · rcases List.mem_append.1 hx with h1 | h1
    · exact h x (List.mem_of_mem_take h1)
    · exact h x (List.mem_of_mem_drop h1)
  · rcases List.mem_or_eq_of_mem_set hx with h1 | rfl
    · exact h x h1
    · exact h o (List.mem_of_getElem? hk)
theorem matL_ids {c : Cm} {id b : Int} : ∀ (n : Nat) (l : List Od) (left : Int) (ts : List Ev), Rising l → GoodL l → 0 ≤ left → left ≤ 1000000 → (∀ x ∈ l, x.id < b) → ∀ x ∈ (matL c id n l left ts).1, x.id < b := by
  intro n
  induction n with
  | zero => intro l left ts _ _ _ _ h x hx; exact h x hx
  | succ n ih =>
    intro l left ts hr hg h0 h1 h x hx
    rw [matL] at hx
    split at hx
    · next hlt =>
      split at hx
      · exact h x hx
      · next o hf =>
        split at hx
        · obtain ⟨hmem, _⟩ := front_mem hf
          obtain ⟨k, hk⟩ := List.getElem?_of_mem hmem
          have hp := plc_at hr hk
          have hpt : (plc l o.id).toNat = k := by rw [hp]; rfl
          rw [hpt] at hx
          have ho := hg.left o hmem
          have hgh := good_hit hg hk (qty := min left o.left) (by omega) (by omega)
          exact ih _ _ _ hgh.1.rise hgh.1 (by omega) (by omega) (hit_ids hk h) x hx
        · exact h x hx
    · exact h x hx
theorem inv_step {next : Int} {l : List Od} (c : Cm) (h : Inv next l) (h0 : 0 ≤ next) (h1 : next ≤ 1000000) : Inv (stN next l c) (stL next l c) ∧ next ≤ stN next l c ∧ stN next l c ≤ next + 1 := by
  rw [stN, stL]
  by_cases hr : refR next l c = 0
  · rw [if_pos hr]
    by_cases hk : c.k = 1
    · rw [if_pos ⟨hr, hk⟩, if_pos hk]
      refine ⟨?_, by omega, by omega⟩
      have hq := ref_newq hr hk
      have hn := ref_new hr hk
      have hg := matL_good (c := c) (id := next) 21 l c.q [] h.good (by omega) hq.2
      have hs := matL_side (c := c) (id := next) 21 l c.q [] h.good.rise h.good (by omega) hq.2 h.side
      have hi := matL_ids (c := c) (id := next) (b := next) 21 l c.q [] h.good.rise h.good (by omega) hq.2 h.ids
      rw [newR] at hn
      split at hn
      · cases hn
      rename_i hsd
      split at hn
      · cases hn
      split at hn
      · cases hn
      split at hn
      · cases hn
      split at hn
      · cases hn
      split at hn
      · cases hn
      have hsd : c.s = 1 ∨ c.s = 2 := side_of (by simpa using hsd)
      generalize matL c next 21 l c.q [] = F at hg hs hi hn ⊢
      rw [accL]
      split
      · next hre =>
        rw [matR] at hn
        split at hn
        · cases hn
        split at hn
        · cases hn
        split at hn
        · cases hn
        rw [if_pos ⟨hre.2, hre.1⟩] at hn
        split at hn
        · cases hn
        rename_i hfu
        have hlen : (F.1 ++ [{ ordO c next with left := F.2.1 }]).length ≤ 20 := by
          rcases Nat.lt_or_ge 20 (F.1 ++ [{ ordO c next with left := F.2.1 }]).length with hh | hh
          · exact absurd (show fullB (F.1 ++ [{ ordO c next with left := F.2.1 }]) = true by rw [fullB]; exact if_pos hh) (by simpa using hfu)
          · exact hh
        refine ⟨⟨by simpa using hlen, ?_, ?_⟩, ?_, ?_⟩
        · intro o ho
          rcases List.mem_append.1 ho with ho | ho
          · exact hg.1.left o ho
          · simp at ho; subst ho; exact ⟨hre.1, hg.2.2⟩
        · refine List.pairwise_append.2 ⟨hg.1.rise, List.pairwise_singleton _ _, fun a ha b hb => ?_⟩
          simp at hb; subst hb; exact hi a ha
        · intro o ho
          rcases List.mem_append.1 ho with ho | ho
          · exact hs o ho
          · simp at ho; subst ho; exact hsd
        · intro o ho
          rcases List.mem_append.1 ho with ho | ho
          · have := hi o ho; omega
          · simp at ho; subst ho; show next < next + 1; omega
      · exact ⟨hg.1, hs, fun o ho => by have := hi o ho; omega⟩
    · rw [if_neg (fun e => hk e.2), if_neg hk]
      refine ⟨?_, by omega, by omega⟩
      by_cases hk2 : c.k = 2
      · rw [if_pos hk2]
        obtain ⟨k, o, hp, ho⟩ := ref_id hr (.inl hk2)
        have hpt : (plc l c.i).toNat = k := by rw [hp]; rfl
        simp only [hpt, ho]
        have hb := h.good.left o (List.mem_of_getElem? ho)
        exact ⟨(good_hit h.good ho (qty := o.left) (by omega) (by omega)).1, hit_side ho h.side, hit_ids ho h.ids⟩
      · rw [if_neg hk2]
        by_cases hk3 : c.k = 3
        · rw [if_pos hk3]
          obtain ⟨k, o, hp, ho⟩ := ref_id hr (.inr hk3)
          have hpt : (plc l c.i).toNat = k := by rw [hp]; rfl
          simp only [hpt, ho]
          have hq : 1 ≤ c.q ∧ c.q ≤ 1000000 ∧ c.q < o.left := by
            rw [refR, if_neg hk, if_neg hk2, if_pos hk3] at hr
            split at hr
            · rw [redR] at hr
              split at hr
              · next hb =>
                rw [hp] at hr
                simp only [Int.toNat_natCast, ho] at hr
                split at hr
                · cases hr
                · split at hr
                  · cases hr
                  · have : 1 ≤ c.q ∧ c.q ≤ 1000000 := by simpa [betB] using hb
                    omega
              · cases hr
            · cases hr
          have hmem : ∀ x ∈ l.set k { o with left := c.q }, ∃ y ∈ l, x.id = y.id ∧ x.side = y.side ∧ (x.left = y.left ∨ x.left = c.q) := by
            intro x hx
            rcases List.mem_or_eq_of_mem_set hx with h1 | rfl
            · exact ⟨x, h1, rfl, rfl, .inl rfl⟩
            · exact ⟨o, List.mem_of_getElem? ho, rfl, rfl, .inr rfl⟩
          refine ⟨⟨by simpa using h.good.len, ?_, ?_⟩, ?_, ?_⟩
          · intro x hx
            obtain ⟨y, hy, _, _, h3⟩ := hmem x hx
            have := h.good.left y hy
            rcases h3 with h3 | h3 <;> omega
          · have hr1 := h.good.rise
            rw [Rising, List.pairwise_iff_getElem] at hr1 ⊢
            intro i j hi hj hij
            have hi' : i < l.length := by simpa using hi
            have hj' : j < l.length := by simpa using hj
            have key : ∀ i (hi : i < (l.set k { o with left := c.q }).length), ((l.set k { o with left := c.q })[i]).id = (l[i]'(by simpa using hi)).id := by
              intro i hi
              rw [List.getElem_set]
              split
              · next e => subst e; have := List.getElem?_eq_some_iff.1 ho; obtain ⟨_, rfl⟩ := this; rfl
              · rfl
            rw [key i hi, key j hj]
            exact hr1 i j hi' hj' hij
          · intro x hx
            obtain ⟨y, hy, _, h2, _⟩ := hmem x hx
            rw [h2]; exact h.side y hy
          · intro x hx
            obtain ⟨y, hy, h2, _, _⟩ := hmem x hx
            rw [h2]; exact h.ids y hy
        · rw [if_neg hk3]
          have hsub : ∀ x ∈ l.filter ndy, x ∈ l := fun x hx => (List.mem_filter.1 hx).1
          exact ⟨⟨Nat.le_trans (List.length_filter_le _ _) h.good.len, fun o ho => h.good.left o (hsub o ho), List.Pairwise.filter _ h.good.rise⟩, fun o ho => h.side o (hsub o ho), fun o ho => h.ids o (hsub o ho)⟩
  · rw [if_neg (fun e => hr e.1), if_neg hr]
    exact ⟨h, by omega, by omega⟩
end Go.Proofs.Ythmgkabpcjkieaa
namespace Go.Proofs.Ythmgkabpcjkieaa
open Go.RowKit
set_option linter.unusedVariables false

/-- An order that rests, counted. -/
def cntO (t : Tot) (o : Od) : Tot := { t with li := wrap64 (t.li + 1), le := wrap64 (t.le + o.left) }
def wbT (t : Tot) (l : List Od) : Tot := l.foldl cntO t
def cntF (n : Nat) : Int := if 4096 < n then 2 else if 200 < n then 7 else 0
theorem keepB {w W : World} {S : Nat} {cs : List Value} (h : W.rangeAt S 0 cs ∧ W.there S 0 8 ∧ W.there (S + 1 + 1) 0 8 ∧ Below S w W ∧ S + 1 + 1 + 1 ≤ W.heap.size) (j : Nat) (hj : j < cs.length) (u : Value) : (W.setCell ⟨S, j, none⟩ u).rangeAt S 0 (cs.set j u) ∧ (W.setCell ⟨S, j, none⟩ u).there S 0 8 ∧ (W.setCell ⟨S, j, none⟩ u).there (S + 1 + 1) 0 8 ∧ Below S w (W.setCell ⟨S, j, none⟩ u) ∧ S + 1 + 1 + 1 ≤ (W.setCell ⟨S, j, none⟩ u).heap.size :=
  ⟨range_set h.1 hj, there_set1 h.2.1, there_set1 h.2.2.1, h.2.2.2.1.setCell (p := ⟨S, j, none⟩) (Nat.le_refl _) _, by simp only [World.setCell, Array.size_modify]; exact h.2.2.2.2⟩
end Go.Proofs.Ythmgkabpcjkieaa
namespace Go.Proofs.Ythmgkabpcjkieaa
open Go.RowKit
set_option linter.unusedVariables false

/-- The engine's state: next Id, orders, groups, totals. -/
structure RunSt where
  n : Int
  l : List Od
  g : List (List Ev)
  t : Tot
def tot0 : Tot := ⟨0, 0, 0, 0, 0, 0, 0, 0⟩
def rstep (s : RunSt) (c : Cm) : RunSt := ⟨stN s.n s.l c, stL s.n s.l c, s.g ++ [stE s.n s.l c], wgT s.t (stE s.n s.l c)⟩
def runS (cs : List Cm) : RunSt := cs.foldl rstep ⟨1, [], [], tot0⟩
theorem run_step (cs : List Cm) {k : Nat} {c : Cm} (h : cs[k]? = some c) : runS (cs.take (k + 1)) = rstep (runS (cs.take k)) c := by
  unfold runS
  rw [List.take_add_one, h, List.foldl_append]; rfl
theorem run_take (cs : List Cm) (h : cs.length ≤ 200) : ∀ k, k ≤ cs.length → Inv (runS (cs.take k)).n (runS (cs.take k)).l ∧ 1 ≤ (runS (cs.take k)).n ∧ (runS (cs.take k)).n ≤ 1 + k ∧ (runS (cs.take k)).g.length = k := by
  intro k
  induction k with
  | zero => intro _; exact ⟨inv_start, by simp [runS], by simp [runS], by simp [runS]⟩
  | succ k ih =>
    intro hk
    obtain ⟨h1, h2, h3, h4⟩ := ih (by omega)
    obtain ⟨c, hc⟩ : ∃ c, cs[k]? = some c := ⟨_, List.getElem?_eq_getElem (by omega)⟩
    rw [run_step cs hc]
    generalize runS (cs.take k) = s at h1 h2 h3 h4 ⊢
    obtain ⟨i1, i2, i3⟩ := inv_step c h1 (by omega) (by omega)
    refine ⟨i1, ?_, ?_, ?_⟩
    · show 1 ≤ stN s.n s.l c; omega
    · show stN s.n s.l c ≤ 1 + ((k + 1 : Nat) : Int); omega
    · show (s.g ++ [stE s.n s.l c]).length = k + 1; simp [h4]
theorem run_inv (cs : List Cm) (h : cs.length ≤ 200) : Inv (runS cs).n (runS cs).l ∧ 1 ≤ (runS cs).n ∧ (runS cs).n ≤ 1 + cs.length ∧ (runS cs).g.length = cs.length := by
  have := run_take cs h cs.length (Nat.le_refl _)
  rwa [List.take_of_length_le (Nat.le_refl _)] at this
/-- What RunScript answers. -/
def rsF (cs : List Cm) : RunSt := if cs.length ≤ 200 then { runS cs with t := wbT (runS cs).t (runS cs).l } else ⟨0, [], [], tot0⟩
end Go.Proofs.Ythmgkabpcjkieaa
namespace Go.Proofs.Ythmgkabpcjkieaa
open Go.RowKit
set_option linter.unusedVariables false

/-- Two arguments and a result in their boxes. -/
theorem box3 (w : World) (bl cl rl : List Value) (T1 T2 T3 : TypeId) : (((w.alloc (Obj.cells bl.toArray T1)).alloc (Obj.cells cl.toArray T2)).alloc (Obj.cells rl.toArray T3)).heap.size = w.heap.size + 3 ∧ World.rangeAt (((w.alloc (Obj.cells bl.toArray T1)).alloc (Obj.cells cl.toArray T2)).alloc (Obj.cells rl.toArray T3)) w.heap.size 0 bl ∧ World.rangeAt (((w.alloc (Obj.cells bl.toArray T1)).alloc (Obj.cells cl.toArray T2)).alloc (Obj.cells rl.toArray T3)) (w.heap.size + 1) 0 cl ∧ World.rangeAt (((w.alloc (Obj.cells bl.toArray T1)).alloc (Obj.cells cl.toArray T2)).alloc (Obj.cells rl.toArray T3)) (w.heap.size + 1 + 1) 0 rl ∧ World.there (((w.alloc (Obj.cells bl.toArray T1)).alloc (Obj.cells cl.toArray T2)).alloc (Obj.cells rl.toArray T3)) (w.heap.size + 1 + 1) 0 rl.length ∧ Below w.heap.size w (((w.alloc (Obj.cells bl.toArray T1)).alloc (Obj.cells cl.toArray T2)).alloc (Obj.cells rl.toArray T3)) := by
  have hs1 : (w.alloc (Obj.cells bl.toArray T1)).heap.size = w.heap.size + 1 := size_made _ _
  have hs2 : ((w.alloc (Obj.cells bl.toArray T1)).alloc (Obj.cells cl.toArray T2)).heap.size = w.heap.size + 1 + 1 := by rw [size_made, hs1]
  have r1 := cells_made w bl T1
  have r2 := cells_made (w.alloc (Obj.cells bl.toArray T1)) cl T2
  have r3 := cells_made ((w.alloc (Obj.cells bl.toArray T1)).alloc (Obj.cells cl.toArray T2)) rl T3
  have t3 := there_made ((w.alloc (Obj.cells bl.toArray T1)).alloc (Obj.cells cl.toArray T2)) rl T3
  have b1 : Below w.heap.size w (w.alloc (Obj.cells bl.toArray T1)) := (Below.refl _ _).alloc (Nat.le_refl _) _
  have b2 : Below (w.alloc (Obj.cells bl.toArray T1)).heap.size (w.alloc (Obj.cells bl.toArray T1)) ((w.alloc (Obj.cells bl.toArray T1)).alloc (Obj.cells cl.toArray T2)) := (Below.refl _ _).alloc (Nat.le_refl _) _
  have b3 : Below ((w.alloc (Obj.cells bl.toArray T1)).alloc (Obj.cells cl.toArray T2)).heap.size ((w.alloc (Obj.cells bl.toArray T1)).alloc (Obj.cells cl.toArray T2)) (((w.alloc (Obj.cells bl.toArray T1)).alloc (Obj.cells cl.toArray T2)).alloc (Obj.cells rl.toArray T3)) := (Below.refl _ _).alloc (Nat.le_refl _) _
  rw [hs1] at r2
  rw [hs2] at r3 t3
  refine ⟨by rw [size_made, hs2], range_below (range_below r1 b2 (by omega)) b3 (by omega), range_below r2 b3 (by omega), r3, t3, b1.trans ((b2.trans (b3.mono b2.size)).mono b1.size)⟩
theorem there_blk {W W' : World} {b o n : Nat} (h : W.there b o n) (hb : W'.heap[b]? = W.heap[b]?) : W'.there b o n := fun j hj => by
  rw [World.cell?_of_block (a := ⟨b, o + j, none⟩) hb, World.frozen?_of_block (a := ⟨b, o + j, none⟩) hb]; exact h j hj
end Go.Proofs.Ythmgkabpcjkieaa
namespace Go.Proofs.Ythmgkabpcjkieaa
open Go.RowKit
set_option linter.unusedVariables false

section
variable {C : Nat → Value → Prop} {mb : Nat} {tv : List Value} {base W W' : World} {x : List Bool} {f : Nat → Value}
end
theorem row_end {e sz n mb R B C : Nat} {v : Value} {xs : List Value} {W V2 : World} (h : W.ownsRow B e sz v n xs) (hm : some mb ≠ v.ownBlock) (hb : Below W.heap.size W V2) (hR : R < B) (hC : C ≤ B) (us vs : List Value) (o1 o2 : Nat) : ((V2.setCells mb o1 us).setCells R o2 vs).ownsRow C e sz v n xs := by
  have h1 : V2.ownsRow B e sz v n xs := World.ownsRow.kept (row := none) h (below_gr hb (Nat.le_refl _)) (by cases v.ownBlock <;> simp)
  have h2 := rowE_setCells hm us o1 V2 h1
  have h3 := rowE_setCells (b := R) (fun e' => by have := (h.lt R e'.symm).1; omega) vs o2 _ h2
  refine ⟨h3.1, ?_⟩
  rcases h3.2 with k1 | ⟨g', c', cur, k1, k2, k3⟩
  · exact .inl k1
  · exact .inr ⟨g', c', cur, k1, Nat.le_trans hC k2, k3⟩
/-- The groups, each in a row of its own. -/
structure GRs (W : World) (B : Nat) (gv : Value) (gl : List (List Ev)) : Prop where
  ex : ∃ gs : List Value, GRow W B gv gs ∧ gs.length = gl.length ∧ ∀ (i : Nat) (g : Value) (es : List Ev), gs[i]? = some g → gl[i]? = some es → ERow W B g es
end Go.Proofs.Ythmgkabpcjkieaa
namespace Go.Proofs.Ythmgkabpcjkieaa
open Go.RowKit
set_option linter.unusedVariables false

def livS (l : List Od) : Int := l.foldl (fun n o => wrap64 (n + o.left)) 0
theorem liv_step (l : List Od) {k : Nat} {o : Od} (h : l[k]? = some o) : livS (l.take (k + 1)) = wrap64 (livS (l.take k) + o.left) := by
  unfold livS
  rw [List.take_add_one, h, List.foldl_append]; rfl
set_option maxRecDepth 100000 in
set_option maxHeartbeats 1600000 in
theorem l04Live_any (next : Int) (v : Value) (l : List Od) (w : World) (hr : RdR Od.vs 6 w v l) :
    Calls Try.prog 53 #[.agg #[.int .i64 next, v]] w fun r w' => r = .returned (.tuple #[.int .i64 l.length, .int .i64 (livS l)]) ∧ Below w.heap.size w w' := by
  obtain ⟨a, cap, rfl, hlen, hc⟩ := hr
  have hcell : ∀ (k : Nat) (c : Od), l[k]? = some c → ∃ b off, a = some ⟨b, off, none⟩ ∧ b < w.heap.size ∧ w.rangeAt b (off + k * 6) c.vs := by
    intro k c hk
    obtain ⟨b, off, h1, h2, h3⟩ := hc (by intro h; rw [h] at hk; simp at hk)
    exact ⟨b, off, h1, h2, h3 k c hk⟩
  have HC := hide hcell
  clear hcell hc
  have b1 : Below w.heap.size w (w.alloc (Obj.cells #[.int .i64 next, .slice a l.length cap] 26)) := (Below.refl _ _).alloc (Nat.le_refl _) _
  have HX : Hid (_ ∧ _ ∧ _) := ⟨cells_made w [.int .i64 next, .slice a l.length cap] 26, b1, size_made w (Obj.cells #[.int .i64 next, .slice a l.length cap] 26)⟩
  clear b1
  go_enter Try.func53, Try.ntmps53
  refine wp_seq_k fun K hK => ?_
  have HK1 := hide hK
  clear hK
  go_wp2_with fail
  refine unhide HK1 _ _ ?_
  clear HK1
  change Hid (World.rangeAt (w.alloc (Obj.cells #[.int .i64 next, .slice a l.length cap] 26)) w.heap.size 0 [.int .i64 next, .slice a l.length cap] ∧ Below w.heap.size w (w.alloc (Obj.cells #[.int .i64 next, .slice a l.length cap] 26)) ∧ (w.alloc (Obj.cells #[.int .i64 next, .slice a l.length cap] 26)).heap.size = w.heap.size + 1) at HX
  generalize (w.alloc (Obj.cells #[.int .i64 next, .slice a l.length cap] 26)) = X at HX ⊢
  have c1 : X.cell? ⟨w.heap.size, 1, none⟩ = some (.slice a l.length cap) := (unhide HX).1 1 _ rfl
  go_wp2_with fail
  go_loopw [4, 5] (fun nv iv wr => wr = X ∧ ∃ (k : Nat), k ≤ l.length ∧ iv = .int .i64 k ∧ ∃ n : Int, nv = .int .i64 n ∧ Hid (n = livS (l.take k))) (fun _ iv _ => l.length - (intOf iv).toNat)
  case atStart => exact ⟨rfl, 0, Nat.zero_le _, rfl, 0, rfl, rfl⟩
  case round =>
    obtain ⟨rfl, k, hk, rfl, n, rfl, hn⟩ := hrel
    by_cases hlt : k < l.length
    · obtain ⟨e, hke⟩ : ∃ e, l[k]? = some e := ⟨_, List.getElem?_eq_getElem hlt⟩
      obtain ⟨b, off, rfl, hb, hcl⟩ := unhide HC k e hke
      have HNX := hide (liv_step l hke)
      have hlt' : (k : Int) < l.length := by omega
      obtain ⟨g0, g1, g2, g3, g4, g5⟩ := od_cells (range_below hcl (unhide HX).2.1 hb)
      clear hke hcl hb
      go_wp2_with fail
      go_roundw
      case rel => exact ⟨trivial, k + 1, by omega, by go_num, _, rfl, hide (by rw [unhide HNX, unhide hn])⟩
      case measure => simp [intOf]; omega
    · have hlt' : ¬ (k : Int) < l.length := by omega
      rw [List.take_of_length_le (by omega)] at hn
      have HB := hide (unhide HX).2.1
      clear HX
      go_wp2_with fail
      try simp only [Exit.inBlock, Exit.then]
      refine bodyPost_ret (by simp [results, Try.results53, go_sem]; try rfl) rfl ?_
      exact ⟨by rw [unhide hn], unhide HB⟩
end Go.Proofs.Ythmgkabpcjkieaa
