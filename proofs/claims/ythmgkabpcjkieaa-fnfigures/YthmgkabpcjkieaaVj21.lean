/-
  A script of commands drawn out of the source, and out of a code: proved by walking the functions.
-/
import Derived.Test.YthmgkabpcjkieaaVj20
namespace Go.Proofs.Ythmgkabpcjkieaa
open Go.RowKit
set_option linter.unusedVariables false

theorem Try.infoCmdD : (Try.prog.info? 66).map (fun i => (i.zero, i.size, i.bytes)) = some (some (.agg #[.int .i64 0, .int .i64 0, .int .i64 0, .int .i64 0, .int .i64 0, .int .i64 0, .float .f64 0, .string ⟨#[]⟩]), 8, 72) := by kernel_rfl
theorem cells_srcD (w : World) (cs : List Value) (t : TypeId) (j : Nat) (u : Value) (h : cs[j]? = some u) : (w.alloc (Obj.cells cs.toArray t)).cell? ((⟨w.heap.size, 0, none⟩ : Addr).add j) = some u := by
  rw [Addr.add_mid, cell_of_row _ w.heap.size (0 + j) cs.toArray t (0, 0) (heap_alloc_new w _)]
  simpa using h
theorem gr_newD {w wr w2 : World} {B : Nat} {row : Option Nat} (h : w.grownBy wr (some B)) (hg : wr.grownBy w2 row) (hr : ∀ k, row = some k → w.heap.size ≤ k) : w.grownBy w2 (some B) :=
  ⟨hg.os.trans h.os, hg.tape.trans h.tape, hg.output.trans h.output, Nat.le_trans h.size hg.size,
    fun i hi hne => (hg.block i (Nat.lt_of_lt_of_le hi h.size) (fun e => by have := hr i e.symm; omega)).trans (h.block i hi hne)⟩
theorem own_sliceD {W : World} {B e z n : Nat} {v : Value} {xs : List Value} (h : W.ownsRow B e z v n xs) : ∃ a cap, v = .slice a n cap := by
  rcases h.2 with ⟨h1, h2⟩ | ⟨g, cap, cur, h1, _⟩
  · exact ⟨none, 0, by rw [h1, h2]⟩
  · exact ⟨_, _, h1⟩
theorem own_baseD {W : World} {B B' e z n : Nat} {v : Value} {xs : List Value} (h : W.ownsRow B e z v n xs) (hB : B' ≤ B) : W.ownsRow B' e z v n xs := by
  refine ⟨h.1, ?_⟩
  rcases h.2 with h | ⟨g, cap, cur, h1, h2, h3⟩
  · exact .inl h
  · exact .inr ⟨g, cap, cur, h1, Nat.le_trans hB h2, h3⟩
set_option maxRecDepth 100000 in
set_option maxHeartbeats 3200000 in
theorem script_drawn (B : Nat) (v : Value) (l : List Int) (m : Int) (w : World) (h : Src B w v l m) (hm : m ≤ 1000000) :
    Calls Try.prog 11 #[.pointer (some ⟨B, 0, none⟩)] w fun e w' => ∃ (o : Value) (cs : List Cm), e = .returned o ∧ (∀ c ∈ cs, DrOk c) ∧ cs.length ≤ 27 ∧ w'.ownsRow w.heap.size 66 8 o cs.length (cs.flatMap Cm.vs) ∧ w.grownBy w' (some B) := by
  obtain ⟨i0, hi, hz0, hz1, hz2⟩ := info_parts Try.infoCmdD
  have HV := hide (src_far h)
  have HS := hide h
  have hB := src_lt h
  clear h
  go_enter Try.func11, Try.ntmps11
  go_wp2_with fail
  refine (size_any B v l m 24 _ (src_alloc (src_refl (unhide HS)) _).1 (by omega) (by omega)).mono ?_
  rintro e w1 ⟨y, rfl, hy0, hy1, rfl⟩
  have hwr : IntKind.i64.wrap (y + 4) = y + 4 := by rw [IntKind.wrap_i64]; omega
  go_wp2_with fail
  refine (next_any B v l m (y + 4) _ (src_alloc (src_refl (unhide HS)) _).1 (by omega) (by omega) (by omega)).mono ?_
  rintro e w1 ⟨j0, rfl, hj0, hj1, hE⟩
  have HE := hide (show SrcEnd B w v l (m + 3) w1 from ⟨hE.1, gr_trans (gr_alloc w _ _) hE.2⟩)
  have HO := hide ((World.ownsRow_made (base := w.heap.size) (e := 66) (size := 8) w #[] 0 (Nat.le_refl _) (by decide) rfl).kept hE.2 (.inr (by simp [Value.ownBlock]; omega)))
  clear hE
  go_wp2_with fail
  go_loopw [3, 4] (fun ov iv wr => ∃ (cs : List Cm) (j : Nat), iv = .int .i64 j ∧ cs.length + j ≤ 27 ∧ (∀ c ∈ cs, DrOk c) ∧ wr.ownsRow w.heap.size 66 8 ov cs.length (cs.flatMap Cm.vs) ∧ Src B wr v l (m + 3 + 100 * cs.length) ∧ w.grownBy wr (some B)) (fun _ iv _ => (intOf iv).toNat)
  case atStart =>
    obtain ⟨j, rfl⟩ := Int.eq_ofNat_of_zero_le hj0
    exact ⟨[], j, rfl, by simp; omega, by simp, unhide HO, by simpa using (unhide HE).1, (unhide HE).2⟩
  case round =>
    obtain ⟨cs, j, rfl, hlen, hxs, hown, hsrc, hgr⟩ := hrel
    have HX := hide hxs
    have HOW := hide hown
    have HSR := hide hsrc
    have HGR := hide hgr
    have hne : Hid (∀ k, k < w.heap.size → u3.ownBlock ≠ some k) := fun k hk e => by have := (hown.lt k e).1; omega
    obtain ⟨ao, co, rfl⟩ := own_sliceD hown
    clear hxs hown hsrc hgr HE HO
    by_cases hj : j = 0
    · subst hj
      go_wp2_with fail
      go_ret
      exact ⟨_, cs, rfl, unhide HX, by omega, unhide HOW, unhide HGR⟩
    have hj' : (0 : Int) < j := by omega
    clear hj
    go_wp2_with fail
    refine (cmd_drawn B v l _ cs.length _ (unhide HSR) (by omega) (by omega) (by omega)).mono ?_
    rintro e w3 ⟨⟨ck, c1, ct, cl, cq, ci, cp, cg⟩, rfl, hcg, hE3⟩
    have HE3 := hide hE3
    have HO3 := hide ((unhide HOW).kept hE3.2 (.inr (unhide hne B hB)))
    have HCG : Hid (DrOk ⟨ck, c1, ct, cl, cq, ci, cp, cg⟩) := hcg
    clear hE3 hcg
    unfold Cm.vs
    simp only
    have hs3 : w.heap.size ≤ w3.heap.size := Nat.le_trans (unhide HGR).size (unhide HE3).2.size
    go_wp2_with (at_builtin; go_must (refine wpList_append_own _ rfl _ _ 33 rfl w.heap.size 66 i0 _ 8 72 Try.underlying33 hi hz0 hz1 hz2 rfl (by decide) _ cs.length (cs.flatMap Cm.vs) rfl ((unhide HO3).alloc _) ⟨w3.heap.size, 0, none⟩ 1 1 (Cm.vs ⟨ck, c1, ct, cl, cq, ci, cp, cg⟩) rfl rfl (cells_srcD w3 _ _) (by simp [Value.oneCell', Cm.vs]) (by unfold maxLen; omega) (by omega) (by simp; omega) ?_); intro v4 w4 hown4 hg4 _)
    go_roundw
    case rel =>
      refine ⟨cs ++ [⟨ck, c1, ct, cl, cq, ci, cp, cg⟩], j - 1, by go_num, by simp; omega, ?_, by simpa using hown4, ?_, ?_⟩
      · intro x hx
        rcases List.mem_append.1 hx with hx | hx
        · exact unhide HX x hx
        · rw [List.mem_singleton.1 hx]; exact unhide HCG
      · refine src_more (src_keep (src_alloc (src_refl (unhide HE3).1) _).1 hg4 (fun e => unhide hne B hB e.symm) (fun hn e => ?_)) (by simp; omega)
        obtain ⟨k, h1, h2⟩ := unhide HV hn
        exact unhide hne k h2 (e ▸ h1)
      · exact gr_newD (gr_trans (gr_trans (unhide HGR) (unhide HE3).2) (gr_alloc w3 _ _)) hg4 (fun k hk => ((unhide HO3).lt k hk).1)
    case measure => simp [intOf]; omega
theorem scriptOf_any (v : Value) (l : List Int) (w : World) (h : Rd w v l) (hb : Bts l) :
    Calls Try.prog 5 #[v] w fun e w' => ∃ (o : Value) (cs : List Cm), e = .returned o ∧ (∀ c ∈ cs, DrOk c) ∧ cs.length ≤ 27 ∧ w'.ownsRow w.heap.size 66 8 o cs.length (cs.flatMap Cm.vs) ∧ Below w.heap.size w w' := by
  have HR := hide h
  have HB := hide hb
  obtain ⟨a, cap, rfl, hl, _⟩ := h
  clear hb
  go_enter Try.func5, Try.ntmps5
  go_wp2_with fail
  refine (source_any _ l _ (unhide HR) (unhide HB)).mono ?_
  rintro e w1 ⟨rfl, hS, hb1⟩
  have HS := hide hS
  have HB1 := hide hb1
  clear hS hb1
  go_wp2_with fail
  refine (script_drawn _ _ l _ _ (unhide HS) (by omega)).mono ?_
  rintro e w2 ⟨o, cs, rfl, h1, h2, h3, hE⟩
  have HX := hide h1
  have HO := hide h3
  have HE := hide hE
  clear hE h1 h3
  go_wp2_with fail
  go_ret
  exact ⟨_, cs, rfl, unhide HX, h2, own_baseD (unhide HO) (unhide HB1).size, own_below_grown (unhide HB1) (Nat.le_refl _) (unhide HE)⟩
end Go.Proofs.Ythmgkabpcjkieaa
namespace Go.Proofs.Ythmgkabpcjkieaa
open Go.RowKit
set_option linter.unusedVariables false

end Go.Proofs.Ythmgkabpcjkieaa
namespace Go.Proofs.Ythmgkabpcjkieaa
open Go.RowKit
set_option linter.unusedVariables false

theorem there_any {W : World} {b n j : Nat} (h : W.there b 0 n) (hj : j < n) : ∃ u, W.cell? ⟨b, j, none⟩ = some u ∧ W.frozen? ⟨b, j, none⟩ = false := by
  obtain ⟨h1, h2⟩ := h j hj
  rw [Nat.zero_add] at h1 h2
  obtain ⟨u, hu⟩ := Option.isSome_iff_exists.1 h1
  exact ⟨u, hu, h2⟩
theorem bit_or {x : List Bool} {n j : Nat} (hx : x.length = n) (hj : j < n) : x[j]? = some false ∨ x[j]? = some true := by
  rw [List.getElem?_eq_getElem (by omega)]
  cases x[j] <;> simp
end Go.Proofs.Ythmgkabpcjkieaa
namespace Go.Proofs.Ythmgkabpcjkieaa
open Go.RowKit
set_option linter.unusedVariables false

section
variable {mb B : Nat} {W0 V V' : World} {vo : Value} {ts : List Ev} {e : Ev} {p q : Prop}
end
end Go.Proofs.Ythmgkabpcjkieaa
namespace Go.Proofs.Ythmgkabpcjkieaa
open Go.RowKit
set_option linter.unusedVariables false

/-- Totals. -/
structure Tot where
  gr : Int
  ac : Int
  rf : Int
  tr : Int
  vo : Int
  no : Int
  li : Int
  le : Int
def Tot.vs (t : Tot) : List Value := [.int .i64 t.gr, .int .i64 t.ac, .int .i64 t.rf, .int .i64 t.tr, .int .i64 t.vo, .int .i64 t.no, .int .i64 t.li, .int .i64 t.le]
/-- An event counted. -/
def cntE (t : Tot) (e : Ev) : Tot :=
  if e.kind = 1 then { t with ac := wrap64 (t.ac + 1) } else if e.kind = 2 then { t with rf := wrap64 (t.rf + 1) }
  else if e.kind = 3 then { t with tr := wrap64 (t.tr + 1), vo := wrap64 (t.vo + e.qty), no := wrap64 (t.no + wrap64 (e.qty * e.price)) } else t
def wgT (t : Tot) (ts : List Ev) : Tot := ts.foldl cntE { t with gr := wrap64 (t.gr + 1) }
theorem range_set {W : World} {b j : Nat} {cs : List Value} {u : Value} (h : W.rangeAt b 0 cs) (hj : j < cs.length) : (W.setCell ⟨b, j, none⟩ u).rangeAt b 0 (cs.set j u) := by
  intro i v hi
  rw [Nat.zero_add]
  by_cases hij : j = i
  · subst hij
    rw [List.getElem?_set_self hj] at hi
    cases hi
    have := h j _ (List.getElem?_eq_getElem hj)
    rw [Nat.zero_add] at this
    exact World.cell?_setCell_same _ _ _ this
  · rw [List.getElem?_set_ne hij] at hi
    have := h i v hi
    rw [Nat.zero_add] at this
    exact (World.cell?_setCell_other _ _ _ _ (addr_ne hij)).trans this
theorem ev_cells {W : World} {b o : Nat} {e : Ev} (h : W.rangeAt b o e.vs) : W.cell? ⟨b, o, none⟩ = some (.int .i64 e.kind) ∧ W.cell? ⟨b, o + 1, none⟩ = some (.int .i64 e.cmd.k) ∧ W.cell? ⟨b, o + 2, none⟩ = some (.int .i64 e.cmd.s) ∧ W.cell? ⟨b, o + 3, none⟩ = some (.int .i64 e.cmd.t) ∧ W.cell? ⟨b, o + 4, none⟩ = some (.int .i64 e.cmd.l) ∧ W.cell? ⟨b, o + 5, none⟩ = some (.int .i64 e.cmd.q) ∧ W.cell? ⟨b, o + 6, none⟩ = some (.int .i64 e.cmd.i) ∧ W.cell? ⟨b, o + 7, none⟩ = some (.float .f64 e.cmd.p) ∧ W.cell? ⟨b, o + 8, none⟩ = some (.string e.cmd.g) ∧ W.cell? ⟨b, o + 9, none⟩ = some (.int .i64 e.id) ∧ W.cell? ⟨b, o + 10, none⟩ = some (.int .i64 e.other) ∧ W.cell? ⟨b, o + 11, none⟩ = some (.int .i64 e.qty) ∧ W.cell? ⟨b, o + 12, none⟩ = some (.int .i64 e.price) ∧ W.cell? ⟨b, o + 13, none⟩ = some (.int .i64 e.reason) := ⟨h 0 _ rfl, h 1 _ rfl, h 2 _ rfl, h 3 _ rfl, h 4 _ rfl, h 5 _ rfl, h 6 _ rfl, h 7 _ rfl, h 8 _ rfl, h 9 _ rfl, h 10 _ rfl, h 11 _ rfl, h 12 _ rfl, h 13 _ rfl⟩
end Go.Proofs.Ythmgkabpcjkieaa
namespace Go.Proofs.Ythmgkabpcjkieaa
open Go.RowKit
set_option linter.unusedVariables false

abbrev GRow (W : World) (B : Nat) (v : Value) (gs : List Value) : Prop := W.ownsRow B 62 1 v gs.length gs
theorem infoEvS : (Try.prog.info? 62).map (fun i => (i.zero, i.size, i.bytes)) = some (some (.slice none 0 0), 1, 24) := by kernel_rfl
theorem frozen_setCells (b : Nat) : ∀ (vs : List Value) (o : Nat) (W : World) (a : Addr), (W.setCells b o vs).frozen? a = W.frozen? a
  | [], _, _, _ => rfl
  | v :: r, o, W, a => by rw [World.setCells, frozen_setCells b r (o + 1), World.frozen?_setCell]
section
variable {C : Nat → Value → Prop} {mb B : Nat} {gv vo : Value} {gs : List Value} {base W W' : World} {x : List Bool} {f : Nat → Value}
end
section
variable {C : Nat → Value → Prop} {mb : Nat} {tv : List Value} {base W W' : World} {x : List Bool} {f : Nat → Value}
end
end Go.Proofs.Ythmgkabpcjkieaa
namespace Go.Proofs.Ythmgkabpcjkieaa
open Go.RowKit
set_option linter.unusedVariables false

theorem rowE_setCells {B e sz n b : Nat} {v : Value} {xs : List Value} (hb : some b ≠ v.ownBlock) : ∀ (vs : List Value) (o : Nat) (W : World), W.ownsRow B e sz v n xs → (W.setCells b o vs).ownsRow B e sz v n xs
  | [], _, _, h => h
  | u :: us, o, W, h => by rw [World.setCells]; exact rowE_setCells hb us (o + 1) _ (row_set h hb o u)
theorem kind_setC (W : World) (b : Nat) {T : TypeId} {y : Nat × Nat} : ∀ (vs : List Value) (o : Nat) {cur : Array Value}, W.heap[b]? = some (.cells cur T y) → ∃ cur', (W.setCells b o vs).heap[b]? = some (.cells cur' T y) := by
  intro vs
  induction vs generalizing W with
  | nil => intro o cur h; exact ⟨cur, h⟩
  | cons u us ih =>
    intro o cur h
    rw [World.setCells]
    obtain ⟨c1, h1⟩ := kind_set W b o u h
    exact ih _ (o + 1) h1
theorem os_setCells (b : Nat) : ∀ (vs : List Value) (o : Nat) (W : World), (W.setCells b o vs).os = W.os
  | [], _, _ => rfl
  | u :: us, o, W => by rw [World.setCells, os_setCells b us (o + 1)]; rfl
theorem tape_setCells (b : Nat) : ∀ (vs : List Value) (o : Nat) (W : World), (W.setCells b o vs).tape = W.tape
  | [], _, _ => rfl
  | u :: us, o, W => by rw [World.setCells, tape_setCells b us (o + 1)]; rfl
theorem output_setCells (b : Nat) : ∀ (vs : List Value) (o : Nat) (W : World), (W.setCells b o vs).output = W.output
  | [], _, _ => rfl
  | u :: us, o, W => by rw [World.setCells, output_setCells b us (o + 1)]; rfl
theorem heap_setCells (b k : Nat) (hk : k ≠ b) : ∀ (vs : List Value) (o : Nat) (W : World), (W.setCells b o vs).heap[k]? = W.heap[k]?
  | [], _, _ => rfl
  | u :: us, o, W => by rw [World.setCells, heap_setCells b k hk us (o + 1)]; exact Below.heap_setCell _ _ _ _ hk
section
variable {mb B Bo : Nat} {W w' : World} {gv : Value} {gs : List Value} {gl : List (List Ev)} {next : Int} {vq : Value} {l : List Od} {t : Tot} {vo : Value} {ts : List Ev}
end
end Go.Proofs.Ythmgkabpcjkieaa
namespace Go.Proofs.Ythmgkabpcjkieaa
open Go.RowKit
set_option linter.unusedVariables false

section
variable {C : Nat → Value → Prop} {n : Nat} {T : World → World} {base W W' : World} {x : List Bool} {f : Nat → Value}
end
end Go.Proofs.Ythmgkabpcjkieaa
namespace Go.Proofs.Ythmgkabpcjkieaa
open Go.RowKit
set_option linter.unusedVariables false

end Go.Proofs.Ythmgkabpcjkieaa
namespace Go.Proofs.Ythmgkabpcjkieaa
open Go.RowKit
set_option linter.unusedVariables false

end Go.Proofs.Ythmgkabpcjkieaa
namespace Go.Proofs.Ythmgkabpcjkieaa
open Go.RowKit
set_option linter.unusedVariables false

/-- Whether an order stays behind a day's end. -/
def ndy (o : Od) : Bool := !(o.life == 1)
end Go.Proofs.Ythmgkabpcjkieaa
namespace Go.Proofs.Ythmgkabpcjkieaa
open Go.RowKit
set_option linter.unusedVariables false

/-- Whether an order goes at a day's end. -/
def dyB (o : Od) : Bool := o.life == 1
def expE (o : Od) : Ev := ⟨9, zCm, o.id, 0, o.left, 0, 0⟩
theorem take_dy {l : List Od} {j : Nat} {o : Od} (h : l[j]? = some o) (hd : o.life = 1) : (l.take (j + 1)).filter dyB = (l.take j).filter dyB ++ [o] := by
  rw [List.take_add_one, h, List.filter_append]
  simp [dyB, hd]
theorem take_no {l : List Od} {j : Nat} {o : Od} (h : l[j]? = some o) (hd : o.life ≠ 1) : (l.take (j + 1)).filter dyB = (l.take j).filter dyB := by
  rw [List.take_add_one, h, List.filter_append]
  simp [dyB, hd]
end Go.Proofs.Ythmgkabpcjkieaa
namespace Go.Proofs.Ythmgkabpcjkieaa
open Go.RowKit
set_option linter.unusedVariables false

end Go.Proofs.Ythmgkabpcjkieaa
namespace Go.Proofs.Ythmgkabpcjkieaa
open Go.RowKit
set_option linter.unusedVariables false

theorem gqY {x : List Bool} {i j : Nat} (h : i ≠ j) : (x.set i true)[j]? = x[j]? := List.getElem?_set_ne h
theorem gqsY {x : List Bool} {i : Nat} (h : x[i]? = some false) : (x.set i true)[i]? = some true := List.getElem?_set_self (List.getElem?_eq_some_iff.1 h).1
/-- One round of those that an operation waits for. -/
def ancS (l : List Oper) (s : List Nat) : List Nat := s ++ s.flatMap fun i => match l[i]? with
  | some o => (o.after.toList.filter fun e => Region.binds .any e).map fun e => e.on
  | none => []
def ancN (l : List Oper) : Nat → List Nat → List Nat
  | 0, s => s
  | n + 1, s => ancN l n (ancS l s).eraseDups
theorem ancS_true {l : List Oper} {x : List Bool} (hc : Closed l x) {s : List Nat} (hs : ∀ i ∈ s, x[i]? = some true) : ∀ i ∈ ancS l s, x[i]? = some true := by
  intro i hi
  rcases List.mem_append.1 hi with h | h
  · exact hs i h
  · obtain ⟨k, hk, hm⟩ := List.mem_flatMap.1 h
    split at hm
    · next o ho =>
      obtain ⟨e, he, rfl⟩ := List.mem_map.1 hm
      obtain ⟨he1, he2⟩ := List.mem_filter.1 he
      exact hc k o ho (hs k hk) e (by simpa using he1) he2
    · simp at hm
theorem ancN_true {l : List Oper} {x : List Bool} (hc : Closed l x) : ∀ (n : Nat) (s : List Nat), (∀ i ∈ s, x[i]? = some true) → ∀ i ∈ ancN l n s, x[i]? = some true
  | 0, s, hs => hs
  | n + 1, s, hs => ancN_true hc n _ (fun i hi => ancS_true hc hs i (List.mem_eraseDups.1 hi))
/-- An operation that another waits for has not come up: so that other one has not. -/
theorem wait_no {l : List Oper} {x : List Bool} (hc : Closed l x) (d i n : Nat) (hB : (ancN l d [n]).contains i = true) (hx : x.length = l.length) (hn : n < l.length) (hi : x[i]? = some false) : x[n]? = some false := by
  rcases bit_or hx hn with h | h
  · exact h
  · have := ancN_true hc d [n] (by simpa using h) i (by simpa using hB)
    rw [hi] at this; cases this
/-- What holds while one operation, the n-th, writes behind all that it waits for. -/
structure RY (C : World → Nat → Value → Prop) (n : Nat) (Q : (Nat → Value) → World → Prop) (base : World) (x : List Bool) (f : Nat → Value) (W : World) : Prop where
  b : x[n]? = some false → Below base.heap.size base W
  c : x[n]? = some false → ∀ j, x[j]? = some true → C W j (f j)
  m : x[n]? = some true → Q f W
def RYA (F : (Nat → Value) → Act) (C : World → Nat → Value → Prop) (n : Nat) (Q : (Nat → Value) → World → Prop) (base : World) (x : List Bool) (A : Act) (W : World) : Prop := ∃ f, A = F f ∧ RY C n Q base x f W
section
variable {C : World → Nat → Value → Prop} {n : Nat} {Q : (Nat → Value) → World → Prop} {base W W' : World} {x : List Bool} {f : Nat → Value}
theorem ry_start {k : Nat} {f : Nat → Value} (hk : n < k) : RY C n Q base (List.replicate k false) f { base with drawn := base.drawn + 1 } :=
  ⟨fun _ => ⟨rfl, rfl, rfl, Nat.le_refl _, fun _ _ => rfl⟩, fun _ j hj => by rw [List.getElem?_replicate] at hj; split at hj <;> simp at hj, fun h => by rw [List.getElem?_replicate] at h; split at h <;> simp at h⟩
theorem ry_val (h : RY C n Q base x f W) (i : Nat) (v : Value) (hn : x[n]? = some false) (hin : i ≠ n) (hv : C W i v) : RY C n Q base (x.set i true) (upd f i v) W := by
  refine ⟨fun _ => h.b hn, fun _ j hj => ?_, fun e => by rw [gqY hin, hn] at e; cases e⟩
  by_cases hji : j = i
  · subst hji; rw [upd_same]; exact hv
  · rw [upd_ne _ _ hji]; rw [gqY (fun e => hji e.symm)] at hj; exact h.c hn j hj
theorem ry_grow (hm : ∀ W W' j v, Below W.heap.size W W' → C W j v → C W' j v) (h : RY C n Q base x f W) (hn : x[n]? = some false) (hb : Below W.heap.size W W') : RY C n Q base x f W' :=
  ⟨fun _ => (h.b hn).trans (hb.mono (h.b hn).size), fun _ j hj => hm _ _ _ _ hb (h.c hn j hj), fun e => by rw [hn] at e; cases e⟩
theorem ry_write (h : RY C n Q base x f W) (hn : x[n]? = some false) (v : Value) (hq : Q (upd f n v) W') : RY C n Q base (x.set n true) (upd f n v) W' :=
  ⟨fun e => (by rw [gqsY hn] at e; cases e), fun e => (by rw [gqsY hn] at e; cases e), fun _ => hq⟩
theorem ry_writeN (h : RY C n Q base x f W) (hn : x[n]? = some false) (hq : Q f W') : RY C n Q base (x.set n true) f W' :=
  ⟨fun e => (by rw [gqsY hn] at e; cases e), fun e => (by rw [gqsY hn] at e; cases e), fun _ => hq⟩
theorem ry_after (h : RY C n Q base x f W) (i : Nat) (v : Value) (hn : x[n]? = some true) (hin : i ≠ n) (hq : Q f W → Q (upd f i v) W) : RY C n Q base (x.set i true) (upd f i v) W :=
  ⟨fun e => (by rw [gqY hin, hn] at e; cases e), fun e => (by rw [gqY hin, hn] at e; cases e), fun _ => hq (h.m hn)⟩
end
end Go.Proofs.Ythmgkabpcjkieaa
namespace Go.Proofs.Ythmgkabpcjkieaa
open Go.RowKit
set_option linter.unusedVariables false

/-- A world grown, but for one block. -/
def KB (R : Nat) (W W' : World) : Prop := KeptBut R W.heap.size W W'
theorem kb_trans {R : Nat} {W W1 W2 : World} (h1 : KB R W W1) (h2 : KB R W1 W2) : KB R W W2 :=
  ⟨h2.os.trans h1.os, h2.tape.trans h1.tape, h2.output.trans h1.output, Nat.le_trans h1.size h2.size, fun k hk hm => (h2.block k (Nat.lt_of_lt_of_le hk h1.size) hm).trans (h1.block k hk hm)⟩
theorem kb_below {R : Nat} {W W' : World} (h : Below W.heap.size W W') : KB R W W' := ⟨h.os, h.tape, h.output, h.size, fun k hk _ => h.block k hk⟩
theorem kb_setCells (R o : Nat) (vs : List Value) (W : World) : KB R W (W.setCells R o vs) :=
  ⟨os_setCells _ _ _ _, tape_setCells _ _ _ _, output_setCells _ _ _ _, by rw [size_setCells]; exact Nat.le_refl _, fun k _ hm => heap_setCells _ _ hm _ _ _⟩
theorem kb_row {R B e sz n : Nat} {v : Value} {xs : List Value} {W W' : World} (h : W.ownsRow B e sz v n xs) (hb : KB R W W') (hR : R < B) : W'.ownsRow B e sz v n xs := by
  refine ⟨h.1, ?_⟩
  rcases h.2 with hn | ⟨g, cap, cur, rfl, hg, hgg, rest⟩
  · exact .inl hn
  · exact .inr ⟨g, cap, cur, rfl, hg, (hb.block g (Array.getElem?_eq_some_iff.1 hgg).1 (by omega)).trans hgg, rest⟩
theorem kb_cell {R : Nat} {W W' : World} (hb : KB R W W') {p : Addr} {u : Value} (h : W.cell? p = some u) (hp : p.block ≠ R) : W'.cell? p = some u :=
  (World.cell?_of_block (a := p) (hb.block p.block (World.block_lt_of_cell? W _ h) hp)).trans h
theorem kb_range {R : Nat} {W W' : World} (hb : KB R W W') {b o : Nat} {cs : List Value} (h : W.rangeAt b o cs) (hp : b ≠ R) : W'.rangeAt b o cs := fun j u hj => kb_cell hb (h j u hj) hp
/-- What holds while one operation, the st-th, writes a result's block, whenever it comes. -/
structure RX (C : World → Nat → Value → Prop) (R m st : Nat) (Rv : (Nat → Value) → List Value) (base : World) (x : List Bool) (f : Nat → Value) (W : World) : Prop where
  k : KB R base W
  lt : R < base.heap.size
  t : W.there R 0 m
  c : ∀ j, x[j]? = some true → C W j (f j)
  r : x[st]? = some true → W.rangeAt R 0 (Rv f)
def RXA (F : (Nat → Value) → Act) (C : World → Nat → Value → Prop) (R m st : Nat) (Rv : (Nat → Value) → List Value) (base : World) (x : List Bool) (A : Act) (W : World) : Prop := ∃ f, A = F f ∧ RX C R m st Rv base x f W
section
variable {C : World → Nat → Value → Prop} {R m st : Nat} {Rv : (Nat → Value) → List Value} {base W W' : World} {x : List Bool} {f : Nat → Value}
theorem rx_start {k : Nat} {f : Nat → Value} (hl : R < base.heap.size) (ht : base.there R 0 m) : RX C R m st Rv base (List.replicate k false) f { base with drawn := base.drawn + 1 } :=
  ⟨⟨rfl, rfl, rfl, Nat.le_refl _, fun _ _ _ => rfl⟩, hl, ht, fun j hj => by rw [List.getElem?_replicate] at hj; split at hj <;> simp at hj, fun h => by rw [List.getElem?_replicate] at h; split at h <;> simp at h⟩
theorem rx_val (h : RX C R m st Rv base x f W) (i : Nat) (v : Value) (his : i ≠ st) (hr : x[st]? = some true → Rv (upd f i v) = Rv f) (hv : C W i v) : RX C R m st Rv base (x.set i true) (upd f i v) W := by
  refine ⟨h.k, h.lt, h.t, fun j hj => ?_, fun e => ?_⟩
  · by_cases hji : j = i
    · subst hji; rw [upd_same]; exact hv
    · rw [upd_ne _ _ hji]; rw [gq (fun e => hji e.symm)] at hj; exact h.c j hj
  · rw [gq his] at e; rw [hr e]; exact h.r e
theorem rx_grow (hm : ∀ W W' j v, KB R W W' → C W j v → C W' j v) (h : RX C R m st Rv base x f W) (hb : Below W.heap.size W W') : RX C R m st Rv base x f W' :=
  ⟨kb_trans h.k (kb_below hb), h.lt, there_below h.t hb (Nat.lt_of_lt_of_le h.lt h.k.size), fun j hj => hm _ _ _ _ (kb_below hb) (h.c j hj), fun e => range_below (h.r e) hb (Nat.lt_of_lt_of_le h.lt h.k.size)⟩
theorem rx_store (hm : ∀ W W' j v, KB R W W' → C W j v → C W' j v) (h : RX C R m st Rv base x f W) (hx : x[st]? = some false) (hl : (Rv f).length = m) (hC : ∀ W v, C W st v) : RX C R m st Rv base (x.set st true) f (W.setCells R 0 (Rv f)) := by
  refine ⟨kb_trans h.k (kb_setCells _ _ _ _), h.lt, World.there_setCells h.t _ _ _, fun j hj => ?_, fun _ => World.rangeAt_setCells_same W R 0 _ (fun j hj => h.t j (by omega))⟩
  by_cases hji : j = st
  · subst hji; exact hC _ _
  · rw [gq (fun e => hji e.symm)] at hj; exact hm _ _ _ _ (kb_setCells _ _ _ _) (h.c j hj)
end
end Go.Proofs.Ythmgkabpcjkieaa
