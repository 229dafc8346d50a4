/-
  The script of a text's lines, as the program reads it: proved by walking the function.
-/
import Derived.Maps.AppendAt
import Derived.Test.YtjjopdkbdebfoaaDoorScrX
import Derived.Test.YtjjopdkbdebfoaaDoorCmdF
namespace Go.Proofs.YtjjopdkbdebfoaaDoor
open Go.RowKit Go.Shelf
set_option linter.unusedVariables false
attribute [local go_sem] Oper.semAt_some

/-- Lines have gone by: those commands came of them. -/
def Gone (pre : List NL) (out : List Cm) : Prop := ∀ r, scn (pre.map (fun x => x.1.2.data.toList) ++ r) 1 [] = scn r (pre.length + 1) out
theorem gone_nil : Gone [] [] := fun r => rfl
theorem gone_one {pre : List NL} {out : List Cm} (h : Gone pre out) (x : NL) (r : List (List UInt8)) : scn ((pre ++ [x]).map (fun x => x.1.2.data.toList) ++ r) 1 [] = scn (x.1.2.data.toList :: r) (pre.length + 1) out := by
  rw [← h]; simp
theorem gone_skip {pre : List NL} {out : List Cm} (h : Gone pre out) (x : NL) (hx : lnN x.1.2.data.toList = true) : Gone (pre ++ [x]) out := fun r => by
  rw [gone_one h, scn_step, if_pos hx]; simp
theorem gone_more {pre : List NL} {out : List Cm} (h : Gone pre out) (x : NL) (hx : ¬ lnN x.1.2.data.toList = true) (hk : ¬ cmK (lnW x.1.2.data.toList) = false) (hn : ¬ out.length = 200) : Gone (pre ++ [x]) (out ++ [cmC (lnW x.1.2.data.toList)]) := fun r => by
  rw [gone_one h, scn_step, if_neg hx, if_neg hk, if_neg hn]; simp
/-- A line was none: with which code. -/
def Left (pre : List NL) (c n : Int) : Prop := ∃ p x, pre = p ++ [x] ∧ n = (x.1.1 : Int) ∧ ∀ r, scn (pre.map (fun x => x.1.2.data.toList) ++ r) 1 [] = ([], c, (p.length : Int) + 1)
theorem left_syn {pre : List NL} {out : List Cm} (h : Gone pre out) (x : NL) (hx : ¬ lnN x.1.2.data.toList = true) (hk : cmK (lnW x.1.2.data.toList) = false) : Left (pre ++ [x]) 4 x.1.1 := ⟨pre, x, rfl, rfl, fun r => by
  rw [gone_one h, scn_step, if_neg hx, if_pos hk]; simp⟩
theorem left_many {pre : List NL} {out : List Cm} (h : Gone pre out) (x : NL) (hx : ¬ lnN x.1.2.data.toList = true) (hk : ¬ cmK (lnW x.1.2.data.toList) = false) (hn : out.length = 200) : Left (pre ++ [x]) 7 x.1.1 := ⟨pre, x, rfl, rfl, fun r => by
  rw [gone_one h, scn_step, if_neg hx, if_neg hk, if_pos hn]; simp⟩
theorem nlN_snd : ∀ (n : Nat) (l : List (List UInt8)), (nlN n l).map Prod.snd = l
  | _, [] => rfl
  | n, l :: r => by simp [nlN, nlN_snd (n + 1) r]
theorem nlN_at : ∀ (n : Nat) (l : List (List UInt8)) (i : Nat) (p : Nat × List UInt8), (nlN n l)[i]? = some p → p.1 = n + i
  | _, [], i, p, h => by simp [nlN] at h
  | n, l :: r, 0, p, h => by simp [nlN] at h; subst h; rfl
  | n, l :: r, i + 1, p, h => by
    have := nlN_at (n + 1) r i p (by simpa [nlN] using h)
    omega
theorem gone_all {ys : List NL} {out : List Cm} {l : List (List UInt8)} (h : Gone ys out) (hy : ys.map nlL = nlN 1 l) : scn l 1 [] = (out, 0, 0) := by
  have h1 := h []
  have h2 : ys.map (fun x => x.1.2.data.toList) = l := by
    rw [← nlN_snd 1 l, ← hy]; simp [nlL, Function.comp_def]
  rw [h2, List.append_nil] at h1
  rw [h1]; rfl
theorem left_all {pre : List NL} {c n : Int} {l : List (List UInt8)} (h : Left pre c n) (hy : pre.map nlL <+: nlN 1 l) : scn l 1 [] = ([], c, n) := by
  obtain ⟨p, x, rfl, rfl, h1⟩ := h
  obtain ⟨q, hq⟩ := hy
  have h2 : (p ++ [x]).map (fun x => x.1.2.data.toList) ++ q.map Prod.snd = l := by
    rw [← nlN_snd 1 l, ← hq]; simp [nlL, Function.comp_def]
  rw [← h2, h1]
  have h3 := nlN_at 1 l p.length (nlL x) (by rw [← hq]; simp)
  have h4 : x.1.1 = 1 + p.length := h3
  rw [h4]
  simp
  omega
theorem lines_stops (n : Nat) (hn : 1 ≤ n) (Bs n₀ : Nat) (s : ByteArray) (hs : s.size ≤ 1048576) (w : World) (hB : Bs < w.heap.size) (hc : w.cell? ⟨Bs, 0, none⟩ = some (.string s)) :
    SeqStopsK Fence.wide n Tryd.prog 28 #[.pointer (some ⟨Bs, 0, none⟩)] nlE (Below n₀) (fun ys => ys.map nlL = nlN 1 (lns s.data.toList)) (fun pre => pre.map nlL <+: nlN 1 (lns s.data.toList)) 2000000 w := fun l J Jx W hW hJ hJx hY h0 =>
  lines1_in n hn l Bs n₀ s hs J Jx (fun pre W k h => hJ pre W _ none h ⟨rfl, rfl, rfl, Nat.le_refl _, fun _ _ _ => rfl⟩ (fun r e => by cases e)) hY W ((hW.cell (p := ⟨Bs, 0, none⟩) hB).trans hc) h0
end Go.Proofs.YtjjopdkbdebfoaaDoor
