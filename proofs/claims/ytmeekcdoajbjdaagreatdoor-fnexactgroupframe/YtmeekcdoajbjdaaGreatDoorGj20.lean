/-
  The bytes of an event read back: plain facts, no program.
-/
import Derived.Test.YtmeekcdoajbjdaaGreatDoorGj18
import Derived.Test.YtmeekcdoajbjdaaGreatDoorGj19
namespace Go.Proofs.YtmeekcdoajbjdaaGreatDoor
open Go.RowKit
set_option linter.unusedVariables false

theorem scan_putR (l r : List Int) (k : Nat) : ∀ (f x i acc : Nat), f = 10 - i → i ≤ 9 → l.drop (k + i) = putU x ++ r → acc + x * 128 ^ i < 18446744073709551616 → (0 < i → 0 < x) →
    scan l k f i acc = some (acc + x * 128 ^ i, k + i + (putU x).length)
  | 0, x, i, acc, hf, hi, _, _, _ => by omega
  | f + 1, x, i, acc, hf, hi, hd, hlt, hpos => by
    have h9 : i = 9 → x ≤ 1 := by
      intro e; subst e
      have e9 : (128 : Nat) ^ 9 = 9223372036854775808 := by decide
      rw [e9] at hlt; omega
    by_cases hx : x < 128
    · rw [putU_small hx] at hd ⊢
      obtain ⟨h1, h2, _⟩ := drop_head hd
      rw [scan, if_neg (by omega), h2, if_neg (by omega), if_pos (by omega)]
      have e : ((x : Int) % 128).toNat = x := by omega
      rw [e]; rfl
    · rw [putU_great hx] at hd ⊢
      rw [List.cons_append] at hd
      obtain ⟨h1, h2, h3⟩ := drop_head hd
      rw [scan, if_neg (by omega), h2, if_neg (by omega), if_neg (by omega)]
      have e : (((x : Int) % 128 + 128) % 128).toNat = x % 128 := by omega
      have e2 : acc + x % 128 * 128 ^ i + x / 128 * 128 ^ (i + 1) = acc + x * 128 ^ i := by
        rw [Nat.pow_succ, Nat.mul_comm (128 ^ i) 128, ← Nat.mul_assoc, Nat.add_assoc, ← Nat.add_mul, Nat.mod_add_div']
      rw [e, scan_putR l r k f (x / 128) (i + 1) _ (by omega) (by omega) h3 (by rw [e2]; exact hlt) (by omega), e2]
      simp only [List.length_cons]
      congr 2; omega
theorem getU_putR (a r : List Int) (u : Nat) (h : u < 18446744073709551616) : getU (a ++ (putU u ++ r)) a.length = some (u, a.length + (putU u).length) := by
  have := scan_putR (a ++ (putU u ++ r)) r a.length 10 u 0 0 rfl (by omega) (by simp) (by omega) (by omega)
  simpa [getU] using this
theorem floatA_wr (a r : List Int) (x : Nat) (h : x < 18446744073709551616) : floatA (a ++ (fl8 (fbit x) ++ r)) a.length = some (fbit x, a.length + 8) := by
  have hb : bits8 (a ++ (fl8 (fbit x) ++ r)) a.length 8 = fbit x := by
    unfold bits8
    rw [List.drop_left, List.take_left' (fl8_len _)]
    exact fl8_back _ (fbit_lt x h)
  rw [floatA_yes (by simp [fl8_len]) (by rw [hb]; exact fbit_nan x), hb]
theorem byte_push (l : List UInt8) : ∀ s : ByteArray, ((l.map fun b => (b.toNat : Int)).foldl (fun r n => r.push (UInt8.ofNat n.toNat)) s).data.toList = s.data.toList ++ l := by
  induction l with
  | nil => intro s; simp
  | cons b l ih =>
    intro s
    rw [List.map_cons, List.foldl_cons, ih]
    simp [ByteArray.push]
theorem strB_bl (s : ByteArray) : strB (bl s) = s := by
  have h := byte_push s.data.toList ByteArray.empty
  unfold strB bl
  generalize List.foldl _ _ _ = t at h ⊢
  obtain ⟨⟨d⟩⟩ := t
  obtain ⟨⟨e⟩⟩ := s
  simp only at h
  have : d = e := h
  rw [this]
theorem textA_wr (a r : List Int) (s : ByteArray) : textA (a ++ (textL s ++ r)) a.length = some (cutB s, a.length + (textL s).length) := by
  have hc := cutB_size s
  have hz := zz_lt ((cutB s).size : Int) (by omega) (by omega)
  have hu := getU_putR a (bl (cutB s) ++ r) (zz (cutB s).size) hz
  have e : a ++ (textL s ++ r) = a ++ (putU (zz (cutB s).size) ++ (bl (cutB s) ++ r)) := by unfold textL; simp
  rw [e, textA_yes hu (by
    rw [unz_zz]
    simp only [List.length_append, bl_len]
    omega), unz_zz]
  have e2 : (a ++ (putU (zz (cutB s).size) ++ (bl (cutB s) ++ r))).drop (a.length + (putU (zz (cutB s).size)).length) = bl (cutB s) ++ r := by
    rw [← List.append_assoc, List.drop_left' (by simp)]
  rw [e2, Int.toNat_natCast, List.take_left' (bl_len _), strB_bl]
  simp only [textL, List.length_append, bl_len]
  congr 2; omega
/-- What is read back of a field. -/
def bkF (e : Ev) (o : Nat) : Value := if o = 7 then .float .f64 (fbit e.cmd.p) else if o = 8 then .string (cutB e.cmd.g) else .int .i64 (e.num o)
theorem rdF_wr (e : Ev) (he : e.fit) (o : Nat) (a r : List Int) : rdF o (a ++ (wrF e o ++ r)) a.length = some (bkF e o, a.length + (wrF e o).length) := by
  unfold rdF wrF bkF
  split
  · rw [floatA_wr a r _ he.p, fl8_len]; rfl
  · split
    · rw [textA_wr]; rfl
    · rw [getU_putR a r _ (zz_lt _ (he.n o).1 (he.n o).2)]
      simp only [Option.map_some, unz_zz]
theorem rdEs_wr (e : Ev) (he : e.fit) : ∀ (os : List Nat) (x : Ev) (a r : List Int), rdEs os x (a ++ (os.flatMap (wrF e) ++ r)) a.length = some (os.foldl (fun x o => x.put o (bkF e o)) x, a.length + (os.flatMap (wrF e)).length)
  | [], x, a, r => by simp [rdEs]
  | o :: os, x, a, r => by
    have h1 := rdF_wr e he o a (os.flatMap (wrF e) ++ r)
    have h2 := rdEs_wr e he os (x.put o (bkF e o)) (a ++ wrF e o) r
    rw [List.flatMap_cons, List.append_assoc, rdEs_some h1]
    rw [List.append_assoc, List.length_append] at h2
    rw [h2, List.foldl_cons, List.length_append, Nat.add_assoc]
/-- The event that is read back from an event's bytes. -/
def bkE (e : Ev) : Ev := (shF e.kind).foldl (fun x o => x.put o (bkF e o)) (ev0 e.kind)
theorem evA_wr (e : Ev) (he : e.fit) (hk : shF e.kind ≠ []) (r : List Int) : evA (evL e ++ r) 0 = some (bkE e, (evL e).length) := by
  have h := rdEs_wr e he (shF e.kind) (ev0 e.kind) [e.kind] r
  have e1 : (evL e ++ r).getD 0 0 = e.kind := rfl
  rw [evA_yes (by simp [evL]) (by rw [e1]; exact hk), e1]
  have e2 : evL e ++ r = [e.kind] ++ ((shF e.kind).flatMap (wrF e) ++ r) := by simp [evL]
  rw [e2, show (0 : Nat) + 1 = [e.kind].length from rfl, h]
  simp [bkE, evL]; omega
theorem evL_len (e : Ev) (he : e.fit) : 0 < (evL e).length ∧ (evL e).length ≤ 208 := by
  have h1 := flat_le e he (shF e.kind)
  have h2 := shF_len e.kind
  unfold evL
  rw [List.length_cons]
  omega
theorem textL_bts (s : ByteArray) : Bts (textL s) := by
  intro x hx
  rcases List.mem_append.1 hx with h | h
  · exact putU_bts _ x h
  · obtain ⟨b, _, rfl⟩ := List.mem_map.1 h
    have := b.toNat_lt
    omega
theorem evL_bts (e : Ev) (hk : 1 ≤ e.kind ∧ e.kind ≤ 9) : Bts (evL e) := by
  intro x hx
  rcases List.mem_cons.1 hx with rfl | h
  · omega
  · obtain ⟨o, _, ho⟩ := List.mem_flatMap.1 h
    unfold wrF at ho
    split at ho
    · exact fl8_bts _ x ho
    · split at ho
      · exact textL_bts _ x ho
      · exact putU_bts _ x ho
theorem shF_ne (k : Int) : shF k ≠ [] ↔ 1 ≤ k ∧ k ≤ 9 := by
  unfold shF
  repeat' split
  all_goals simp
  all_goals omega
end Go.Proofs.YtmeekcdoajbjdaaGreatDoor
namespace Go.Proofs.YtmeekcdoajbjdaaGreatDoor
open Go.RowKit
set_option linter.unusedVariables false

/-- Two events are one, their floats told by their bits. -/
def sameE (a b : Ev) : Bool := (a.kind == b.kind) && ((a.id == b.id) && ((a.other == b.other) && ((a.qty == b.qty) && ((a.price == b.price) && ((a.reason == b.reason) && ((a.cmd.k == b.cmd.k) && ((a.cmd.s == b.cmd.s) && ((a.cmd.t == b.cmd.t) && ((a.cmd.l == b.cmd.l) && ((a.cmd.q == b.cmd.q) && ((a.cmd.i == b.cmd.i) && ((fbit a.cmd.p == fbit b.cmd.p) && decide (a.cmd.g.toList = b.cmd.g.toList)))))))))))))
/-- No command at all. -/
def plainC (c : Cm) : Bool := (c.k == 0) && ((c.s == 0) && ((c.t == 0) && ((c.l == 0) && ((c.q == 0) && ((c.i == 0) && ((fbit c.p == 0) && decide (c.g.toList = [])))))))
/-- Which of Id, Other, Qty, Price, Reason a kind has. -/
def fldK (k : Int) : List Bool := if k = 1 then [true, false, false, false, false] else if k = 2 then [false, false, false, false, true] else if k = 3 then [true, true, true, true, false] else if k = 4 ∨ k = 5 ∨ k = 6 ∨ k = 7 ∨ k = 9 then [true, false, true, false, false] else if k = 8 then [false, false, true, false, false] else []
def numsE (e : Ev) : List Int := [e.id, e.other, e.qty, e.price, e.reason]
/-- The numbers that the kind has not are none. -/
def restK (fs : List Bool) (ns : List Int) : Bool := (List.range 5).all fun i => fs.getD i false || (ns.getD i 0 == 0)
/-- An event is right. -/
def okE (e : Ev) : Bool := if fldK e.kind = [] then false else if restK (fldK e.kind) (numsE e) = false then false else
  if e.kind = 1 then (e.cmd.k == 1) && ((e.cmd.i == 0) && decide (e.cmd.g.size ≤ 13)) else if e.kind = 2 then decide (e.cmd.g.size ≤ 13) else plainC e.cmd
theorem fbit_two (x : Nat) : fbit (fbit x) = fbit x := by
  unfold fbit
  repeat' split
  all_goals first | rfl | (exfalso; simp_all)
theorem fbit_zero : fbit 0 = 0 := by
  have h : nanB 0 = false := by decide +kernel
  unfold fbit
  rw [h]
  rfl
theorem cutB_same (s : ByteArray) : (cutB s).toList = s.toList ↔ s.size ≤ 13 := by
  by_cases h : s.size ≤ 12
  · rw [show cutB s = s from if_neg (by omega)]
    exact ⟨fun _ => by omega, fun _ => rfl⟩
  · by_cases h1 : s.size = 13
    · rw [cutB_one s h1]
      exact ⟨fun _ => by omega, fun _ => rfl⟩
    · refine ⟨fun e => ?_, fun e => by omega⟩
      rw [Go.ByteArray.toList_eq, Go.ByteArray.toList_eq] at e
      have e2 := congrArg List.length e
      have h3 := cutB_size s
      have h4 : (cutB s).data.toList.length = (cutB s).size := rfl
      have h5 : s.data.toList.length = s.size := rfl
      omega
theorem okE_eq (e : Ev) (hk : 1 ≤ e.kind ∧ e.kind ≤ 9) : sameE (bkE e) e = okE e := by
  obtain ⟨kind, ⟨ck, cs, ct, cl, cq, ci, cp, cg⟩, id, other, qty, price, reason⟩ := e
  simp only at hk
  rcases (show kind = 1 ∨ kind = 2 ∨ kind = 3 ∨ kind = 4 ∨ kind = 5 ∨ kind = 6 ∨ kind = 7 ∨ kind = 8 ∨ kind = 9 by omega) with rfl | rfl | rfl | rfl | rfl | rfl | rfl | rfl | rfl
  all_goals
    rw [Bool.eq_iff_iff]
    simp [sameE, okE, fldK, restK, numsE, fbit_two, cutB_same, List.range_succ, bkE, shF, ev0, shC, bkF, Ev.put, Ev.num, plainC, fbit_zero]
    try grind
end Go.Proofs.YtmeekcdoajbjdaaGreatDoor
