/-
  Figures: floats that are numbers or none, prices of ticks, what is left of a side; operations of floats run, the rest plain facts.
-/
import Derived.Test.YteljmhgpffekgaaFj13
import Derived.Test.YteljmhgpffekgaaFj31
namespace Go.Proofs.Yteljmhgpffekgaa
open Go.RowKit
set_option linter.unusedVariables false

theorem has_some (x : Nat) : HasF (some x) x := ⟨fun r h => Option.some.inj h, fun h => by simp at h⟩
theorem quot_nanL (n : Nat) (d e : Ieee.Datum) (h : d.isNaN = true) : d.quotient n e = none := by
  cases d <;> simp [Ieee.Datum.isNaN] at h
  cases e <;> rfl
theorem quot_nanR (n : Nat) (d e : Ieee.Datum) (h : e.isNaN = true) : d.quotient n e = none := by
  cases e <;> simp [Ieee.Datum.isNaN] at h
  cases d <;> rfl
theorem opp_nan (d : Ieee.Datum) (h : d.isNaN = true) : d.opposite.isNaN = true := by
  cases d <;> simp [Ieee.Datum.isNaN] at h
  rfl
theorem add_none {x y : Nat} (h : nanB x = true ∨ nanB y = true) : FloatKind.f64.format.add x y = none := by
  show (((Ieee.double.read x).sum (Ieee.double.read y)).map Ieee.double.write) = none
  rcases h with h | h
  · rw [sum_nanL _ _ ((nan_iff x).1 h)]; rfl
  · rw [sum_nanR _ _ ((nan_iff y).1 h)]; rfl
theorem sub_none {x y : Nat} (h : nanB x = true ∨ nanB y = true) : FloatKind.f64.format.sub x y = none := by
  show (((Ieee.double.read x).sum (Ieee.double.read y).opposite).map Ieee.double.write) = none
  rcases h with h | h
  · rw [sum_nanL _ _ ((nan_iff x).1 h)]; rfl
  · rw [sum_nanR _ _ (opp_nan _ ((nan_iff y).1 h))]; rfl
theorem div_none {x y : Nat} (h : nanB x = true ∨ nanB y = true) : FloatKind.f64.format.div x y = none := by
  show (((Ieee.double.read x).quotient _ (Ieee.double.read y)).map Ieee.double.write) = none
  rcases h with h | h
  · rw [quot_nanL _ _ _ ((nan_iff x).1 h)]; rfl
  · rw [quot_nanR _ _ _ ((nan_iff y).1 h)]; rfl
theorem has_key {g : Nat → Nat → Option Nat} (hg : ∀ x y, nanB x = true ∨ nanB y = true → g x y = none) {o1 o2 : Option Nat} {x y : Nat} (h1 : HasF o1 x) (h2 : HasF o2 y) :
    (o1.bind fun a => o2.bind fun b => g a b) = g x y := by
  cases e1 : o1 with
  | none => rw [hg x y (.inl (h1.2 e1))]; rfl
  | some a =>
    cases e2 : o2 with
    | none => rw [hg x y (.inr (h2.2 e2))]; rfl
    | some b => rw [h1.1 a e1, h2.1 b e2]; rfl
theorem addH (o1 o2 : Option Nat) (x y : Nat) (W : World) (h1 : HasF o1 x) (h2 : HasF o2 y) :
    ∃ v n, (binOp .add 29 (.float .f64 x) (.float .f64 y)).run Try.prog W = .ok (.float .f64 v) (W.drewN n) ∧ HasF (o1.bind fun a => o2.bind fun b => FloatKind.f64.format.add a b) v := by
  rw [has_key (fun _ _ h => add_none h) h1 h2]
  cases ha : FloatKind.f64.format.add x y with
  | some r => exact ⟨r, 0, by simp [binOp, Op.floatArith, ha]; rfl, has_some r⟩
  | none =>
    refine ⟨(Question.nanBits .f64 x y).cut (W.tape W.drawn (.nanBits .f64 x y)), 1, ?_, (fun r' hr => by simp at hr), fun _ => nan_drawn _⟩
    simp [binOp, Op.floatArith, ha, choose]
    rfl
theorem subH (o1 o2 : Option Nat) (x y : Nat) (W : World) (h1 : HasF o1 x) (h2 : HasF o2 y) :
    ∃ v n, (binOp .sub 29 (.float .f64 x) (.float .f64 y)).run Try.prog W = .ok (.float .f64 v) (W.drewN n) ∧ HasF (o1.bind fun a => o2.bind fun b => FloatKind.f64.format.sub a b) v := by
  rw [has_key (fun _ _ h => sub_none h) h1 h2]
  cases ha : FloatKind.f64.format.sub x y with
  | some r => exact ⟨r, 0, by simp [binOp, Op.floatArith, ha]; rfl, has_some r⟩
  | none =>
    refine ⟨(Question.nanBits .f64 x y).cut (W.tape W.drawn (.nanBits .f64 x y)), 1, ?_, (fun r' hr => by simp at hr), fun _ => nan_drawn _⟩
    simp [binOp, Op.floatArith, ha, choose]
    rfl
theorem divH (o1 o2 : Option Nat) (x y : Nat) (W : World) (h1 : HasF o1 x) (h2 : HasF o2 y) :
    ∃ v n, (binOp .quo 29 (.float .f64 x) (.float .f64 y)).run Try.prog W = .ok (.float .f64 v) (W.drewN n) ∧ HasF (o1.bind fun a => o2.bind fun b => FloatKind.f64.format.div a b) v := by
  rw [has_key (fun _ _ h => div_none h) h1 h2]
  cases ha : FloatKind.f64.format.div x y with
  | some r => exact ⟨r, 0, by simp [binOp, Op.floatArith, ha]; rfl, has_some r⟩
  | none =>
    refine ⟨(Question.nanBits .f64 x y).cut (W.tape W.drawn (.nanBits .f64 x y)), 1, ?_, (fun r' hr => by simp at hr), fun _ => nan_drawn _⟩
    simp [binOp, Op.floatArith, ha, choose]
    rfl
/-- A whole number by four is a float. -/
theorem quarter_some (n : Int) : ∃ r, FloatKind.f64.format.div (floatOfInt .f64 n) 4616189618054758400 = some r := by
  have hn := ofInt_order n
  have h4 : Ieee.double.read 4616189618054758400 = .number false 4503599627370496 (-50) := by decide
  show ∃ r, ((Ieee.double.read (floatOfInt .f64 n)).quotient _ (Ieee.double.read 4616189618054758400)).map Ieee.double.write = some r
  have hn' : (Ieee.double.read (floatOfInt .f64 n)).order (Ieee.double.read (floatOfInt .f64 n)) = some Ordering.eq := hn
  rw [h4]
  cases hx : Ieee.double.read (floatOfInt .f64 n) with
  | nan s f => rw [hx] at hn'; simp [Ieee.Datum.order] at hn'
  | infinity s => exact ⟨_, rfl⟩
  | number s m i => exact ⟨_, by rw [Ieee.Datum.quotient, if_neg (by decide)]; rfl⟩
def qtr (n : Int) : Nat := (FloatKind.f64.format.div (floatOfInt .f64 n) 4616189618054758400).getD 0
theorem qtr_run (n : Int) (W : World) : (binOp .quo 29 (.float .f64 (floatOfInt .f64 n)) (.float .f64 4616189618054758400)).run Try.prog W = .ok (.float .f64 (qtr n)) W := by
  obtain ⟨r, hr⟩ := quarter_some n
  have e : qtr n = r := by unfold qtr; rw [hr]; rfl
  rw [e]
  simp [binOp, Op.floatArith, hr]
/-- The mean price, the middle, the spread and the tilt, where they are numbers. -/
def vwO (no vo : Int) : Option Nat := FloatKind.f64.format.div (qtr no) (floatOfInt .f64 vo)
def mdO (q1 q2 : List Od) : Option Nat := if hdF q1 = true ∧ hdF q2 = true then (FloatKind.f64.format.add (qtr (hdO q1).ticks) (qtr (hdO q2).ticks)).bind fun a => FloatKind.f64.format.div a 4611686018427387904 else none
def spO (q1 q2 : List Od) : Option Nat := if hdF q1 = true ∧ hdF q2 = true then FloatKind.f64.format.sub (qtr (hdO q2).ticks) (qtr (hdO q1).ticks) else some 9218868437227405312
def tlO (b s : Int) : Option Nat := FloatKind.f64.format.div (floatOfInt .f64 (b - s)) (floatOfInt .f64 (b + s))

/-- What levels have left together. -/
def qtyS : List Lv → Int
  | [] => 0
  | v :: r => v.qty + qtyS r
theorem qtyS_take {L : List Lv} {k : Nat} {v : Lv} (h : L[k]? = some v) : qtyS (L.take (k + 1)) = qtyS (L.take k) + v.qty := by
  have : ∀ (A : List Lv) (v : Lv), qtyS (A ++ [v]) = qtyS A + v.qty := by
    intro A v
    induction A with
    | nil => simp [qtyS]
    | cons a A ih => simp only [List.cons_append, qtyS, ih]; omega
  rw [List.take_add_one, h]
  exact this _ _
theorem qty_levels (s : Bool) (sd : Int) (seq : List Od) : qtyS (lvsOf s sd seq) = sumL seq := by
  have hT := isT_tks s seq
  have hnd : (tks s seq).Nodup := by
    refine hT.sorted.imp ?_
    intro a b h e
    subst e
    cases s <;> simp [bt] at h
  have key : ∀ (T : List Int) (seq : List Od), T.Nodup → (∀ o ∈ seq, o.ticks ∈ T) → qtyS (T.map (lvAt sd seq)) = sumL seq := by
    intro T seq hn
    induction seq with
    | nil =>
      intro h0
      clear hn h0
      induction T with
      | nil => rfl
      | cons a T ih => simp only [List.map_cons, qtyS, ih]; simp [lvAt, atK, sumL]
    | cons o r ih =>
      intro hall
      have hr := ih (fun o' h => hall o' (List.mem_cons_of_mem _ h))
      have ho := hall o List.mem_cons_self
      have step : ∀ (T : List Int), T.Nodup → qtyS (T.map (lvAt sd (o :: r))) = qtyS (T.map (lvAt sd r)) + (if o.ticks ∈ T then o.left else 0) := by
        intro T
        induction T with
        | nil => intro _; simp [qtyS]
        | cons k T ih2 =>
          intro hnd
          obtain ⟨h1, h2⟩ := List.nodup_cons.1 hnd
          simp only [List.map_cons, qtyS, ih2 h2]
          by_cases e : o.ticks = k
          · have : ¬ o.ticks ∈ T := by rw [e]; exact h1
            have hq : (lvAt sd (o :: r) k).qty = o.left + (lvAt sd r k).qty := by simp [lvAt, atK, e, sumL]
            rw [hq, if_neg this, if_pos (by rw [e]; exact List.mem_cons_self)]; omega
          · have hq : (lvAt sd (o :: r) k).qty = (lvAt sd r k).qty := by simp [lvAt, atK, e]
            rw [hq]
            by_cases hm : o.ticks ∈ T
            · rw [if_pos hm, if_pos (List.mem_cons_of_mem _ hm)]; omega
            · rw [if_neg hm, if_neg (by simp [e, hm])]; omega
      rw [step T hn, hr, if_pos ho, sumL]; omega
  exact key _ _ hnd (fun o h => (hT.mem _).2 ⟨o, h, rfl⟩)
theorem qtyS_bound (sd : Int) (seq : List Od) (h : ∀ o ∈ seq, 0 ≤ o.left ∧ o.left ≤ 1000000) (hn : seq.length ≤ 20) : ∀ T : List Int, 0 ≤ qtyS (T.map (lvAt sd seq)) ∧ qtyS (T.map (lvAt sd seq)) ≤ 20000000 * T.length := by
  intro T
  induction T with
  | nil => simp [qtyS]
  | cons k T ih =>
    have hb := sumL_bound (atK seq k) (fun o ho => h o (List.mem_filter.1 ho).1)
    have hl : (atK seq k).length ≤ 20 := Nat.le_trans (List.length_filter_le _ _) hn
    have hq : (lvAt sd seq k).qty = sumL (atK seq k) := rfl
    simp only [List.map_cons, qtyS, List.length_cons, hq]
    omega
end Go.Proofs.Yteljmhgpffekgaa
