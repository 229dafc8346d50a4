/-
  A new order asked about itself, by the program: proved by walking the methods.
-/
import Derived.Test.YtdfihaabhichdaaRj06
import Derived.Test.YtdfihaabhichdaaRj08
import Derived.Test.YtdfihaabhichdaaRj12
import Derived.Test.YtdfihaabhichdaaRj19
import Derived.Handy
namespace Go.Proofs.Ytdfihaabhichdaa
open Go.RowKit
set_option linter.unusedVariables false

/-- A new order's fields, out of its command's. -/
def noV (c : Cm) : Value := .agg #[.int .i64 c.s, .int .i64 c.t, .int .i64 c.l, .int .i64 c.q, .float .f64 c.p, .string c.g]
def restB (t : Int) : Bool := decide (t = 1) || decide (t = 5)
def prcB (c : Cm) : Bool := if c.t = 2 then decide (fbit c.p = 0) else tkOk c.p
def meetO (c : Cm) (o : Od) : Bool := if c.t = 2 then true else if c.s = 1 then decide (o.ticks ≤ tk c.p) else decide (tk c.p ≤ o.ticks)
def ordO (c : Cm) (id : Int) : Od := ⟨id, c.s, tk c.p, c.q, c.l, c.g⟩
def othS (s : Int) : Int := if s = 1 then 2 else 1

theorem isType_any (t : Int) (w : World) :
    Calls Try.prog 55 #[.int .i64 t] w fun e w' => e = .returned (.bool (betB t 1 5)) ∧ w' = w := by
  go_enter Try.func55, Try.ntmps55
  go_wp2_with fail
  refine (implBetween_any t 1 5 w).mono ?_
  rintro e w' ⟨rfl, rfl⟩
  go_wp2_with fail
  go_ret
  exact ⟨rfl, rfl⟩
theorem isQty_any (t : Int) (w : World) :
    Calls Try.prog 58 #[.int .i64 t] w fun e w' => e = .returned (.bool (betB t 1 1000000)) ∧ w' = w := by
  go_enter Try.func58, Try.ntmps58
  go_wp2_with fail
  refine (implBetween_any t 1 1000000 w).mono ?_
  rintro e w' ⟨rfl, rfl⟩
  go_wp2_with fail
  go_ret
  exact ⟨rfl, rfl⟩
theorem otherSide_any (s : Int) (w : World) :
    Calls Try.prog 88 #[.int .i64 s] w fun e w' => e = .returned (.int .i64 (othS s)) ∧ w' = w := by
  by_cases h : s = 1
  · subst h
    go_enter Try.func88, Try.ntmps88
    go_wp2_with fail
    go_ret
    exact ⟨rfl, rfl⟩
  · have h' : (s == 1) = false := by simpa using h
    have HS : Hid (othS s = 1) := if_neg h
    go_enter Try.func88, Try.ntmps88
    go_wp2_with fail
    go_ret
    exact ⟨ret_int (unhide HS).symm, rfl⟩
set_option maxHeartbeats 400000 in
theorem rests_any (c : Cm) (w : World) :
    Calls Try.prog 56 #[noV c] w fun e w' => e = .returned (.bool (restB c.t)) ∧ Below w.heap.size w w' := by
  obtain ⟨k, s, t, l, q, i, p, g⟩ := c
  unfold noV
  simp only
  by_cases h1 : t = 1
  · subst h1
    go_enter Try.func56, Try.ntmps56
    go_wp2_with fail
    go_ret
    exact ⟨rfl, by go_grown⟩
  · have b1 : (t == 1) = false := by simpa using h1
    by_cases h5 : t = 5
    · subst h5
      go_enter Try.func56, Try.ntmps56
      go_wp2_with fail
      go_ret
      exact ⟨rfl, by go_grown⟩
    · have b5 : (t == 5) = false := by simpa using h5
      have HR : Hid (restB t = false) := by show restB t = false; simp [restB, h1, h5]
      go_enter Try.func56, Try.ntmps56
      go_wp2_with fail
      go_ret
      exact ⟨ret_bool (unhide HR).symm, by go_grown⟩
set_option maxHeartbeats 400000 in
theorem hasPrice_any (c : Cm) (w : World) :
    Calls Try.prog 57 #[noV c] w fun e w' => e = .returned (.bool (prcB c)) ∧ Below w.heap.size w w' := by
  obtain ⟨k, s, t, l, q, i, p, g⟩ := c
  unfold noV
  simp only
  have HB : Hid (Below w.heap.size w (w.alloc (Obj.cells #[.int .i64 s, .int .i64 t, .int .i64 l, .int .i64 q, .float .f64 p, .string g] 69))) := (Below.refl _ _).alloc (Nat.le_refl _) _
  by_cases h2 : t = 2
  · subst h2
    have HP : Hid (prcB ⟨k, s, 2, l, q, i, p, g⟩ = decide (fbit p = 0)) := if_pos rfl
    go_enter Try.func57, Try.ntmps57
    go_wp2_with fail
    refine (floatBits_any p _).mono ?_
    rintro e w' ⟨rfl, rfl⟩
    go_wp2_with fail
    go_ret
    exact ⟨ret_bool (by rw [unhide HP, Bool.eq_iff_iff]; simp), unhide HB⟩
  · have b2 : (t == 2) = false := by simpa using h2
    have HP : Hid (prcB ⟨k, s, t, l, q, i, p, g⟩ = tkOk p) := if_neg h2
    go_enter Try.func57, Try.ntmps57
    go_wp2_with fail
    refine (implTicks_any p _).mono ?_
    rintro e w' ⟨rfl, rfl⟩
    go_wp2_with fail
    go_ret
    exact ⟨ret_bool (unhide HP).symm, unhide HB⟩
set_option maxHeartbeats 400000 in
theorem meets_any (c : Cm) (o : Od) (w : World) :
    Calls Try.prog 89 #[noV c, .agg #[.int .i64 o.id, .int .i64 o.side, .int .i64 o.ticks, .int .i64 o.left, .int .i64 o.life, .string o.tag]] w fun e w' => e = .returned (.bool (meetO c o)) ∧ Below w.heap.size w w' := by
  obtain ⟨k, s, t, l, q, i, p, g⟩ := c
  obtain ⟨id, side, ticks, left, life, tag⟩ := o
  unfold noV
  simp only
  have HB : Hid (Below w.heap.size w ((w.alloc (Obj.cells #[.int .i64 s, .int .i64 t, .int .i64 l, .int .i64 q, .float .f64 p, .string g] 69)).alloc (Obj.cells #[.int .i64 id, .int .i64 side, .int .i64 ticks, .int .i64 left, .int .i64 life, .string tag] 49))) := ((Below.refl _ _).alloc (Nat.le_refl _) _).alloc (by rw [size_made]; omega) _
  by_cases h2 : t = 2
  · subst h2
    have HP : Hid (meetO ⟨k, s, 2, l, q, i, p, g⟩ ⟨id, side, ticks, left, life, tag⟩ = true) := if_pos rfl
    go_enter Try.func89, Try.ntmps89
    go_wp2_with fail
    go_ret
    exact ⟨ret_bool (unhide HP).symm, unhide HB⟩
  · have b2 : (t == 2) = false := by simpa using h2
    by_cases h1 : s = 1
    · subst h1
      have HP : Hid (meetO ⟨k, 1, t, l, q, i, p, g⟩ ⟨id, side, ticks, left, life, tag⟩ = decide (ticks ≤ tk p)) := by show _ = _; rw [meetO, if_neg h2]; rfl
      go_enter Try.func89, Try.ntmps89
      go_wp2_with fail
      refine (implTicks_any p _).mono ?_
      rintro e w' ⟨rfl, rfl⟩
      go_wp2_with fail
      go_ret
      exact ⟨ret_bool (unhide HP).symm, unhide HB⟩
    · have b1 : (s == 1) = false := by simpa using h1
      have HP : Hid (meetO ⟨k, s, t, l, q, i, p, g⟩ ⟨id, side, ticks, left, life, tag⟩ = decide (tk p ≤ ticks)) := by show _ = _; rw [meetO, if_neg h2, if_neg h1]
      go_enter Try.func89, Try.ntmps89
      go_wp2_with fail
      refine (implTicks_any p _).mono ?_
      rintro e w' ⟨rfl, rfl⟩
      go_wp2_with fail
      go_ret
      exact ⟨ret_bool (unhide HP).symm, unhide HB⟩
set_option maxHeartbeats 400000 in
theorem order_any (c : Cm) (id : Int) (w : World) :
    Calls Try.prog 87 #[noV c, .int .i64 id] w fun e w' => e = .returned (.agg #[.int .i64 id, .int .i64 c.s, .int .i64 (tk c.p), .int .i64 c.q, .int .i64 c.l, .string c.g]) ∧ Below w.heap.size w w' := by
  obtain ⟨k, s, t, l, q, i, p, g⟩ := c
  unfold noV
  simp only
  go_enter Try.func87, Try.ntmps87
  go_wp2_with fail
  refine (implTicks_any p _).mono ?_
  rintro e w' ⟨rfl, rfl⟩
  go_wp2_with fail
  go_returns
  refine ⟨rfl, ?_⟩
  go_grown
set_option maxHeartbeats 400000 in
theorem toldNew_any (c : Cm) (w : World) :
    Calls Try.prog 108 #[noV c] w fun e w' => e = .returned (.agg #[.int .i64 1, .int .i64 c.s, .int .i64 c.t, .int .i64 c.l, .int .i64 c.q, .int .i64 0, .float .f64 c.p, .string c.g]) ∧ Below w.heap.size w w' := by
  obtain ⟨k, s, t, l, q, i, p, g⟩ := c
  unfold noV
  have hsf := sfl
  simp only
  go_enter Try.func108, Try.ntmps108
  go_wp2_with fail
  go_returns
  refine ⟨rfl, ?_⟩
  go_grown
theorem toldCancel_any (i : Int) (w : World) :
    Calls Try.prog 109 #[.agg #[.int .i64 i]] w fun e w' => e = .returned (.agg #[.int .i64 2, .int .i64 0, .int .i64 0, .int .i64 0, .int .i64 0, .int .i64 i, .float .f64 0, .string ⟨#[]⟩]) ∧ Below w.heap.size w w' := by
  have hsf := sfl
  go_enter Try.func109, Try.ntmps109
  go_wp2_with fail
  go_returns
  refine ⟨rfl, ?_⟩
  go_grown
theorem toldReduce_any (i q : Int) (w : World) :
    Calls Try.prog 110 #[.agg #[.int .i64 i, .int .i64 q]] w fun e w' => e = .returned (.agg #[.int .i64 3, .int .i64 0, .int .i64 0, .int .i64 0, .int .i64 q, .int .i64 i, .float .f64 0, .string ⟨#[]⟩]) ∧ Below w.heap.size w w' := by
  have hsf := sfl
  go_enter Try.func110, Try.ntmps110
  go_wp2_with fail
  go_returns
  refine ⟨rfl, ?_⟩
  go_grown
theorem toldDay_any (w : World) :
    Calls Try.prog 113 #[.agg #[]] w fun e w' => e = .returned (.agg #[.int .i64 4, .int .i64 0, .int .i64 0, .int .i64 0, .int .i64 0, .int .i64 0, .float .f64 0, .string ⟨#[]⟩]) ∧ Below w.heap.size w w' := by
  have hsf := sfl
  go_enter Try.func113, Try.ntmps113
  go_wp2_with fail
  go_returns
  refine ⟨rfl, ?_⟩
  go_grown
end Go.Proofs.Ytdfihaabhichdaa
namespace Go.Proofs.Ytdfihaabhichdaa
open Go.RowKit
set_option linter.unusedVariables false

theorem count_set : ∀ (x : List Bool) (i : Nat), x[i]? = some false → (x.set i true).count false + 1 = x.count false
  | [], i, h => by simp at h
  | b :: r, 0, h => by simp at h; subst h; simp
  | b :: r, i + 1, h => by
    have ih := count_set r i (by simpa using h)
    simp only [List.set_cons_succ, List.count_cons]
    omega
theorem no_false {x : List Bool} (h : x.count false = 0) (i : Nat) : x[i]? ≠ some false := fun e => by
  have := List.count_pos_iff.2 (List.mem_of_getElem? e)
  omega

section
variable {P : Program} {Q : Exit → Act → World → Prop} {l : List Oper} (R : List Bool → Act → World → Prop)

theorem ready_facts {x : List Bool} (hx : x.length = l.length) {i : Nat} (h : i ∈ Region.ready .any l.toArray x.toArray) :
    ∃ o, l[i]? = some o ∧ x[i]? = some false ∧ ∀ e ∈ o.after, Region.binds .any e = true → x[e.on]? = some true := by
  obtain ⟨h1, o, h2, h3⟩ := mem_ready.1 h
  refine ⟨o, by simpa using h2, ?_, fun e he hb => ?_⟩
  · by_cases hi : i < x.length
    · simp [hi] at h1; simp [hi, h1]
    · simp [hi] at h1
  · have := h3 e he hb
    by_cases hi : e.on < x.length
    · simp [hi] at this; simp [hi, this]
    · simp [hi] at this
theorem ready_none {x : List Bool} (h : Region.ready .any l.toArray x.toArray = []) (hx : x.length = l.length) (i : Nat) (o : Oper) (ho : l[i]? = some o) (hall : ∀ e ∈ o.after, Region.binds .any e = true → x[e.on]? = some true) : x[i]? = some true := by
  have hi : i < x.length := by rw [hx]; exact (List.getElem?_eq_some_iff.1 ho).1
  cases hb : x[i]
  · exfalso
    have : i ∈ Region.ready .any l.toArray x.toArray := mem_ready.2 ⟨by simp [hi, hb], o, by simpa using ho, fun e he hbd => by
      have := hall e he hbd
      obtain ⟨h1, h2⟩ := List.getElem?_eq_some_iff.1 this
      simp [h1, h2]⟩
    rw [h] at this; simp at this
  · simp [hi, hb]

theorem wpAny_inv
    (hend : ∀ x a w, R x a w → x.length = l.length → Region.ready .any l.toArray x.toArray = [] → Q .normal a w)
    (hstep : ∀ x a w i o, R x a w → x.length = l.length → l[i]? = some o → x[i]? = some false → (∀ e ∈ o.after, Region.binds .any e = true → x[e.on]? = some true) →
      (if Region.wanted o (yielded l.toArray a.tmps) then o.wp P a w (fun a' w' => R (x.set i true) a' w') Q else R (x.set i true) (a.put o.dst undef) w)) :
    ∀ (n : Nat) (x : List Bool) (a : Act) (w : World), x.count false = n → x.length = l.length → R x a w → wpAny P .any l.toArray Q n x.toArray a w
  | 0, x, a, w, hn, hx, hR => by
    have hr : Region.ready .any l.toArray x.toArray = [] := by
      apply List.eq_nil_iff_forall_not_mem.2
      intro i hi
      obtain ⟨o, _, h2, _⟩ := ready_facts hx hi
      exact no_false hn i h2
    exact ⟨hr, hend x a w hR hx hr⟩
  | n + 1, x, a, w, hn, hx, hR => by
    refine ⟨fun hr => hend x a w hR hx hr, fun i hi => ?_⟩
    obtain ⟨o, h1, h2, h3⟩ := ready_facts hx hi
    have hs := hstep x a w i o hR hx h1 h2 h3
    have hc := count_set x i h2
    have hnext : ∀ a' w', R (x.set i true) a' w' → wpAny P .any l.toArray Q n (x.toArray.setIfInBounds i true) a' w' := fun a' w' h => by
      have := wpAny_inv hend hstep n (x.set i true) a' w' (by omega) (by simpa using hx) h
      simpa using this
    have ho : l.toArray[i]? = some o := by simpa using h1
    unfold wpOp
    rw [ho]
    simp only
    split
    · next hw => rw [if_pos hw] at hs; exact .inl (Oper.wp_mono hnext hs)
    · next hw => rw [if_neg hw] at hs; exact hnext _ _ hs
theorem wp_region_inv {id : Nat} {a : Act} {w : World} (hm : P.follows .mixedOrders = true)
    (h0 : R (List.replicate l.length false) a { w with drawn := w.drawn + 1 })
    (hend : ∀ x a w, R x a w → x.length = l.length → Region.ready .any l.toArray x.toArray = [] → Q .normal a w)
    (hstep : ∀ x a w i o, R x a w → x.length = l.length → l[i]? = some o → x[i]? = some false → (∀ e ∈ o.after, Region.binds .any e = true → x[e.on]? = some true) →
      (if Region.wanted o (yielded l.toArray a.tmps) then o.wp P a w (fun a' w' => R (x.set i true) a' w') Q else R (x.set i true) (a.put o.dst undef) w)) :
    (Code.region id l.toArray true).wp P Q a w := by
  refine wp_region_any hm ?_
  have := wpAny_inv R hend hstep l.length (List.replicate l.length false) a { w with drawn := w.drawn + 1 } (by simp) (by simp) h0
  simpa using this
end
/-- What holds in a region in which memory grows: each operation that has come up has its value. -/
def RGrow (base : World) (F : (Nat → Value) → Act) (C : Nat → Value → Prop) (x : List Bool) (A : Act) (W : World) : Prop :=
  ∃ f, A = F f ∧ Below base.heap.size base W ∧ ∀ j, x[j]? = some true → C j (f j)
theorem step_upd {C : Nat → Value → Prop} {x : List Bool} {f : Nat → Value} {i : Nat} {v : Value} (h : ∀ j, x[j]? = some true → C j (f j)) (hv : C i v) : ∀ j, (x.set i true)[j]? = some true → C j (upd f i v j) := fun j hj => by
  by_cases hji : j = i
  · subst hji; rw [upd_same]; exact hv
  · rw [upd_ne _ _ hji]; rw [List.getElem?_set_ne (fun e => hji e.symm)] at hj; exact h j hj
theorem ready_all {l : List Oper} {x : List Bool} (h : Region.ready .any l.toArray x.toArray = []) (hx : x.length = l.length) (hacy : ∀ (i : Nat) (o : Oper), l[i]? = some o → ∀ e ∈ o.after, e.on < i) : ∀ i, i < l.length → x[i]? = some true := by
  intro i
  induction i using Nat.strongRecOn with
  | _ i ih =>
    intro hi
    refine ready_none h hx i l[i] (List.getElem?_eq_getElem hi) fun e he _ => ?_
    have := hacy i l[i] (List.getElem?_eq_getElem hi) e he
    exact ih e.on this (by omega)
end Go.Proofs.Ytdfihaabhichdaa
