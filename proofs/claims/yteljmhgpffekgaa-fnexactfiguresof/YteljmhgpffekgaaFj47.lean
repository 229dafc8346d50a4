/-
  The figures of both sides held against each other: what each answers, and regions in whatever order whose claims last; the laws' helpers walked.
-/
import Derived.Test.YteljmhgpffekgaaFj37
import Derived.Test.YteljmhgpffekgaaFj44
import Derived.Test.YteljmhgpffekgaaFj45
import Derived.Test.YteljmhgpffekgaaFj46
namespace Go.Proofs.Yteljmhgpffekgaa
open Go.RowKit
set_option linter.unusedVariables false

/-- The float v is that of o, but for the bits of a number that is none. -/
def HasN (o : Option Nat) (v : Nat) : Prop := (∀ r, o = some r → v = r ∨ (nanB r = true ∧ nanB v = true)) ∧ (o = none → nanB v = true)
theorem hasN_of {o : Option Nat} {v : Nat} (h : HasF o v) : HasN o v := ⟨fun r e => .inl (h.1 r e), h.2⟩
theorem hasN_bits {o : Option Nat} {v : Nat} (h : HasF o v) : HasN o (fbit v) := by
  have nn : nanB 9221120237041090560 = true := by decide
  cases hn : nanB v with
  | true =>
    have e : fbit v = 9221120237041090560 := if_pos hn
    rw [e]
    exact ⟨fun r er => .inr ⟨by rw [← h.1 r er]; exact hn, nn⟩, fun _ => nn⟩
  | false =>
    have e : fbit v = v := if_neg (by rw [hn]; decide)
    rw [e]; exact hasN_of h
theorem same_hasN {o : Option Nat} {a b : Nat} (ha : HasN o a) (hb : HasN o b) (w : World) :
    Calls Try.prog 13 #[.float .f64 a, .float .f64 b] w fun e w' => e = .returned (.bool true) ∧ w' = w := by
  cases ho : o with
  | none => exact sameFloat_nan _ _ w (ha.2 ho) (hb.2 ho)
  | some r =>
    rcases ha.1 r ho with rfl | ⟨h1, h2⟩
    · rcases hb.1 _ ho with rfl | ⟨h3, h4⟩
      · exact sameFloat_any _ w
      · exact sameFloat_nan _ _ w h3 h4
    · rcases hb.1 r ho with rfl | ⟨h3, h4⟩
      · exact sameFloat_nan _ _ w h2 h1
      · exact sameFloat_nan _ _ w h2 h4
/-- What is answered of totals and a book. -/
def fgC (next : Int) (l : List Od) (te tf : Int) : Int := if okS next l = true ∧ 0 ≤ te ∧ 0 ≤ tf then 0 else 1
def FgB (next : Int) (l : List Od) (te tf : Int) (x m s y : Nat) : Prop :=
  ∃ o1 o2 o3 o4, (o1, o2, o3, o4) = (if okS next l = true ∧ 0 ≤ te ∧ 0 ≤ tf then (vwO tf te, mdO (quOf true (ofSide l 1)) (quOf false (ofSide l 2)), spO (quOf true (ofSide l 1)) (quOf false (ofSide l 2)), tlO (sumL (ofSide l 1)) (sumL (ofSide l 2))) else (some 0, some 0, some 0, some 0)) ∧ HasN o1 x ∧ HasN o2 m ∧ HasN o3 s ∧ HasN o4 y
/-- The totals: eight numbers. -/
structure TtF where
  a : Int
  b : Int
  c : Int
  d : Int
  e : Int
  f : Int
  g : Int
  h : Int
def TtF.ns (t : TtF) : List Int := [t.a, t.b, t.c, t.d, t.e, t.f, t.g, t.h]
def TtF.vs (t : TtF) : List Value := [.int .i64 t.a, .int .i64 t.b, .int .i64 t.c, .int .i64 t.d, .int .i64 t.e, .int .i64 t.f, .int .i64 t.g, .int .i64 t.h]
def I6 (n : Int) : Prop := -9223372036854775808 ≤ n ∧ n ≤ 9223372036854775807
def TtF.ok (t : TtF) : Prop := ∀ n ∈ t.ns, I6 n
theorem implFig_any (t : TtF) (next : Int) (v : Value) (l : List Od) (w : World) (hr : RdR Od.vs 6 w v l) (hg : ∀ c ∈ l, c.tag.size ≤ maxLen) :
    Calls Try.prog 19 #[.agg #[.int .i64 t.a, .int .i64 t.b, .int .i64 t.c, .int .i64 t.d, .int .i64 t.e, .int .i64 t.f, .int .i64 t.g, .int .i64 t.h], .agg #[.int .i64 next, v]] w fun e w' => ∃ x m s y, e = .returned (.tuple #[.agg #[.float .f64 x, .float .f64 m, .float .f64 s, .float .f64 y], .int .i64 (fgC next l t.e t.f)]) ∧ FgB next l t.e t.f x m s y ∧ Below w.heap.size w w' := by
  by_cases hok : okS next l = true ∧ 0 ≤ t.e ∧ 0 ≤ t.f
  · refine (implFig_ok t.a t.b t.c t.d t.e t.f t.g t.h next v l w hr hg hok.1 hok.2.1 hok.2.2).mono ?_
    rintro e w' ⟨x, m, s, y, rfl, h1, h2, h3, h4, hb⟩
    refine ⟨fbit x, m, s, fbit y, by rw [fgC, if_pos hok], ⟨_, _, _, _, by rw [if_pos hok], hasN_bits h1, hasN_of h2, hasN_of h3, hasN_bits h4⟩, hb⟩
  · refine (implFig_bad t.a t.b t.c t.d t.e t.f t.g t.h next v l w hr hg ?_).mono ?_
    · cases h : okS next l with
      | false => exact .inl rfl
      | true => exact .inr (by by_cases h0 : t.e < 0; exact .inl h0; exact .inr (by by_cases h1 : t.f < 0; exact h1; exact absurd ⟨h, by omega, by omega⟩ hok))
    · rintro e w' ⟨rfl, hb⟩
      exact ⟨0, 0, 0, 0, by rw [fgC, if_neg hok], ⟨_, _, _, _, by rw [if_neg hok], hasN_of (has_some 0), hasN_of (has_some 0), hasN_of (has_some 0), hasN_of (has_some 0)⟩, hb⟩
theorem specFig_any (t : TtF) (next : Int) (v : Value) (l : List Od) (w : World) (hr : RdR Od.vs 6 w v l) (hg : ∀ c ∈ l, c.tag.size ≤ maxLen) :
    Calls Try.prog 20 #[.agg #[.int .i64 t.a, .int .i64 t.b, .int .i64 t.c, .int .i64 t.d, .int .i64 t.e, .int .i64 t.f, .int .i64 t.g, .int .i64 t.h], .agg #[.int .i64 next, v]] w fun e w' => ∃ x m s y, e = .returned (.tuple #[.agg #[.float .f64 x, .float .f64 m, .float .f64 s, .float .f64 y], .int .i64 (fgC next l t.e t.f)]) ∧ FgB next l t.e t.f x m s y ∧ Below w.heap.size w w' := by
  by_cases hok : okS next l = true ∧ 0 ≤ t.e ∧ 0 ≤ t.f
  · refine (specFig_ok t.a t.b t.c t.d t.e t.f t.g t.h next v l w hr hg hok.1 hok.2.1 hok.2.2).mono ?_
    rintro e w' ⟨x, m, s, y, rfl, h1, h2, h3, h4, hb⟩
    refine ⟨x, m, s, y, by rw [fgC, if_pos hok], ⟨_, _, _, _, by rw [if_pos hok], hasN_of h1, hasN_of h2, hasN_of h3, hasN_of h4⟩, hb⟩
  · refine (specFig_bad t.a t.b t.c t.d t.e t.f t.g t.h next v l w hr hg ?_).mono ?_
    · cases h : okS next l with
      | false => exact .inl rfl
      | true => exact .inr (by by_cases h0 : t.e < 0; exact .inl h0; exact .inr (by by_cases h1 : t.f < 0; exact h1; exact absurd ⟨h, by omega, by omega⟩ hok))
    · rintro e w' ⟨rfl, hb⟩
      exact ⟨0, 0, 0, 0, by rw [fgC, if_neg hok], ⟨_, _, _, _, by rw [if_neg hok], hasN_of (has_some 0), hasN_of (has_some 0), hasN_of (has_some 0), hasN_of (has_some 0)⟩, hb⟩
set_option maxRecDepth 100000 in
theorem eqFig_any (next : Int) (l : List Od) (te tf : Int) (x m s y x' m' s' y' : Nat) (h : FgB next l te tf x m s y) (h' : FgB next l te tf x' m' s' y') (w : World) :
    Calls Try.prog 24 #[.agg #[.float .f64 x, .float .f64 m, .float .f64 s, .float .f64 y], .agg #[.float .f64 x', .float .f64 m', .float .f64 s', .float .f64 y']] w fun e w' => e = .returned (.bool true) ∧ Below w.heap.size w w' := by
  obtain ⟨o1, o2, o3, o4, e1, h1, h2, h3, h4⟩ := h
  obtain ⟨p1, p2, p3, p4, e2, k1, k2, k3, k4⟩ := h'
  rw [← e1] at e2
  simp only [Prod.mk.injEq] at e2
  obtain ⟨rfl, rfl, rfl, rfl⟩ := e2
  have H1 := hide (fun w => same_hasN h1 k1 w)
  have H2 := hide (fun w => same_hasN h2 k2 w)
  have H3 := hide (fun w => same_hasN h3 k3 w)
  have H4 := hide (fun w => same_hasN h4 k4 w)
  clear e1 h1 h2 h3 h4 k1 k2 k3 k4
  go_enter Try.func24, Try.ntmps24
  go_wp2_with fail
  refine (unhide H1 _).mono ?_
  rintro e w1 ⟨rfl, rfl⟩
  go_wp2_with fail
  refine (unhide H2 _).mono ?_
  rintro e w1 ⟨rfl, rfl⟩
  go_wp2_with fail
  refine (unhide H3 _).mono ?_
  rintro e w1 ⟨rfl, rfl⟩
  go_wp2_with fail
  refine (unhide H4 _).mono ?_
  rintro e w1 ⟨rfl, rfl⟩
  go_wp2_with fail
  go_ret
  exact ⟨rfl, by go_grown⟩
theorem toTotF_any (t : TtF) (w : World) : Calls Try.prog 22 #[.agg #[.int .i64 t.a, .int .i64 t.b, .int .i64 t.c, .int .i64 t.d, .int .i64 t.e, .int .i64 t.f, .int .i64 t.g, .int .i64 t.h]] w fun e w' => e = .returned (.agg #[.int .i64 t.a, .int .i64 t.b, .int .i64 t.c, .int .i64 t.d, .int .i64 t.e, .int .i64 t.f, .int .i64 t.g, .int .i64 t.h]) ∧ Below w.heap.size w w' := by
  obtain ⟨n0, n1, n2, n3, n4, n5, n6, n7⟩ := t
  simp only
  go_enter Try.func22, Try.ntmps22
  go_wp2_with fail
  go_returns
  exact ⟨rfl, by go_grown⟩
section
variable {H : Type} {enc : TypeId × Value → H} {w : World} {base : Nat} {spare : Nat → Bool} {held : Bool}
open Go.ChangeShapes Go.WideShapes Go.Deep
theorem list8F {cs : List Value} (h : cs.length = 8) : ∃ v0 v1 v2 v3 v4 v5 v6 v7, cs = [v0, v1, v2, v3, v4, v5, v6, v7] :=
  match cs, h with
  | [v0, v1, v2, v3, v4, v5, v6, v7], _ => ⟨v0, v1, v2, v3, v4, v5, v6, v7, rfl⟩
theorem ttF_opened {fuel : Nat} {cs : List Value} {x : DataW H × List MemPlace} (h : DataW.trod enc Try.prog w base spare held fuel 53 cs = some x) : ∃ t : TtF, cs = t.vs ∧ t.ok := by
  obtain ⟨xs, n, _, _, hlen, hxl, hf⟩ := DataW.trod_struct Try.underlying53 h
  have hl8 : cs.length = 8 := hlen.trans (by kernel_rfl)
  have k3 : Try.prog.cellsOf 3 = 1 := by kernel_rfl
  have hx : ∀ i, i < 8 → ∃ y, xs[i]? = some y := fun i hi => ⟨_, List.getElem?_eq_getElem (by rw [hxl]; exact hi)⟩
  obtain ⟨y0, e0⟩ := hx 0 (by omega)
  obtain ⟨y1, e1⟩ := hx 1 (by omega)
  obtain ⟨y2, e2⟩ := hx 2 (by omega)
  obtain ⟨y3, e3⟩ := hx 3 (by omega)
  obtain ⟨y4, e4⟩ := hx 4 (by omega)
  obtain ⟨y5, e5⟩ := hx 5 (by omega)
  obtain ⟨y6, e6⟩ := hx 6 (by omega)
  obtain ⟨y7, e7⟩ := hx 7 (by omega)
  have f0 : DataW.trod enc Try.prog w base spare held n 3 ((cs.drop 0).take (Try.prog.cellsOf 3)) = some y0 := (hf 0 _ rfl).trans e0
  have f1 : DataW.trod enc Try.prog w base spare held n 3 ((cs.drop 1).take (Try.prog.cellsOf 3)) = some y1 := (hf 1 _ rfl).trans e1
  have f2 : DataW.trod enc Try.prog w base spare held n 3 ((cs.drop 2).take (Try.prog.cellsOf 3)) = some y2 := (hf 2 _ rfl).trans e2
  have f3 : DataW.trod enc Try.prog w base spare held n 3 ((cs.drop 3).take (Try.prog.cellsOf 3)) = some y3 := (hf 3 _ rfl).trans e3
  have f4 : DataW.trod enc Try.prog w base spare held n 3 ((cs.drop 4).take (Try.prog.cellsOf 3)) = some y4 := (hf 4 _ rfl).trans e4
  have f5 : DataW.trod enc Try.prog w base spare held n 3 ((cs.drop 5).take (Try.prog.cellsOf 3)) = some y5 := (hf 5 _ rfl).trans e5
  have f6 : DataW.trod enc Try.prog w base spare held n 3 ((cs.drop 6).take (Try.prog.cellsOf 3)) = some y6 := (hf 6 _ rfl).trans e6
  have f7 : DataW.trod enc Try.prog w base spare held n 3 ((cs.drop 7).take (Try.prog.cellsOf 3)) = some y7 := (hf 7 _ rfl).trans e7
  clear hf hx e0 e1 e2 e3 e4 e5 e6 e7 h hlen
  obtain ⟨v0, v1, v2, v3, v4, v5, v6, v7, rfl⟩ := list8F hl8
  clear hl8
  simp only [k3, List.drop_zero, List.drop_succ_cons, List.take_succ_cons, List.take_zero] at f0 f1 f2 f3 f4 f5 f6 f7
  obtain ⟨n0, c0, _, b0⟩ := DataW.trod_int Try.underlying3 f0
  obtain ⟨n1, c1, _, b1⟩ := DataW.trod_int Try.underlying3 f1
  obtain ⟨n2, c2, _, b2⟩ := DataW.trod_int Try.underlying3 f2
  obtain ⟨n3, c3, _, b3⟩ := DataW.trod_int Try.underlying3 f3
  obtain ⟨n4, c4, _, b4⟩ := DataW.trod_int Try.underlying3 f4
  obtain ⟨n5, c5, _, b5⟩ := DataW.trod_int Try.underlying3 f5
  obtain ⟨n6, c6, _, b6⟩ := DataW.trod_int Try.underlying3 f6
  obtain ⟨n7, c7, _, b7⟩ := DataW.trod_int Try.underlying3 f7
  simp only [List.cons.injEq, and_true] at c0 c1 c2 c3 c4 c5 c6 c7
  subst c0 c1 c2 c3 c4 c5 c6 c7
  refine ⟨⟨n0, n1, n2, n3, n4, n5, n6, n7⟩, rfl, fun m hm => ?_⟩
  simp only [TtF.ns, List.mem_cons, List.not_mem_nil, or_false] at hm
  rcases hm with rfl | rfl | rfl | rfl | rfl | rfl | rfl | rfl
  · exact bounds_i64 b0
  · exact bounds_i64 b1
  · exact bounds_i64 b2
  · exact bounds_i64 b3
  · exact bounds_i64 b4
  · exact bounds_i64 b5
  · exact bounds_i64 b6
  · exact bounds_i64 b7
end
/-- The edges of a region that bind go back. -/
def backF : Nat → List Oper → Bool
  | _, [] => true
  | i, o :: r => o.after.toList.all (fun e => !Region.binds .any e || decide (e.on < i)) && backF (i + 1) r
theorem backF_spec : ∀ (l : List Oper) (n : Nat), backF n l = true → ∀ (i : Nat) (o : Oper), l[i]? = some o → ∀ e ∈ o.after, Region.binds .any e = true → e.on < n + i
  | [], _, _, i, o, h, _, _, _ => by simp at h
  | a :: r, n, hb, 0, o, h, e, he, hbd => by
    simp at h; subst h
    simp only [backF, Bool.and_eq_true, List.all_eq_true] at hb
    have := hb.1 e (by simpa using he)
    rw [hbd] at this
    simpa using this
  | a :: r, n, hb, i + 1, o, h, e, he, hbd => by
    simp only [backF, Bool.and_eq_true] at hb
    have := backF_spec r (n + 1) hb.2 i o (by simpa using h) e he hbd
    omega
theorem ready_allF {l : List Oper} {x : List Bool} (h : Region.ready .any l.toArray x.toArray = []) (hx : x.length = l.length) (hb : backF 0 l = true) : ∀ i, i < l.length → x[i]? = some true := by
  intro i
  induction i using Nat.strongRecOn with
  | _ i ih =>
    intro hi
    refine ready_none h hx i l[i] (List.getElem?_eq_getElem hi) fun e he hbd => ?_
    have := backF_spec l 0 hb i l[i] (List.getElem?_eq_getElem hi) e he hbd
    exact ih e.on (by omega) (by omega)
/-- What holds in a region whose n-th operation writes: claims that last (C), claims of memory ahead of the writer (D), what is written (Q). -/
structure RF (C : Nat → Value → Prop) (D : World → Nat → Value → Prop) (n : Nat) (Q : (Nat → Value) → World → Prop) (base : World) (x : List Bool) (f : Nat → Value) (W : World) : Prop where
  c : ∀ j, x[j]? = some true → C j (f j)
  b : x[n]? = some false → Below base.heap.size base W
  d : x[n]? = some false → ∀ j, x[j]? = some true → D W j (f j)
  m : x[n]? = some true → Q f W
def RFA (F : (Nat → Value) → Act) (C : Nat → Value → Prop) (D : World → Nat → Value → Prop) (n : Nat) (Q : (Nat → Value) → World → Prop) (base : World) (x : List Bool) (A : Act) (W : World) : Prop := ∃ f, A = F f ∧ RF C D n Q base x f W
section
variable {C : Nat → Value → Prop} {D : World → Nat → Value → Prop} {n : Nat} {Q : (Nat → Value) → World → Prop} {base W W' : World} {x : List Bool} {f : Nat → Value}
theorem rf_start {k : Nat} {f : Nat → Value} (hk : n < k) : RF C D n Q base (List.replicate k false) f { base with drawn := base.drawn + 1 } := by
  have h : ∀ j, (List.replicate k false)[j]? ≠ some true := fun j hj => by rw [List.getElem?_replicate] at hj; split at hj <;> simp at hj
  exact ⟨fun j hj => absurd hj (h j), fun _ => ⟨rfl, rfl, rfl, Nat.le_refl _, fun _ _ => rfl⟩, fun _ j hj => absurd hj (h j), fun e => absurd e (h n)⟩
theorem rf_val (h : RF C D n Q base x f W) (i : Nat) (v : Value) (hn : x[n]? = some false) (hin : i ≠ n) (hv : C i v) (hd : D W i v) : RF C D n Q base (x.set i true) (upd f i v) W := by
  refine ⟨fun j hj => ?_, fun _ => h.b hn, fun _ j hj => ?_, fun e => by rw [gqY hin, hn] at e; cases e⟩
  · by_cases hji : j = i
    · subst hji; rw [upd_same]; exact hv
    · rw [upd_ne _ _ hji]; rw [gqY (fun e => hji e.symm)] at hj; exact h.c j hj
  · by_cases hji : j = i
    · subst hji; rw [upd_same]; exact hd
    · rw [upd_ne _ _ hji]; rw [gqY (fun e => hji e.symm)] at hj; exact h.d hn j hj
theorem rf_grow (hm : ∀ W W' j v, Below W.heap.size W W' → D W j v → D W' j v) (h : RF C D n Q base x f W) (hn : x[n]? = some false) (hb : Below W.heap.size W W') : RF C D n Q base x f W' :=
  ⟨h.c, fun _ => (h.b hn).trans (hb.mono (h.b hn).size), fun _ j hj => hm _ _ _ _ hb (h.d hn j hj), fun e => by rw [hn] at e; cases e⟩
theorem rf_write (h : RF C D n Q base x f W) (hn : x[n]? = some false) (hc : C n (f n)) (hq : Q f W') : RF C D n Q base (x.set n true) f W' := by
  refine ⟨fun j hj => ?_, fun e => (by rw [gqsY hn] at e; cases e), fun e => (by rw [gqsY hn] at e; cases e), fun _ => hq⟩
  by_cases hji : j = n
  · subst hji; exact hc
  · rw [gqY (fun e => hji e.symm)] at hj; exact h.c j hj
theorem rf_after (h : RF C D n Q base x f W) (i : Nat) (v : Value) (hn : x[n]? = some true) (hin : i ≠ n) (hv : C i v) (hq : Q f W → Q (upd f i v) W) : RF C D n Q base (x.set i true) (upd f i v) W := by
  refine ⟨fun j hj => ?_, fun e => (by rw [gqY hin, hn] at e; cases e), fun e => (by rw [gqY hin, hn] at e; cases e), fun _ => hq (h.m hn)⟩
  by_cases hji : j = i
  · subst hji; rw [upd_same]; exact hv
  · rw [upd_ne _ _ hji]; rw [gqY (fun e => hji e.symm)] at hj; exact h.c j hj
end
end Go.Proofs.Yteljmhgpffekgaa
