/-
  What the laws' own comparison of floats answers, proved by walking it.
-/
import Derived.Test.YthmgkabpcjkieaaVj24
namespace Go.Proofs.Ythmgkabpcjkieaa
open Go.RowKit
set_option linter.unusedVariables false

theorem zero_read : FloatKind.f64.format.read 0 = .number false 0 FloatKind.f64.format.leastPlace := by decide
theorem one_read : ∃ m j, FloatKind.f64.format.read 4607182418800017408 = .number false m j ∧ m ≠ 0 := ⟨_, _, rfl, by decide⟩
theorem zero_mag (s : Bool) (m a b : Nat) (h : Ieee.signed s m a = Ieee.signed false 0 b) : m = 0 := by
  have h0 : Ieee.signed false 0 b = 0 := by simp [Ieee.signed]
  rw [h0] at h
  have h2 : m <<< a = 0 := by
    cases s
    · have h' : ((m <<< a : Nat) : Int) = 0 := h
      omega
    · have h' : -((m <<< a : Nat) : Int) = 0 := h
      omega
  rw [Nat.shiftLeft_eq] at h2
  have := Nat.two_pow_pos a
  rcases Nat.mul_eq_zero.1 h2 with h | h
  · exact h
  · omega
theorem div_zero (x : Nat) (h : FloatKind.f64.format.order x 0 = some Ordering.eq) : ∃ r, FloatKind.f64.format.div 4607182418800017408 x = some r := by
  obtain ⟨m1, j1, h1, hm1⟩ := one_read
  unfold Ieee.Format.order at h
  rw [zero_read] at h
  unfold Ieee.Format.div
  rw [h1]
  cases hx : FloatKind.f64.format.read x with
  | nan s f => rw [hx] at h; simp [Ieee.Datum.order] at h
  | infinity s => rw [hx] at h; cases s <;> simp [Ieee.Datum.order] at h
  | number s m i =>
    rw [hx] at h
    simp only [Ieee.Datum.order, Option.some.injEq] at h
    have hm := zero_mag s m _ _ (Std.LawfulEqCmp.eq_of_compare h)
    subst hm
    exact ⟨FloatKind.f64.format.write (.infinity s), by simp [Ieee.Datum.quotient, hm1]⟩
set_option maxRecDepth 100000 in
set_option maxHeartbeats 400000 in
theorem sameFloat_any (x : Nat) (w : World) :
    Calls Try.prog 8 #[.float .f64 x, .float .f64 x] w fun e w' => e = .returned (.bool true) ∧ w' = w := by
  cases hn : nanB x with
  | true =>
    have h' : (FloatKind.f64.format.order x x != some Ordering.eq) = true := hn
    clear hn
    go_enter Try.func8, Try.ntmps8
    go_wp2
    go_ret
    exact ⟨rfl, rfl⟩
  | false =>
    have h' : (FloatKind.f64.format.order x x != some Ordering.eq) = false := hn
    have h2 : FloatKind.f64.format.order x x = some Ordering.eq := by simpa using h'
    clear hn
    by_cases hz : FloatKind.f64.format.order x 0 = some Ordering.eq
    · obtain ⟨r, hr⟩ := div_zero x hz
      have hq : ∀ W, (binOp .quo 35 (.float .f64 4607182418800017408) (.float .f64 x)).run Try.prog W = .ok (.float .f64 r) W := fun W => by simp [binOp, Op.floatArith, hr]
      have hz' : (FloatKind.f64.format.order x 0 == some Ordering.eq) = true := by rw [hz]; rfl
      clear hz hr
      go_enter Try.func8, Try.ntmps8
      go_wp2
      all_goals go_ret
      all_goals exact ⟨ret_bool (by simp), rfl⟩
    · have hz' : (FloatKind.f64.format.order x 0 == some Ordering.eq) = false := by simpa using hz
      clear hz
      go_enter Try.func8, Try.ntmps8
      go_wp2
      go_ret
      exact ⟨ret_bool (by simp), rfl⟩
theorem sameFloat_nan (x y : Nat) (w : World) (hx : nanB x = true) (hy : nanB y = true) :
    Calls Try.prog 8 #[.float .f64 x, .float .f64 y] w fun e w' => e = .returned (.bool true) ∧ w' = w := by
  have h1 : (FloatKind.f64.format.order x x != some Ordering.eq) = true := hx
  have h2 : (FloatKind.f64.format.order y y != some Ordering.eq) = true := hy
  clear hx hy
  go_enter Try.func8, Try.ntmps8
  go_wp2
  go_ret
  exact ⟨rfl, rfl⟩
end Go.Proofs.Ythmgkabpcjkieaa
namespace Go.Proofs.Ythmgkabpcjkieaa
open Go.RowKit
set_option linter.unusedVariables false

theorem allR_of {next : Int} : ∀ (l : List Od) (last : Int), (∀ o ∈ l, ordB o = true ∧ last < o.id ∧ o.id < next) → Rising l → allR next last l = true
  | [], _, _, _ => rfl
  | a :: r, last, h, hr => by
    obtain ⟨h1, h2, h3⟩ := h a (by simp)
    obtain ⟨p1, p2⟩ := List.pairwise_cons.1 hr
    rw [allR, h1, decide_eq_true h2, decide_eq_true h3, allR_of r a.id (fun o ho => ⟨(h o (by simp [ho])).1, p1 o ho, (h o (by simp [ho])).2.2⟩) p2]
    rfl
end Go.Proofs.Ythmgkabpcjkieaa
namespace Go.Proofs.Ythmgkabpcjkieaa
open Go.RowKit
set_option linter.unusedVariables false

/-- A right book, told part by part. -/
structure OkB (n : Int) (l : List Od) : Prop where
  n1 : 1 ≤ n
  n2 : n ≤ 1000000
  len : l.length ≤ 20
  ord : ∀ o ∈ l, ordB o = true
  rise : Rising l
  id0 : ∀ o ∈ l, 0 < o.id
  ids : ∀ o ∈ l, o.id < n
  lev : nlev l ≤ 8
  nox : ∀ a ∈ l, a.side = 1 → ∀ b ∈ l, b.side = 2 → a.ticks < b.ticks
theorem okB_ok {n : Int} {l : List Od} (h : OkB n l) : okS n l = true := by
  have h1 := allR_of l 0 (fun o ho => ⟨h.ord o ho, h.id0 o ho, h.ids o ho⟩) h.rise (next := n)
  have h2 := (noX_iff l).2 h.nox
  have h3 : betB n 1 1000000 = true := by have := h.n1; have := h.n2; simp [betB]; omega
  rw [okS, h1, h2, h3, decide_eq_true h.len, decide_eq_true h.lev]; rfl
theorem okB_tags {n : Int} {l : List Od} (h : OkB n l) : ∀ o ∈ l, o.tag.size ≤ maxLen := fun o ho => by
  have := h.ord o ho
  simp only [ordB, tagB, Bool.and_eq_true, decide_eq_true_eq] at this
  have h1 := this.1.1.2.1
  unfold maxLen; omega
theorem okB_start : OkB 1 [] := ⟨by omega, by omega, by simp, by simp, List.Pairwise.nil, by simp, by simp, by simp [nlev, nlevR], by simp⟩
theorem ord_side {o : Od} (h : ordB o = true) : o.side = 1 ∨ o.side = 2 := by
  simp [ordB, betB] at h; omega
theorem ord_left {o : Od} (h : ordB o = true) : 0 < o.left ∧ o.left ≤ 1000000 := by
  simp [ordB, betB] at h; omega
theorem okB_good {n : Int} {l : List Od} (h : OkB n l) : GoodL l := ⟨h.len, fun o ho => ord_left (h.ord o ho), h.rise⟩
theorem ord_set {o : Od} (h : ordB o = true) {q : Int} (h1 : 0 < q) (h2 : q ≤ 1000000) : ordB { o with left := q } = true := by
  simp only [ordB, Bool.and_eq_true] at h ⊢
  exact ⟨h.1, by simp [betB]; omega⟩
theorem nodup_len : ∀ {A B : List Int}, A.Nodup → (∀ x ∈ A, x ∈ B) → A.length ≤ B.length
  | [], B, _, _ => by simp
  | a :: A, B, h, hs => by
    obtain ⟨h1, h2⟩ := List.nodup_cons.1 h
    have ha := hs a (by simp)
    have := nodup_len (B := B.erase a) h2 (fun x hx => (List.mem_erase_of_ne (show x ≠ a from fun e => h1 (e ▸ hx))).2 (hs x (by simp [hx])))
    rw [List.length_erase_of_mem ha] at this
    have := List.length_pos_of_mem ha
    simp; omega
theorem isT_nodup {s : Bool} {seq : List Od} {T : List Int} (h : IsT s seq T) : T.Nodup := h.sorted.imp (fun {a b} hab e => by subst e; exact bt_irr _ _ hab)
theorem nlev_sub {l l' : List Od} (hs : ∀ o ∈ l, o.side = 1 ∨ o.side = 2) (h : ∀ x ∈ l', ∃ o ∈ l, o.side = x.side ∧ o.ticks = x.ticks) : nlev l' ≤ nlev l := by
  have hs' : ∀ o ∈ l', o.side = 1 ∨ o.side = 2 := fun x hx => by obtain ⟨o, h1, h2, _⟩ := h x hx; rw [← h2]; exact hs o h1
  rw [nlev_eq hs (isT_tks true _) (isT_tks false _), nlev_eq hs' (isT_tks true _) (isT_tks false _)]
  have e : ∀ (s : Bool) (sd : Int), (tks s (ofSide l' sd)).length ≤ (tks s (ofSide l sd)).length := fun s sd => by
    refine nodup_len (isT_nodup (isT_tks s _)) (fun k hk => ?_)
    obtain ⟨x, hx, rfl⟩ := ((isT_tks s (ofSide l' sd)).mem k).1 hk
    obtain ⟨hx1, hx2⟩ := List.mem_filter.1 hx
    obtain ⟨o, h1, h2, h3⟩ := h x hx1
    exact ((isT_tks s (ofSide l sd)).mem _).2 ⟨o, List.mem_filter.2 ⟨h1, by simpa [h2] using hx2⟩, h3⟩
  have := e true 1
  have := e false 2
  omega
/-- A book of which orders went or became less. -/
theorem okB_less {n : Int} {l l' : List Od} (h : OkB n l) (hl : l'.length ≤ 20) (hr : Rising l') (hm : ∀ x ∈ l', ∃ o ∈ l, ∃ q, 0 < q ∧ q ≤ 1000000 ∧ x = { o with left := q }) : OkB n l' := by
  have hm' : ∀ x ∈ l', ∃ o ∈ l, o.side = x.side ∧ o.ticks = x.ticks := fun x hx => by obtain ⟨o, h1, q, _, _, rfl⟩ := hm x hx; exact ⟨o, h1, rfl, rfl⟩
  refine ⟨h.n1, h.n2, hl, fun x hx => ?_, hr, fun x hx => ?_, fun x hx => ?_, Nat.le_trans (nlev_sub (fun o ho => ord_side (h.ord o ho)) hm') h.lev, fun a ha h1 b hb h2 => ?_⟩
  · obtain ⟨o, h1, q, h2, h3, rfl⟩ := hm x hx; exact ord_set (h.ord o h1) h2 h3
  · obtain ⟨o, h1, q, h2, h3, rfl⟩ := hm x hx; exact h.id0 o h1
  · obtain ⟨o, h1, q, h2, h3, rfl⟩ := hm x hx; exact h.ids o h1
  · obtain ⟨o, k1, k2, k3⟩ := hm' a ha
    obtain ⟨p, m1, m2, m3⟩ := hm' b hb
    have := h.nox o k1 (k2.trans h1) p m1 (m2.trans h2)
    omega
theorem okB_hit {n : Int} {l : List Od} (h : OkB n l) {k : Nat} {o : Od} (hk : l[k]? = some o) {q : Int} (h0 : 0 ≤ q) (h1 : q ≤ o.left) : OkB n (hitAt l k o q) := by
  have hg := (good_hit (okB_good h) hk h0 h1).1
  have ho := List.mem_of_getElem? hk
  have hlo := ord_left (h.ord o ho)
  refine okB_less h hg.len hg.rise (fun x hx => ?_)
  rw [hitAt] at hx
  split at hx
  · have hx' : x ∈ l := by
      rcases List.mem_append.1 hx with h2 | h2
      · exact List.mem_of_mem_take h2
      · exact List.mem_of_mem_drop h2
    have := ord_left (h.ord x hx')
    exact ⟨x, hx', x.left, this.1, this.2, rfl⟩
  · next hne =>
    rcases List.mem_or_eq_of_mem_set hx with h2 | rfl
    · have := ord_left (h.ord x h2)
      exact ⟨x, h2, x.left, this.1, this.2, rfl⟩
    · exact ⟨o, ho, o.left - q, by omega, by omega, rfl⟩
theorem okB_mat {n : Int} {c : Cm} {id : Int} : ∀ (k : Nat) (l : List Od) (left : Int) (ts : List Ev), OkB n l → 0 ≤ left → left ≤ 1000000 → OkB n (matL c id k l left ts).1
  | 0, l, left, ts, h, h0, h1 => h
  | k + 1, l, left, ts, h, h0, h1 => by
    rw [matL]
    by_cases hl : 0 < left
    · rw [if_pos hl]
      cases hf : frontO l (othS c.s) with
      | none => exact h
      | some o =>
        simp only
        by_cases hm : meetO c o = true
        · rw [if_pos hm]
          obtain ⟨hmem, _⟩ := front_mem hf
          obtain ⟨i, hi⟩ := List.getElem?_of_mem hmem
          have ho := ord_left (h.ord o hmem)
          rw [plc_at h.rise hi, Int.toNat_natCast]
          exact okB_mat k _ _ _ (okB_hit h hi (by omega) (by omega)) (by omega) (by omega)
        · rw [if_neg hm]; exact h
    · rw [if_neg hl]; exact h
/-- Where something is left, no order of the other side would meet it. -/
theorem mat_stop {c : Cm} {id : Int} : ∀ (k : Nat) (l : List Od) (left : Int) (ts : List Ev), GoodL l → 0 ≤ left → left ≤ 1000000 → l.length < k → 0 < (matL c id k l left ts).2.1 → ∀ o, frontO (matL c id k l left ts).1 (othS c.s) = some o → meetO c o = false
  | 0, l, left, ts, h, h0, h1, hk => by omega
  | k + 1, l, left, ts, h, h0, h1, hk => by
    rw [matL]
    by_cases hl : 0 < left
    · rw [if_pos hl]
      cases hf : frontO l (othS c.s) with
      | none => intro _ o ho; simp only at ho; rw [hf] at ho; cases ho
      | some p =>
        simp only
        by_cases hm : meetO c p = true
        · rw [if_pos hm]
          obtain ⟨hmem, _⟩ := front_mem hf
          obtain ⟨i, hi⟩ := List.getElem?_of_mem hmem
          have ho := h.left p hmem
          rw [plc_at h.rise hi, Int.toNat_natCast]
          obtain ⟨g1, g2⟩ := good_hit h hi (qty := min left p.left) (by omega) (by omega)
          rcases g2 with g2 | ⟨g2, g3⟩
          · exact mat_stop k _ _ _ g1 (by omega) (by omega) (by omega)
          · intro hpos
            exfalso
            have : left - min left p.left = 0 := by omega
            rw [this, matL_end (by omega)] at hpos
            simp at hpos
        · rw [if_neg hm]; intro _ o ho; simp only at ho; rw [hf] at ho
          obtain rfl := Option.some.inj ho
          simpa using hm
    · rw [if_neg hl]; intro hpos; exact absurd hpos hl
theorem far_meet {c : Cm} {l : List Od} (hr : Rising l) (ht : c.t ≠ 2) (hs : c.s = 1 ∨ c.s = 2) (h : ∀ o, frontO l (othS c.s) = some o → meetO c o = false) : ∀ o ∈ l, o.side = othS c.s → (c.s = 1 → tk c.p < o.ticks) ∧ (c.s = 2 → o.ticks < tk c.p) := by
  intro x hx hsd
  rcases front_head (s := decide (othS c.s = 1)) hr (sd := othS c.s) with ⟨_, h1⟩ | ⟨i, o, h1, h2⟩
  · exact absurd hsd (h1 x hx)
  · have hm := h o h1
    obtain ⟨j, hj⟩ := List.getElem?_of_mem hx
    rw [meetO, if_neg ht] at hm
    have hb : x = o ∨ ahd (decide (othS c.s = 1)) o x := by
      by_cases hji : j = i
      · subst hji; rw [h2.1] at hj; exact .inl (Option.some.inj hj).symm
      · exact .inr (h2.2.2 j x hj hsd hji)
    rcases hs with hs | hs
    · refine ⟨fun _ => ?_, fun e => by omega⟩
      rw [if_pos hs] at hm
      have hm' : ¬ o.ticks ≤ tk c.p := by simpa using hm
      have ho : othS c.s = 2 := by simp [othS, hs]
      rw [ho] at hb
      rcases hb with rfl | hb
      · omega
      · rcases hb with hb | hb
        · simp only [bt] at hb; simp at hb; omega
        · omega
    · refine ⟨fun e => by omega, fun _ => ?_⟩
      rw [if_neg (by omega)] at hm
      have hm' : ¬ tk c.p ≤ o.ticks := by simpa using hm
      have ho : othS c.s = 1 := by simp [othS, hs]
      rw [ho] at hb
      rcases hb with rfl | hb
      · omega
      · rcases hb with hb | hb
        · simp only [bt] at hb; simp at hb; omega
        · omega
theorem okB_add {n : Int} {l : List Od} {o : Od} (h : OkB n l) (hn : n ≠ 1000000) (hi : o.id = n) (ho : ordB o = true) (hf : fullB (l ++ [o]) = false) (hx : ∀ x ∈ l, x.side ≠ o.side → (o.side = 1 → o.ticks < x.ticks) ∧ (o.side = 2 → x.ticks < o.ticks)) : OkB (n + 1) (l ++ [o]) := by
  have hn1 := h.n1
  have hn2 := h.n2
  have hsd : ∀ x ∈ l ++ [o], x.side = 1 ∨ x.side = 2 := fun x hx => by
    rcases List.mem_append.1 hx with h1 | h1
    · exact ord_side (h.ord x h1)
    · rw [List.mem_singleton.1 h1]; exact ord_side ho
  rw [full_eq h.len hsd, fullS] at hf
  simp only [Bool.or_eq_false_iff, decide_eq_false_iff_not] at hf
  have hl := h.len
  have key : ∀ x ∈ l ++ [o], x ∈ l ∨ x = o := fun x hx => by
    rcases List.mem_append.1 hx with h1 | h1
    · exact .inl h1
    · exact .inr (List.mem_singleton.1 h1)
  refine ⟨by omega, by omega, by simp; omega, fun x hx => ?_, ?_, fun x hx => ?_, fun x hx => ?_, by omega, fun a ha h1 b hb h2 => ?_⟩
  · rcases key x hx with h1 | rfl
    · exact h.ord x h1
    · exact ho
  · refine List.pairwise_append.2 ⟨h.rise, List.pairwise_singleton _ _, fun a ha b hb => ?_⟩
    rw [List.mem_singleton.1 hb, hi]; exact h.ids a ha
  · rcases key x hx with h1 | rfl
    · exact h.id0 x h1
    · omega
  · rcases key x hx with h1 | rfl
    · have := h.ids x h1; omega
    · omega
  · rcases key a ha with k1 | rfl
    · rcases key b hb with k2 | rfl
      · exact h.nox a k1 h1 b k2 h2
      · exact (hx a k1 (by omega)).2 h2
    · rcases key b hb with k2 | rfl
      · exact (hx b k2 (by omega)).1 h1
      · omega
/-- A right book stays right. -/
theorem okB_step {n : Int} {l : List Od} {c : Cm} (h : OkB n l) (hp : PrW c.p) : OkB (stN n l c) (stL n l c) := by
  rw [stN, stL]
  by_cases h0 : refR n l c = 0
  · rw [if_pos h0]
    by_cases hk : c.k = 1
    · rw [if_pos ⟨h0, hk⟩, if_pos hk]
      rw [refR, if_pos hk] at h0
      split at h0
      · rw [newR] at h0
        have e : betB c.s 1 2 = true ∧ betB c.t 1 5 = true ∧ lifW c = false ∧ prcB c = true ∧ betB c.q 1 1000000 = true ∧ tagB c.g = true ∧ matR n c (matL c n 21 l c.q []) = 0 := by
          revert h0
          cases h1 : betB c.s 1 2
          · intro h; cases h
          cases h2 : betB c.t 1 5
          · intro h; cases h
          cases h3 : lifW c
          · cases h4 : prcB c
            · intro h; cases h
            cases h5 : betB c.q 1 1000000
            · intro h; cases h
            cases h6 : tagB c.g
            · intro h; cases h
            intro h
            exact ⟨rfl, rfl, rfl, rfl, rfl, rfl, h⟩
          · intro h; cases h
        obtain ⟨h1, h2, h3, h4, h5, h6, h7⟩ := e
        have hq : 1 ≤ c.q ∧ c.q ≤ 1000000 := by simpa [betB] using h5
        have hm := okB_mat (c := c) (id := n) 21 l c.q [] h (by omega) hq.2
        have hst := mat_stop (c := c) (id := n) 21 l c.q [] (okB_good h) (by omega) hq.2 (by have := h.len; omega)
        obtain ⟨-, g1, g2⟩ := matL_good (c := c) (id := n) 21 l c.q [] (okB_good h) (by omega) hq.2
        generalize matL c n 21 l c.q [] = F at h7 hm hst g1 g2 ⊢
        rw [matR] at h7
        have hn : n ≠ 1000000 := fun e => by
          by_cases a1 : c.t = 5 ∧ 0 < F.2.2.length
          · rw [if_pos a1] at h7; cases h7
          · rw [if_neg a1] at h7
            by_cases a2 : c.t = 4 ∧ 0 < F.2.1
            · rw [if_pos a2] at h7; cases h7
            · rw [if_neg a2, if_pos e] at h7; cases h7
        have hn2 := h.n2
        rw [accL]
        by_cases hr : 0 < F.2.1 ∧ restB c.t = true
        · rw [if_pos hr]
          have hf : fullB (F.1 ++ [⟨n, c.s, tk c.p, F.2.1, c.l, c.g⟩]) = false := by
            cases hff : fullB (F.1 ++ [⟨n, c.s, tk c.p, F.2.1, c.l, c.g⟩])
            · rfl
            · exfalso
              have hff' : fullB (F.1 ++ [{ ordO c n with left := F.2.1 }]) = true := hff
              revert h7
              split
              · intro h; cases h
              split
              · intro h; cases h
              rw [if_pos ⟨hr.2, hr.1⟩]
              intro h; cases h
          have ht : c.t = 1 ∨ c.t = 5 := by simpa [restB] using hr.2
          have hs : c.s = 1 ∨ c.s = 2 := by simp [betB] at h1; omega
          have hpk : tkOk c.p = true := by rw [prcB, if_neg (by omega)] at h4; exact h4
          obtain ⟨p1, p2⟩ := hp hpk
          have hl : betB c.l 0 1 = true := by
            rw [lifW] at h3
            cases hb : betB c.l 0 1
            · rw [hb] at h3; simp at h3
            · rfl
          have hfar := far_meet (c := c) hm.rise (by omega) hs (hst hr.1)
          refine okB_add hm hn rfl ?_ hf (fun x hx hne => ?_)
          · simp only [ordB, h1, hl, h6, Bool.true_and, Bool.and_true, Bool.and_eq_true]
            simp [betB]; omega
          · have hxs := ord_side (hm.ord x hx)
            have hne' : x.side ≠ c.s := hne
            have ho : x.side = othS c.s := by rw [othS]; split <;> omega
            exact hfar x hx ho
        · rw [if_neg hr]
          exact ⟨by have := hm.n1; omega, by omega, hm.len, hm.ord, hm.rise, hm.id0, fun o ho => by have := hm.ids o ho; omega, hm.lev, hm.nox⟩
      · cases h0
    · rw [if_neg (fun e => hk e.2), if_neg hk]
      by_cases h2 : c.k = 2
      · rw [if_pos h2]
        cases ho : l[(plc l c.i).toNat]? with
        | none => exact h
        | some o =>
          have := ord_left (h.ord o (List.mem_of_getElem? ho))
          exact okB_hit h ho (by omega) (Int.le_refl _)
      · rw [if_neg h2]
        by_cases h3 : c.k = 3
        · rw [if_pos h3]
          cases ho : l[(plc l c.i).toNat]? with
          | none => exact h
          | some o =>
            rw [refR, if_neg hk, if_neg h2, if_pos h3] at h0
            have hq : betB c.q 1 1000000 = true := by
              split at h0
              · rw [redR] at h0
                cases hb : betB c.q 1 1000000
                · rw [hb] at h0; cases h0
                · rfl
              · cases h0
            have hq' : 1 ≤ c.q ∧ c.q ≤ 1000000 := by simpa [betB] using hq
            have hom := List.mem_of_getElem? ho
            refine okB_less h (by simp; exact h.len) ?_ (fun x hx => ?_)
            · have hmap : (l.set (plc l c.i).toNat { o with left := c.q }).map Od.id = l.map Od.id := by
                rw [List.map_set]
                show (l.map Od.id).set _ o.id = _
                apply List.ext_getElem? 
                intro j
                by_cases hj : (plc l c.i).toNat = j
                · subst hj
                  rw [List.getElem?_set_self (by simp; exact (List.getElem?_eq_some_iff.1 ho).1), List.getElem?_map, ho]; rfl
                · rw [List.getElem?_set_ne hj]
              have hr := h.rise
              rw [Rising, ← List.pairwise_map (f := Od.id) (R := fun a b => a < b)] at hr ⊢
              rw [hmap]; exact hr
            · rcases List.mem_or_eq_of_mem_set hx with h4 | rfl
              · have := ord_left (h.ord x h4)
                exact ⟨x, h4, x.left, this.1, this.2, rfl⟩
              · exact ⟨o, hom, c.q, by omega, hq'.2, rfl⟩
        · rw [if_neg h3]
          refine okB_less h (Nat.le_trans (List.length_filter_le _ _) h.len) (h.rise.filter _) (fun x hx => ?_)
          have hx' := (List.mem_filter.1 hx).1
          have := ord_left (h.ord x hx')
          exact ⟨x, hx', x.left, this.1, this.2, rfl⟩
  · rw [if_neg h0, if_neg (fun e => h0 e.1)]; exact h
/-- Along a script every book is right. -/
theorem okB_run (cs : List Cm) (hp : ∀ c ∈ cs, PrW c.p) : ∀ k, k ≤ cs.length → OkB (runS (cs.take k)).n (runS (cs.take k)).l := by
  intro k
  induction k with
  | zero => intro _; exact okB_start
  | succ k ih =>
    intro hk
    obtain ⟨c, hc⟩ : ∃ c, cs[k]? = some c := ⟨_, List.getElem?_eq_getElem (by omega)⟩
    rw [run_step cs hc]
    exact okB_step (ih (by omega)) (hp c (List.mem_of_getElem? hc))
end Go.Proofs.Ythmgkabpcjkieaa
