/-
  The figures of a script's run: its totals are within bounds, and what the floats come to. No function walked.
-/
import Derived.Test.YthmgkabpcjkieaaVj44
import Derived.Test.YthmgkabpcjkieaaVj45
import Derived.Test.YthmgkabpcjkieaaVj47
import Derived.Test.YthmgkabpcjkieaaVj48
namespace Go.Proofs.Ythmgkabpcjkieaa
open Go.RowKit
set_option linter.unusedVariables false

/-- Trades within bounds. -/
def TrOk (es : List Ev) : Prop := ∀ e ∈ es, e.kind = 3 → 1 ≤ e.qty ∧ e.qty ≤ 1000000 ∧ 1 ≤ e.price ∧ e.price ≤ 1000000
theorem pri_tr {c : Cm} {n : Int} : ∀ {es : List Ev} {l : List Od}, OkB n l → Pri c es l → TrOk es
  | [], _, _, _ => fun e he => by cases he
  | e :: es, l, h, hp => by
    rcases hp with ⟨h1, h2⟩ | ⟨h1, o, k, _, hk, _, ht, q1, q2, _, _, h2⟩
    · intro x hx hk
      rcases List.mem_cons.1 hx with rfl | hx
      · exact absurd hk h1
      · exact pri_tr h h2 x hx hk
    · intro x hx hx3
      have ho := h.ord o (List.mem_of_getElem? hk)
      rcases List.mem_cons.1 hx with rfl | hx
      · have hl := ord_left ho
        simp [ordB, betB] at ho
        omega
      · exact pri_tr (okB_hit h hk (by omega) q2) h2 x hx hx3
theorem head_no {n : Int} {l : List Od} {c : Cm} : ∀ e ∈ (stE n l c).head?, e.kind ≠ 3 := by
  intro e he
  rw [stE] at he
  split at he
  · split at he
    · rw [accE, List.cons_append] at he
      have := Option.some.inj he
      subst this
      exact (by decide : (1 : Int) ≠ 3)
    · split at he
      · split at he
        · have := Option.some.inj he
          subst this
          exact (by decide : (6 : Int) ≠ 3)
        · cases he
      · split at he
        · have := Option.some.inj he
          subst this
          exact (by decide : (7 : Int) ≠ 3)
        · have := Option.some.inj he
          subst this
          exact (by decide : (8 : Int) ≠ 3)
  · have := Option.some.inj he
    subst this
    exact (by decide : (2 : Int) ≠ 3)
theorem stE_tr {n : Int} {l : List Od} (c : Cm) (h : OkB n l) : TrOk (stE n l c) := by
  have hp := pri_tr h (pri_all (c := c) h)
  have hh := head_no (n := n) (l := l) (c := c)
  generalize stE n l c = es at hp hh
  cases es with
  | nil => intro e he; cases he
  | cons a es =>
    intro e he hk
    rcases List.mem_cons.1 he with rfl | he
    · exact absurd hk (hh e rfl)
    · exact hp e he hk
/-- Totals within bounds. -/
structure TtOk (m : Int) (t : Tot) : Prop where
  v0 : 0 ≤ t.vo
  v1 : t.vo ≤ m * 1000000
  n0 : 0 ≤ t.no
  n1 : t.no ≤ m * 1000000000000
  z : t.vo = 0 → t.no = 0
theorem tt_mono {m m' : Int} {t : Tot} (h : TtOk m t) (hm : m ≤ m') : TtOk m' t := by
  obtain ⟨a, b, c, d, e⟩ := h
  exact ⟨a, by omega, c, by omega, e⟩
theorem tt_cnt {m : Int} {t : Tot} {e : Ev} (h : TtOk m t) (h0 : 0 ≤ m) (h1 : m ≤ 100000) (he : e.kind = 3 → 1 ≤ e.qty ∧ e.qty ≤ 1000000 ∧ 1 ≤ e.price ∧ e.price ≤ 1000000) : TtOk (m + 1) (cntE t e) := by
  unfold cntE
  split
  · exact tt_mono ⟨h.v0, h.v1, h.n0, h.n1, h.z⟩ (by omega)
  · split
    · exact tt_mono ⟨h.v0, h.v1, h.n0, h.n1, h.z⟩ (by omega)
    · split
      · next h3 =>
        obtain ⟨a, b, c, d⟩ := he h3
        obtain ⟨p1, p2, p3, p4, p5⟩ := h
        have q1 : e.qty * e.price ≤ 1000000 * 1000000 := Int.mul_le_mul b d (by omega) (by omega)
        have q0 : 0 < e.qty * e.price := Int.mul_pos (by omega) (by omega)
        generalize e.qty * e.price = Q at q0 q1 ⊢
        have w1 : wrap64 Q = Q := by unfold wrap64; omega
        have w2 : wrap64 (t.vo + e.qty) = t.vo + e.qty := by unfold wrap64; omega
        have w3 : wrap64 (t.no + Q) = t.no + Q := by unfold wrap64; omega
        rw [w1, w2, w3]
        exact ⟨by show 0 ≤ t.vo + e.qty; omega, by show t.vo + e.qty ≤ _; omega, by show 0 ≤ t.no + Q; omega, by show t.no + Q ≤ _; omega, fun hz => by have : t.vo + e.qty = 0 := hz; omega⟩
      · exact tt_mono h (by omega)
theorem tt_fold {m : Int} : ∀ {es : List Ev} {t : Tot}, TtOk m t → 0 ≤ m → m + es.length ≤ 100000 → TrOk es → TtOk (m + es.length) (es.foldl cntE t)
  | [], t, h, _, _, _ => by simpa using h
  | e :: es, t, h, h0, h1, ht => by
    rw [List.length_cons] at h1
    have hc := tt_cnt (e := e) h h0 (by omega) (fun hk => ht e (by simp) hk)
    have := tt_fold (m := m + 1) (es := es) hc (by omega) (by omega) (fun x hx => ht x (by simp [hx]))
    rw [List.foldl_cons, List.length_cons, show m + ((es.length + 1 : Nat) : Int) = m + 1 + es.length by omega]
    exact this
theorem tt_group {m : Int} {es : List Ev} {t : Tot} (h : TtOk m t) (h0 : 0 ≤ m) (h1 : m + es.length ≤ 100000) (ht : TrOk es) : TtOk (m + es.length) (wgT t es) :=
  tt_fold ⟨h.v0, h.v1, h.n0, h.n1, h.z⟩ h0 h1 ht
theorem tt_run (cs : List Cm) (h : cs.length ≤ 200) (hp : ∀ c ∈ cs, PrW c.p) : ∀ k, k ≤ cs.length → TtOk (100 * k) (runS (cs.take k)).t := by
  intro k
  induction k with
  | zero => intro _; exact ⟨by show (0 : Int) ≤ 0; omega, by show (0 : Int) ≤ _; omega, by show (0 : Int) ≤ 0; omega, by show (0 : Int) ≤ _; omega, fun _ => rfl⟩
  | succ k ih =>
    intro hk
    obtain ⟨c, hc⟩ : ∃ c, cs[k]? = some c := ⟨_, List.getElem?_eq_getElem (by omega)⟩
    have hB := okB_run cs hp k (by omega)
    have ih := ih (by omega)
    rw [run_step cs hc]
    generalize runS (cs.take k) = s at ih hB ⊢
    have hl := stE_lenT (next := s.n) (c := c) (okB_good hB)
    exact tt_mono (tt_group (es := stE s.n s.l c) ih (by omega) (by omega) (stE_tr c hB)) (by omega)
theorem wbT_keep : ∀ (l : List Od) (t : Tot), (wbT t l).vo = t.vo ∧ (wbT t l).no = t.no
  | [], t => ⟨rfl, rfl⟩
  | o :: l, t => wbT_keep l (cntO t o)
/-- What a script leaves: a right book, totals within bounds. -/
theorem run_fig (cs : List Cm) (h : cs.length ≤ 200) (hp : ∀ c ∈ cs, PrW c.p) : OkB (rsF cs).n (rsF cs).l ∧ TtOk 20000 (rsF cs).t := by
  have h1 := okB_run cs hp cs.length (Nat.le_refl _)
  have h2 := tt_run cs h hp cs.length (Nat.le_refl _)
  rw [List.take_of_length_le (Nat.le_refl _)] at h1 h2
  rw [rsF, if_pos h]
  obtain ⟨a, b, c, d, e⟩ := tt_mono (m' := 20000) h2 (by omega)
  obtain ⟨k1, k2⟩ := wbT_keep (runS cs).l (runS cs).t
  exact ⟨h1, ⟨by show 0 ≤ (wbT _ _).vo; rw [k1]; exact a, by show (wbT _ _).vo ≤ _; rw [k1]; exact b, by show 0 ≤ (wbT _ _).no; rw [k2]; exact c, by show (wbT _ _).no ≤ _; rw [k2]; exact d, fun hz => by show (wbT _ _).no = 0; rw [k2]; exact e (by rw [← k1]; exact hz)⟩⟩
theorem ofInt_fits (n : Int) : nanB (floatOfInt .f64 n) = false := write_fits (.number (decide (n < 0)) n.natAbs 0) rfl
theorem qtr_fits (n : Int) : nanB (qtr n) = false := by
  obtain ⟨r, h1, h2⟩ := div_fits (floatOfInt .f64 n) 4 (ofInt_fits n) (by decide) (by decide)
  rw [show floatOfInt .f64 4 = 4616189618054758400 by decide] at h1
  unfold qtr
  rw [h1]; exact h2
theorem qtr_eq (n : Int) : FloatKind.f64.format.div (floatOfInt .f64 n) 4616189618054758400 = some (qtr n) := by
  obtain ⟨r, hr⟩ := quarter_some n
  unfold qtr
  rw [hr]; rfl
theorem vw_none : vwO 0 0 = none := by decide
theorem tl_none : tlO 0 0 = none := by decide
theorem vw_nan {t : Tot} (h : TtOk 20000 t) {x : Nat} (hx : HasF (vwO t.no t.vo) x) : nanB x = decide (t.vo = 0) := by
  by_cases hz : t.vo = 0
  · rw [hz, h.z hz, vw_none] at hx
    rw [hx.2 rfl, decide_eq_true hz]
  · obtain ⟨r, h1, h2⟩ := div_fits (qtr t.no) t.vo (qtr_fits _) hz (by have := h.v0; have := h.v1; omega)
    rw [hx.1 r h1, h2, decide_eq_false hz]
theorem sumL_mem : ∀ {l : List Od}, (∀ o ∈ l, 0 ≤ o.left) → ∀ o ∈ l, o.left ≤ sumL l
  | [], _, o, ho => by cases ho
  | a :: l, h, o, ho => by
    have h0 : ∀ {l : List Od}, (∀ o ∈ l, 0 ≤ o.left) → 0 ≤ sumL l := by
      intro l
      induction l with
      | nil => intro _; simp [sumL]
      | cons a l ih => intro h; rw [sumL]; have := h a (by simp); have := ih (fun o ho => h o (by simp [ho])); omega
    rw [sumL]
    have ha := h a (by simp)
    have hl : ∀ o ∈ l, 0 ≤ o.left := fun o ho => h o (by simp [ho])
    rcases List.mem_cons.1 ho with rfl | ho
    · have := h0 hl; omega
    · have := sumL_mem hl o ho; omega
theorem tl_nan {n : Int} {l : List Od} (h : OkB n l) {y : Nat} (hy : HasF (tlO (sumL (ofSide l 1)) (sumL (ofSide l 2))) y) : nanB y = decide (l = []) ∧ (l ≠ [] → -4607182418800017408 ≤ keyF y ∧ keyF y ≤ 4607182418800017408) := by
  by_cases hz : l = []
  · subst hz
    have : tlO (sumL (ofSide [] 1)) (sumL (ofSide [] 2)) = none := tl_none
    rw [this] at hy
    exact ⟨by rw [hy.2 rfl]; rfl, fun h => absurd rfl h⟩
  · have hl : ∀ sd, ∀ o ∈ ofSide l sd, 0 ≤ o.left ∧ o.left ≤ 1000000 := fun sd o ho => by
      have := ord_left (h.ord o (List.mem_filter.1 ho).1); omega
    have hn : ∀ sd, (ofSide l sd).length ≤ 20 := fun sd => Nat.le_trans (List.length_filter_le _ _) h.len
    have b1 := sumL_bound (ofSide l 1) (hl 1)
    have b2 := sumL_bound (ofSide l 2) (hl 2)
    have n1 := hn 1
    have n2 := hn 2
    have hpos : 0 < sumL (ofSide l 1) + sumL (ofSide l 2) := by
      obtain ⟨o, ho⟩ := List.exists_mem_of_ne_nil l hz
      have hol := ord_left (h.ord o ho)
      rcases ord_side (h.ord o ho) with hs | hs
      · have := sumL_mem (fun o ho => (hl 1 o ho).1) o (List.mem_filter.2 ⟨ho, by simpa using hs⟩)
        omega
      · have := sumL_mem (fun o ho => (hl 2 o ho).1) o (List.mem_filter.2 ⟨ho, by simpa using hs⟩)
        omega
    obtain ⟨r, h1, h2, h3⟩ := div_one (sumL (ofSide l 1) - sumL (ofSide l 2)) (sumL (ofSide l 1) + sumL (ofSide l 2)) hpos (by omega) (by omega)
    rw [hy.1 r h1, h2, decide_eq_false hz]
    exact ⟨rfl, fun _ => h3⟩
theorem head_side {s : Bool} {l : List Od} {sd : Int} (hr : Rising l) (h : hdF (quOf s (ofSide l sd)) = true) : hdO (quOf s (ofSide l sd)) ∈ l ∧ (hdO (quOf s (ofSide l sd))).side = sd := by
  have hm : ∀ o ∈ quOf s (ofSide l sd), o ∈ ofSide l sd := fun o ho => by
    unfold quOf at ho
    obtain ⟨k, _, hk⟩ := List.mem_flatMap.1 ho
    exact (List.mem_filter.1 hk).1
  generalize quOf s (ofSide l sd) = q at h hm ⊢
  cases q with
  | nil => cases h
  | cons a q =>
    have := List.mem_filter.1 (hm a (by simp))
    exact ⟨this.1, show a.side = sd by simpa using this.2⟩
theorem inf_key : nanB 9218868437227405312 = false ∧ 0 < keyF 9218868437227405312 := by decide
theorem sp_pos {n : Int} {l : List Od} (h : OkB n l) {s : Nat} (hs : HasF (spO (quOf true (ofSide l 1)) (quOf false (ofSide l 2))) s) : nanB s = false ∧ 0 < keyF s := by
  unfold spO at hs
  split at hs
  · next hh =>
    obtain ⟨m1, s1⟩ := head_side h.rise hh.1
    obtain ⟨m2, s2⟩ := head_side h.rise hh.2
    have hlt := h.nox _ m1 s1 _ m2 s2
    have o1 := h.ord _ m1
    have o2 := h.ord _ m2
    generalize hdO (quOf true (ofSide l 1)) = a at *
    generalize hdO (quOf false (ofSide l 2)) = b at *
    simp [ordB, betB] at o1 o2
    obtain ⟨r, e1, e2, e3⟩ := sub_pos a.ticks b.ticks (by omega) hlt (by omega) _ _ (qtr_eq _) (qtr_eq _)
    rw [hs.1 r e1]
    exact ⟨e2, e3⟩
  · rw [hs.1 _ rfl]; exact inf_key
theorem fbit_nan (x : Nat) : nanB (fbit x) = nanB x := by
  unfold fbit
  split
  · next h => rw [h]; decide
  · rfl
theorem fbit_key {x : Nat} (h : nanB x = false) : fbit x = x := by
  unfold fbit
  rw [if_neg (by rw [h]; decide)]
end Go.Proofs.Ythmgkabpcjkieaa
namespace Go.Proofs.Ythmgkabpcjkieaa
open Go.RowKit
set_option linter.unusedVariables false

/-- The float v is that of o, but for the bits of a number that is none. -/
def HasM (o : Option Nat) (v : Nat) : Prop := (∀ r, o = some r → v = r ∨ (nanB r = true ∧ nanB v = true)) ∧ (o = none → nanB v = true)
theorem hasM_of {o : Option Nat} {v : Nat} (h : HasF o v) : HasM o v := ⟨fun r e => .inl (h.1 r e), h.2⟩
theorem hasM_bits {o : Option Nat} {v : Nat} (h : HasF o v) : HasM o (fbit v) := by
  cases hn : nanB v with
  | true => exact ⟨fun r er => .inr ⟨by rw [← h.1 r er]; exact hn, by rw [fbit_nan]; exact hn⟩, fun _ => by rw [fbit_nan]; exact hn⟩
  | false => rw [fbit_key hn]; exact hasM_of h
theorem same_hasM {o : Option Nat} {a b : Nat} (ha : HasM o a) (hb : HasM o b) (w : World) :
    Calls Try.prog 8 #[.float .f64 a, .float .f64 b] w fun e w' => e = .returned (.bool true) ∧ w' = w := by
  cases ho : o with
  | none => exact sameFloat_nan _ _ w (ha.2 ho) (hb.2 ho)
  | some r =>
    rcases ha.1 r ho with rfl | ⟨h1, h2⟩
    · rcases hb.1 _ ho with rfl | ⟨h3, h4⟩
      · exact sameFloat_any _ w
      · exact sameFloat_nan _ _ w h3 h4
    · rcases hb.1 r ho with rfl | ⟨h3, h4⟩
      · exact sameFloat_nan _ _ w h2 h1
      · exact sameFloat_nan _ _ w h2 h4
theorem key_nought : nanB 0 = false ∧ keyF 0 = 0 := by decide
theorem key_plus : nanB 4607182418800017408 = false ∧ keyF 4607182418800017408 = 4607182418800017408 := by decide
theorem key_less : nanB 13830554455654793216 = false ∧ keyF 13830554455654793216 = -4607182418800017408 := by decide
theorem above_nought {s : Nat} (h : nanB s = false ∧ 0 < keyF s) : (FloatKind.f64.format.order s 0 == some Ordering.gt) = true := by
  have := order_key s 0 h.1 key_nought.1
  rw [key_nought.2, Std.compare_eq_gt.2 h.2] at this
  have e : FloatKind.f64.format.order s 0 = some Ordering.gt := this
  rw [e]; rfl
theorem order_at {y z : Nat} (hy : nanB y = false) (hz : nanB z = false) : FloatKind.f64.format.order y z = some (compare (keyF y) (keyF z)) := order_key y z hy hz
set_option maxRecDepth 100000 in
set_option maxHeartbeats 3200000 in
theorem figLaw (v : Value) (l : List Int) (w : World) (hr : Rd w v l) (hb : Bts l) (hl : l.length ≤ 1048576) :
    Calls Try.prog 3 #[v] w fun e w' => e = .returned (.bool true) ∧ Below w.heap.size w w' := by
  have HR := hide hr
  have HBT := hide hb
  obtain ⟨a, cap, rfl, -, -⟩ := hr
  clear hb
  have hl' : ¬ ((1048576 : Int) < l.length) := by omega
  go_enter Try.func3, Try.ntmps3
  go_wp2_with fail
  refine (scriptOf_any _ l w (unhide HR) (unhide HBT)).mono ?_
  rintro e w1 ⟨o, cs, rfl, htg, hn, hown, hb1⟩
  obtain ⟨ao, co, rfl⟩ := own_sliceD hown
  have HRC : Hid (RdR Cm.vs 8 w1 (.slice ao cs.length co) cs) := ownR_rd (ownR_row Cm.len (by omega) hown)
  have HTG : Hid (∀ c ∈ cs, c.g.size ≤ maxLen) := fun c hc => Nat.le_trans (htg c hc).1 (by unfold maxLen; omega)
  have HB1 := hide hb1
  have HSM := hide (fun W hW => specRunScript_any (.slice ao cs.length co) cs W hW (unhide HTG))
  have HRF := hide (run_fig cs (by omega) (fun c hc => (htg c hc).2))
  generalize rsF cs = F at HSM HRF
  have HOF : Hid (OkB F.n F.l) := (unhide HRF).1
  have HTF : Hid (TtOk 20000 F.t) := (unhide HRF).2
  clear htg hown hb1 HR HBT HRF
  go_wp2_with fail
  refine (unhide HSM w1 (unhide HRC)).mono ?_
  rintro e w2 ⟨gv, vq, rfl, hgr, hor, hb2⟩
  obtain ⟨aq, cq, rfl⟩ := own_sliceD hor
  have hro := ownR_rd (ownR_row Od.len (by have := (unhide HOF).len; omega) hor)
  obtain ⟨gs, hg1, hg2, hg3⟩ := hgr.ex
  clear hgr hg2 hg3
  obtain ⟨ag, cg, rfl⟩ := own_sliceD hg1
  clear hg1
  have HBX : Hid (Below w.heap.size w (w2.alloc (Obj.cells #[.slice ag gs.length cg, .int .i64 F.n, .slice aq F.l.length cq, .int .i64 F.t.gr, .int .i64 F.t.ac, .int .i64 F.t.rf, .int .i64 F.t.tr, .int .i64 F.t.vo, .int .i64 F.t.no, .int .i64 F.t.li, .int .i64 F.t.le] 30))) := ((unhide HB1).trans (hb2.mono (unhide HB1).size)).trans (((Below.refl _ _).alloc (Nat.le_refl _) _).mono (Nat.le_trans (unhide HB1).size hb2.size))
  have HX := hide (bx_made w2 [.slice ag gs.length cg, .int .i64 F.n, .slice aq F.l.length cq, .int .i64 F.t.gr, .int .i64 F.t.ac, .int .i64 F.t.rf, .int .i64 F.t.tr, .int .i64 F.t.vo, .int .i64 F.t.no, .int .i64 F.t.li, .int .i64 F.t.le] 30)
  have hsz : w2.heap.size < (w2.alloc (Obj.cells #[.slice ag gs.length cg, .int .i64 F.n, .slice aq F.l.length cq, .int .i64 F.t.gr, .int .i64 F.t.ac, .int .i64 F.t.rf, .int .i64 F.t.tr, .int .i64 F.t.vo, .int .i64 F.t.no, .int .i64 F.t.li, .int .i64 F.t.le] 30)).heap.size := by simp
  have HRO := hide (rdR_below hro ((Below.refl w2.heap.size w2).alloc (Nat.le_refl _) (Obj.cells #[.slice ag gs.length cg, .int .i64 F.n, .slice aq F.l.length cq, .int .i64 F.t.gr, .int .i64 F.t.ac, .int .i64 F.t.rf, .int .i64 F.t.tr, .int .i64 F.t.vo, .int .i64 F.t.no, .int .i64 F.t.li, .int .i64 F.t.le] 30)) (Nat.le_refl _))
  have HFI := hide (fun W h => implFig_ok F.t.gr F.t.ac F.t.rf F.t.tr F.t.vo F.t.no F.t.li F.t.le F.n (.slice aq F.l.length cq) F.l W h (okB_tags (unhide HOF)) (okB_ok (unhide HOF)) (unhide HTF).v0 (unhide HTF).n0)
  have HFS := hide (fun W h => specFig_ok F.t.gr F.t.ac F.t.rf F.t.tr F.t.vo F.t.no F.t.li F.t.le F.n (.slice aq F.l.length cq) F.l W h (okB_tags (unhide HOF)) (okB_ok (unhide HOF)) (unhide HTF).v0 (unhide HTF).n0)
  clear hor hb2 hro HRC HSM HB1
  have x1 := bx_cell (unhide HX) 1 rfl
  have x2 := bx_cell (unhide HX) 2 rfl
  have x3 := bx_cell (unhide HX) 3 rfl
  have x4 := bx_cell (unhide HX) 4 rfl
  have x5 := bx_cell (unhide HX) 5 rfl
  have x6 := bx_cell (unhide HX) 6 rfl
  have x7 := bx_cell (unhide HX) 7 rfl
  have x8 := bx_cell (unhide HX) 8 rfl
  have x9 := bx_cell (unhide HX) 9 rfl
  have x10 := bx_cell (unhide HX) 10 rfl
  go_wp2_with fail
  generalize (w2.alloc (Obj.cells #[.slice ag gs.length cg, .int .i64 F.n, .slice aq F.l.length cq, .int .i64 F.t.gr, .int .i64 F.t.ac, .int .i64 F.t.rf, .int .i64 F.t.tr, .int .i64 F.t.vo, .int .i64 F.t.no, .int .i64 F.t.li, .int .i64 F.t.le] 30)) = W2 at HBX HX hsz HRO x1 x2 x3 x4 x5 x6 x7 x8 x9 x10 ⊢
  refine (unhide HFI W2 (unhide HRO)).mono ?_
  rintro e w3 ⟨fx, fm, fs, fy, rfl, hfx, hfm, hfs, hfy, hb3⟩
  have HFX := hide hfx
  have HFM := hide hfm
  have HFSp := hide hfs
  have HFY := hide hfy
  have hal : Below w3.heap.size w3 (w3.alloc (Obj.cells #[.float .f64 (fbit fx), .float .f64 fm, .float .f64 fs, .float .f64 (fbit fy)] 37)) := (Below.refl _ _).alloc (Nat.le_refl _) _
  have hb34 := hb3.trans (hal.mono hb3.size)
  have HB4 := hide ((unhide HBX).trans (hb34.mono (unhide HBX).size))
  have HX4 := hide (bx_below (unhide HX) hb34 hsz)
  have HY4 := hide (bx_made w3 [.float .f64 (fbit fx), .float .f64 fm, .float .f64 fs, .float .f64 (fbit fy)] 37)
  have HRO4 := hide (rdR_below (unhide HRO) hb34 (Nat.le_refl _))
  have hsz4 : w2.heap.size < w3.heap.size ∧ w3.heap.size < (w3.alloc (Obj.cells #[.float .f64 (fbit fx), .float .f64 fm, .float .f64 fs, .float .f64 (fbit fy)] 37)).heap.size := ⟨Nat.lt_of_lt_of_le hsz hb3.size, by simp⟩
  clear hb3 hal hb34 hfx hfm hfs hfy HX HBX HRO HFI x1 x2 x3 x4 x5 x6 x7 x8 x9 x10 hsz
  have x1 := bx_cell (unhide HX4) 1 rfl
  have x2 := bx_cell (unhide HX4) 2 rfl
  have x3 := bx_cell (unhide HX4) 3 rfl
  have x4 := bx_cell (unhide HX4) 4 rfl
  have x5 := bx_cell (unhide HX4) 5 rfl
  have x6 := bx_cell (unhide HX4) 6 rfl
  have x7 := bx_cell (unhide HX4) 7 rfl
  have x8 := bx_cell (unhide HX4) 8 rfl
  have x9 := bx_cell (unhide HX4) 9 rfl
  have x10 := bx_cell (unhide HX4) 10 rfl
  have hsf := sflF
  go_wp2_with fail
  generalize (w3.alloc (Obj.cells #[.float .f64 (fbit fx), .float .f64 fm, .float .f64 fs, .float .f64 (fbit fy)] 37)) = W4 at HB4 HX4 HY4 hsz4 HRO4 x1 x2 x3 x4 x5 x6 x7 x8 x9 x10 ⊢
  refine (unhide HFS W4 (unhide HRO4)).mono ?_
  rintro e w5 ⟨gx, gm, gs, gy, rfl, hgx, hgm, hgs, hgy, hb5⟩
  have HGX := hide hgx
  have HGM := hide hgm
  have HGSp := hide hgs
  have HGY := hide hgy
  have hal : Below w5.heap.size w5 (w5.alloc (Obj.cells #[.float .f64 gx, .float .f64 gm, .float .f64 gs, .float .f64 gy] 37)) := (Below.refl _ _).alloc (Nat.le_refl _) _
  have hb56 := hb5.trans (hal.mono hb5.size)
  have HB6 := hide ((unhide HB4).trans (hb56.mono (unhide HB4).size))
  have HX6 := hide (bx_below (unhide HX4) hb56 (Nat.lt_trans hsz4.1 hsz4.2))
  have HY6 := hide (bx_below (unhide HY4) hb56 hsz4.2)
  have HZ6 := hide (bx_made w5 [.float .f64 gx, .float .f64 gm, .float .f64 gs, .float .f64 gy] 37)
  clear hb5 hal hb56 hgx hgm hgs hgy HX4 HY4 HB4 HRO4 HFS x1 x2 x3 x4 x5 x6 x7 x8 x9 x10 hsz4
  have x2 := bx_cell (unhide HX6) 2 rfl
  have x7 := bx_cell (unhide HX6) 7 rfl
  have y0 := bx_cell (unhide HY6) 0 rfl
  have y1 := bx_cell (unhide HY6) 1 rfl
  have y2 := bx_cell (unhide HY6) 2 rfl
  have y3 := bx_cell (unhide HY6) 3 rfl
  have z0 := bx_cell (unhide HZ6) 0 rfl
  have z1 := bx_cell (unhide HZ6) 1 rfl
  have z2 := bx_cell (unhide HZ6) 2 rfl
  have z3 := bx_cell (unhide HZ6) 3 rfl
  go_wp2_with fail
  generalize (w5.alloc (Obj.cells #[.float .f64 gx, .float .f64 gm, .float .f64 gs, .float .f64 gy] 37)) = W6 at HB6 HX6 HY6 HZ6 x2 x7 y0 y1 y2 y3 z0 z1 z2 z3 ⊢
  refine (same_hasM (hasM_bits (unhide HFX)) (hasM_of (unhide HGX)) W6).mono ?_
  rintro e V ⟨rfl, rfl⟩
  go_wp2_with fail
  refine (same_hasM (hasM_of (unhide HFM)) (hasM_of (unhide HGM)) V).mono ?_
  rintro e V2 ⟨rfl, rfl⟩
  go_wp2_with fail
  refine (same_hasM (hasM_of (unhide HFSp)) (hasM_of (unhide HGSp)) V2).mono ?_
  rintro e V3 ⟨rfl, rfl⟩
  go_wp2_with fail
  refine (same_hasM (hasM_bits (unhide HFY)) (hasM_of (unhide HGY)) V3).mono ?_
  rintro e V4 ⟨rfl, rfl⟩
  have hs := above_nought (sp_pos (unhide HOF) (unhide HFSp))
  have hvn := vw_nan (unhide HTF) (unhide HFX)
  rw [← fbit_nan] at hvn
  obtain ⟨hyn, HYB⟩ := tl_nan (unhide HOF) (unhide HFY)
  rw [← fbit_nan] at hyn
  have HYK : Hid (F.l ≠ [] → fbit fy = fy) := fun h => fbit_key (by rw [← fbit_nan, hyn, decide_eq_false h])
  have hv : (FloatKind.f64.format.order (fbit fx) (fbit fx) != some Ordering.eq) = decide (F.t.vo = 0) := hvn
  have hy : (FloatKind.f64.format.order (fbit fy) (fbit fy) != some Ordering.eq) = decide (F.l = []) := hyn
  have HYB := hide HYB
  have HYN : Hid (F.l ≠ [] → nanB (fbit fy) = false) := fun h => by rw [hyn, decide_eq_false h]
  clear hvn hyn
  have hvo : (F.t.vo == 0) = decide (F.t.vo = 0) := rfl
  by_cases hll : F.l = []
  · have hle : (F.l.length : Int) = 0 := by rw [hll]; rfl
    rw [decide_eq_true hll] at hy
    by_cases hz : F.t.vo = 0
    · rw [decide_eq_true hz] at hv
      clear hll HYB HYN HYK
      go_wp2_with fail
      go_ret
      exact ⟨rfl, unhide HB6⟩
    · rw [decide_eq_false hz] at hv
      clear hll HYB HYN HYK
      go_wp2_with fail
      go_ret
      exact ⟨rfl, unhide HB6⟩
  · have hle : ¬ (F.l.length : Int) = 0 := fun h => hll (List.length_eq_zero_iff.1 (by omega))
    rw [decide_eq_false hll] at hy
    have hyn := unhide HYN hll
    have hyb := unhide HYB hll
    rw [← unhide HYK hll] at hyb
    have o1 := order_at hyn key_less.1
    have o2 := order_at hyn key_plus.1
    rw [key_less.2] at o1
    rw [key_plus.2] at o2
    have hge : ((FloatKind.f64.format.order (fbit fy) 13830554455654793216 == some Ordering.gt) || (FloatKind.f64.format.order (fbit fy) 13830554455654793216 == some Ordering.eq)) = true := by
      rw [o1]
      rcases Int.lt_or_eq_of_le hyb.1 with h | h
      · rw [Std.compare_eq_gt.2 h]; rfl
      · rw [← h]; rfl
    have hlq : ((FloatKind.f64.format.order (fbit fy) 4607182418800017408 == some Ordering.lt) || (FloatKind.f64.format.order (fbit fy) 4607182418800017408 == some Ordering.eq)) = true := by
      rw [o2]
      rcases Int.lt_or_eq_of_le hyb.2 with h | h
      · rw [Std.compare_eq_lt.2 h]; rfl
      · rw [h]; rfl
    clear o1 o2 hyn hyb HYB HYN HYK
    by_cases hz : F.t.vo = 0
    · rw [decide_eq_true hz] at hv
      go_wp2_with fail
      go_ret
      exact ⟨rfl, unhide HB6⟩
    · rw [decide_eq_false hz] at hv
      go_wp2_with fail
      go_ret
      exact ⟨rfl, unhide HB6⟩
end Go.Proofs.Ythmgkabpcjkieaa
