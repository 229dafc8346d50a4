/-
  A queue grouped into levels, order by order: what comes of it, as pure data; no function walked.
-/
import Derived.Test.YtadnjcgfoofjiaaLj13
namespace Go.Proofs.Ytadnjcgfoofjiaa
open Go.RowKit
set_option linter.unusedVariables false

/-- An order joins the last level, or makes a new one. -/
def joins (sd : Int) (out : List Lv) (o : Od) : Bool := match out.getLast? with
  | some lv => decide (lv.side = sd) && decide (lv.ticks = o.ticks)
  | none => false
def lastQ (out : List Lv) : Int := match out.getLast? with | some lv => lv.qty | none => 0
def lastC (out : List Lv) : Int := match out.getLast? with | some lv => lv.count | none => 0
def addQ (sd : Int) (out : List Lv) (o : Od) : List Lv :=
  if joins sd out o = true then out.dropLast ++ [⟨sd, o.ticks, lastQ out + o.left, lastC out + 1⟩] else out ++ [⟨sd, o.ticks, o.left, 1⟩]
theorem joins_snoc (sd : Int) (out : List Lv) (v : Lv) (o : Od) : joins sd (out ++ [v]) o = (decide (v.side = sd) && decide (v.ticks = o.ticks)) := by
  unfold joins; rw [List.getLast?_concat]
theorem addQ_join (sd : Int) (out : List Lv) (v : Lv) (o : Od) (h1 : v.side = sd) (h2 : v.ticks = o.ticks) : addQ sd (out ++ [v]) o = out ++ [⟨sd, v.ticks, v.qty + o.left, v.count + 1⟩] := by
  unfold addQ
  rw [joins_snoc, if_pos (by simp [h1, h2]), List.dropLast_concat, h2]
  simp [lastQ, lastC]
theorem addQ_grp (sd k : Int) : ∀ (q : List Od) (out : List Lv) (v : Lv), (∀ o ∈ q, o.ticks = k) → v.side = sd → v.ticks = k → q.foldl (addQ sd) (out ++ [v]) = out ++ [⟨sd, k, v.qty + sumL q, v.count + q.length⟩]
  | [], out, v, _, h1, h2 => by
    obtain ⟨a, b, c, d⟩ := v
    simp only at h1 h2; subst h1 h2
    simp [sumL]
  | o :: r, out, v, h, h1, h2 => by
    have ho := h o (by simp)
    rw [List.foldl_cons, addQ_join sd out v o h1 (h2.trans ho.symm), addQ_grp sd k r out ⟨sd, v.ticks, v.qty + o.left, v.count + 1⟩ (fun o' h' => h o' (by simp [h'])) rfl h2]
    rw [sumL, List.length_cons, show v.qty + o.left + sumL r = v.qty + (o.left + sumL r) by omega, show v.count + 1 + (r.length : Int) = v.count + ((r.length + 1 : Nat) : Int) by omega]
theorem addQ_new (sd k : Int) (q : List Od) (out : List Lv) (hq : q ≠ []) (hk : ∀ o ∈ q, o.ticks = k) (hn : ∀ v, out.getLast? = some v → ¬ (v.side = sd ∧ v.ticks = k)) : q.foldl (addQ sd) out = out ++ [⟨sd, k, sumL q, q.length⟩] := by
  cases q with
  | nil => exact absurd rfl hq
  | cons o r =>
    have ho := hk o (by simp)
    have hj : joins sd out o = false := by
      unfold joins
      split
      · next v hv => have := hn v hv; rw [ho]; simpa using this
      · rfl
    rw [List.foldl_cons]
    have e : addQ sd out o = out ++ [⟨sd, k, o.left, 1⟩] := by unfold addQ; rw [hj, ho]; simp
    rw [e, addQ_grp sd k r out ⟨sd, k, o.left, 1⟩ (fun o' h' => hk o' (by simp [h'])) rfl rfl]
    rw [sumL, List.length_cons, show 1 + (r.length : Int) = ((r.length + 1 : Nat) : Int) by omega]
theorem addQ_all {s : Bool} (sd : Int) (seq : List Od) : ∀ (T : List Int) (out : List Lv), T.Pairwise (bt s) → (∀ k ∈ T, atK seq k ≠ []) → (∀ v, out.getLast? = some v → v.side = sd → v.ticks ∉ T) →
    (T.flatMap (atK seq)).foldl (addQ sd) out = out ++ T.map (lvAt sd seq)
  | [], out, _, _, _ => by simp
  | k :: T, out, hT, hne, hl => by
    obtain ⟨p1, p2⟩ := List.pairwise_cons.1 hT
    rw [List.flatMap_cons, List.foldl_append, addQ_new sd k (atK seq k) out (hne k (by simp)) (fun o ho => by simp [atK] at ho; exact ho.2) (fun v hv h => hl v hv h.1 (by rw [h.2]; simp))]
    rw [addQ_all sd seq T _ p2 (fun k' h' => hne k' (by simp [h'])) (fun v hv _ => by
      rw [List.getLast?_concat] at hv
      obtain rfl := Option.some.inj hv
      exact fun hm => bt_irr s k (p1 k hm))]
    simp [lvAt]
theorem levels_fold (s : Bool) (sd : Int) (seq : List Od) (out : List Lv) (h : ∀ v, out.getLast? = some v → v.side ≠ sd) : (quOf s seq).foldl (addQ sd) out = out ++ lvsOf s sd seq := by
  have hT := isT_tks s seq
  refine addQ_all (s := s) sd seq (tks s seq) out hT.sorted (fun k hk => ?_) (fun v hv e => absurd e (h v hv))
  obtain ⟨o, h1, h2⟩ := (hT.mem k).1 hk
  intro e
  have : o ∈ atK seq k := by simp [atK]; exact ⟨h1, h2⟩
  rw [e] at this; simp at this
theorem lvsOf_side (s : Bool) (sd : Int) (seq : List Od) : ∀ v ∈ lvsOf s sd seq, v.side = sd := by
  intro v hv
  unfold lvsOf at hv
  obtain ⟨k, _, rfl⟩ := List.mem_map.1 hv
  rfl
theorem addQ_len (sd : Int) (out : List Lv) (o : Od) : (addQ sd out o).length ≤ out.length + 1 := by
  unfold addQ
  split
  · simp
  · simp
theorem foldQ_len (sd : Int) : ∀ (q : List Od) (out : List Lv), (q.foldl (addQ sd) out).length ≤ out.length + q.length
  | [], out => by simp
  | o :: r, out => by
    rw [List.foldl_cons]
    have h1 := foldQ_len sd r (addQ sd out o)
    have h2 := addQ_len sd out o
    simp; omega
/-- Where an order joins, the last level is of its side and price. -/
theorem joins_true {sd : Int} {out : List Lv} {o : Od} (h : joins sd out o = true) : ∃ (k : Nat) (v : Lv), out.length = k + 1 ∧ out[k]? = some v ∧ v.side = sd ∧ v.ticks = o.ticks ∧ addQ sd out o = out.take k ++ [⟨sd, o.ticks, v.qty + o.left, v.count + 1⟩] := by
  unfold joins at h
  split at h
  · next v hv =>
    simp at h
    have hne : out ≠ [] := by rintro rfl; simp at hv
    refine ⟨out.length - 1, v, ?_, ?_, h.1, h.2, ?_⟩
    · have := List.length_pos_iff.2 hne; omega
    · rw [List.getLast?_eq_getElem?] at hv; exact hv
    · unfold addQ
      rw [if_pos (by unfold joins; rw [hv]; simp [h]), List.dropLast_eq_take, lastQ, lastC, hv]
  · cases h
theorem joins_false {sd : Int} {out : List Lv} {o : Od} (h : joins sd out o = false) : out = [] ∨ ∃ (k : Nat) (v : Lv), out.length = k + 1 ∧ out[k]? = some v ∧ ¬ (v.side = sd ∧ v.ticks = o.ticks) := by
  by_cases hne : out = []
  · exact .inl hne
  · refine .inr ⟨out.length - 1, out.getLast hne, ?_, ?_, ?_⟩
    · have := List.length_pos_iff.2 hne; omega
    · rw [← List.getLast?_eq_getElem?, List.getLast?_eq_some_getLast hne]
    · unfold joins at h
      rw [List.getLast?_eq_some_getLast hne] at h
      simpa using h
/-- What each level has is bounded by how many orders came. -/
def QB (m : Nat) (out : List Lv) : Prop := ∀ v ∈ out, 0 ≤ v.qty ∧ v.qty ≤ 1000000 * (m : Int) ∧ 0 ≤ v.count ∧ v.count ≤ m
theorem qb_mono {m n : Nat} {out : List Lv} (h : QB m out) (hmn : m ≤ n) : QB n out := fun v hv => by
  have := h v hv
  refine ⟨this.1, ?_, this.2.2.1, ?_⟩
  · have := this.2.1; omega
  · have := this.2.2.2; omega
theorem qb_add {m : Nat} {out : List Lv} {sd : Int} {o : Od} (h : QB m out) (h0 : 0 ≤ o.left) (h1 : o.left ≤ 1000000) : QB (m + 1) (addQ sd out o) := by
  unfold addQ
  split
  · next hj =>
    obtain ⟨k, v, _, hv, _⟩ := joins_true hj
    intro u hu
    rcases List.mem_append.1 hu with hu | hu
    · exact qb_mono h (by omega) u ((List.dropLast_sublist out).subset hu)
    · simp at hu; subst hu
      have hl : out.getLast? = some v := by
        rw [List.getLast?_eq_getElem?]
        obtain ⟨k', v', hk', hv', -⟩ := joins_true hj
        rename_i hlen _
        rw [show out.length - 1 = k by omega]; exact hv
      have := h v (List.mem_of_getElem? hv)
      simp only [lastQ, lastC, hl]
      omega
  · intro u hu
    rcases List.mem_append.1 hu with hu | hu
    · exact qb_mono h (by omega) u hu
    · simp at hu; subst hu
      simp only
      omega
theorem flat_set {α : Type} {f : α → List Value} {sz : Nat} (hf : ∀ c, (f c).length = sz) : ∀ (l : List α) (i j : Nat) (c c' : α) (u : Value), l[i]? = some c → j < sz → f c' = (f c).set j u → (l.flatMap f).set (i * sz + j) u = (l.set i c').flatMap f
  | [], _, _, _, _, _, h, _, _ => by simp at h
  | a :: l, 0, j, c, c', u, h, hj, hc => by
    simp at h; subst h
    rw [List.set_cons_zero, List.flatMap_cons, List.flatMap_cons, hc, Nat.zero_mul, Nat.zero_add, List.set_append_left _ _ (by rw [hf]; exact hj)]
  | a :: l, i + 1, j, c, c', u, h, hj, hc => by
    simp at h
    rw [List.set_cons_succ, List.flatMap_cons, List.flatMap_cons, ← flat_set hf l i j c c' u h hj hc, List.set_append_right _ _ (by rw [hf, Nat.add_mul]; omega), hf]
    congr 2
    rw [Nat.add_mul]; omega
theorem set_last {out : List Lv} {k : Nat} (h : out.length = k + 1) (x : Lv) : out.set k x = out.take k ++ [x] := by
  refine List.ext_getElem? fun i => ?_
  by_cases hi : i < k
  · rw [List.getElem?_set_ne (by omega), List.getElem?_append_left (by rw [List.length_take]; omega), List.getElem?_take, if_pos hi]
  · by_cases hk : i = k
    · subst hk
      rw [List.getElem?_set_self (by omega), List.getElem?_append_right (by rw [List.length_take]; omega)]
      simp [List.length_take, show min i out.length = i by omega]
    · rw [List.getElem?_eq_none (by simp; omega), List.getElem?_eq_none (by simp; omega)]
theorem addQ_join_set {sd : Int} {out : List Lv} {o : Od} {k : Nat} {v : Lv} (hj : joins sd out o = true) (hl : out.length = k + 1) (hv : out[k]? = some v) : addQ sd out o = out.set k ⟨v.side, v.ticks, v.qty + o.left, v.count + 1⟩ := by
  obtain ⟨k', v', h1, h2, h3, h4, h5⟩ := joins_true hj
  obtain rfl : k = k' := by omega
  rw [hv] at h2
  obtain rfl := Option.some.inj h2
  rw [h5, set_last hl, h3, h4]
theorem addQ_new_set {sd : Int} {out : List Lv} {o : Od} (hj : joins sd out o = false) : addQ sd out o = (out ++ [Lv.mk sd o.ticks 0 0]).set out.length ⟨sd, o.ticks, o.left, 1⟩ := by
  rw [set_last (by simp)]
  unfold addQ
  rw [hj]; simp
end Go.Proofs.Ytadnjcgfoofjiaa
