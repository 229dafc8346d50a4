/-
  Trades in their order: each is with the order that is first at that moment. No function walked.
-/
import Derived.Test.YthmgkabpcjkieaaVj46
namespace Go.Proofs.Ythmgkabpcjkieaa
open Go.RowKit
set_option linter.unusedVariables false

/-- What a limit promises of a trade's price. -/
def LimOk (c : Cm) (pr : Int) : Prop := tkOk c.p = true → (c.s = 1 → pr ≤ tk c.p) ∧ (c.s = 2 → tk c.p ≤ pr)
/-- Events of which each trade is with the first order of the other side, the book going with them. -/
def Pri (c : Cm) : List Ev → List Od → Prop
  | [], _ => True
  | e :: es, l => (e.kind ≠ 3 ∧ Pri c es l) ∨ (e.kind = 3 ∧ ∃ o k, frontO l (othS c.s) = some o ∧ l[k]? = some o ∧ o.id = e.other ∧ o.ticks = e.price ∧ 1 ≤ e.qty ∧ e.qty ≤ o.left ∧ (c.s = 1 ∨ c.s = 2) ∧ LimOk c e.price ∧ Pri c es (hitAt l k o e.qty))
theorem pri_none {c : Cm} : ∀ {es : List Ev} {l : List Od}, (∀ e ∈ es, e.kind ≠ 3) → Pri c es l
  | [], _, _ => trivial
  | e :: es, l, h => .inl ⟨h e (by simp), pri_none fun x hx => h x (by simp [hx])⟩
theorem lim_meet {c : Cm} {o : Od} (hp : prcB c = true) (hm : meetO c o = true) : LimOk c o.ticks := by
  intro hk
  rw [meetO] at hm
  by_cases h2 : c.t = 2
  · exfalso
    rw [prcB, if_pos h2] at hp
    have h0 : fbit c.p = 0 := by simpa using hp
    have hz : c.p = 0 := by
      rw [fbit] at h0
      split at h0
      · cases h0
      · exact h0
    rw [hz] at hk
    exact absurd hk (by decide +kernel)
  · rw [if_neg h2] at hm
    by_cases hs : c.s = 1
    · rw [if_pos hs] at hm
      exact ⟨fun _ => by simpa using hm, fun h => by omega⟩
    · rw [if_neg hs] at hm
      exact ⟨fun h => absurd h hs, fun _ => by simpa using hm⟩
theorem pri_mat {c : Cm} {id : Int} (hp : prcB c = true) (hs : c.s = 1 ∨ c.s = 2) : ∀ (n : Nat) (l : List Od) (left : Int) (ts : List Ev), GoodL l → 0 ≤ left → left ≤ 1000000 → ∃ us, (matL c id n l left ts).2.2 = ts ++ us ∧ ∀ tl, (∀ e ∈ tl, e.kind ≠ 3) → Pri c (us ++ tl) l
  | 0, l, left, ts, h, h0, h1 => ⟨[], by simp [matL], fun tl ht => pri_none ht⟩
  | n + 1, l, left, ts, h, h0, h1 => by
    rw [matL]
    by_cases hl : 0 < left
    · rw [if_pos hl]
      cases hf : frontO l (othS c.s) with
      | none => exact ⟨[], by simp, fun tl ht => pri_none ht⟩
      | some o =>
        simp only
        by_cases hm : meetO c o = true
        · rw [if_pos hm]
          obtain ⟨hmem, _⟩ := front_mem hf
          obtain ⟨k, hk⟩ := List.getElem?_of_mem hmem
          have ho := h.left o hmem
          rw [plc_at h.rise hk, Int.toNat_natCast]
          obtain ⟨us, e1, e2⟩ := pri_mat hp hs (id := id) n (hitAt l k o (min left o.left)) (left - min left o.left) (ts ++ [trE id o.id (min left o.left) o.ticks]) (good_hit h hk (by omega) (by omega)).1 (by omega) (by omega)
          refine ⟨trE id o.id (min left o.left) o.ticks :: us, by rw [e1]; simp, fun tl ht => .inr ⟨rfl, o, k, hf, hk, rfl, rfl, ?_, ?_, hs, lim_meet hp hm, e2 tl ht⟩⟩
          · show 1 ≤ min left o.left; omega
          · show min left o.left ≤ o.left; omega
        · rw [if_neg hm]; exact ⟨[], by simp, fun tl ht => pri_none ht⟩
    · rw [if_neg hl]; exact ⟨[], by simp, fun tl ht => pri_none ht⟩
theorem pri_all {n : Int} {l : List Od} {c : Cm} (h : OkB n l) : Pri c ((stE n l c).drop 1) l := by
  rw [stE]
  by_cases h0 : refR n l c = 0
  · rw [if_pos h0]
    by_cases hk : c.k = 1
    · rw [if_pos hk]
      rw [refR, if_pos hk] at h0
      split at h0
      · rw [newR] at h0
        have e : betB c.s 1 2 = true ∧ prcB c = true ∧ betB c.q 1 1000000 = true := by
          revert h0
          cases h1 : betB c.s 1 2
          · intro h; cases h
          cases h2 : betB c.t 1 5
          · intro h; cases h
          cases h3 : lifW c
          · cases h4 : prcB c
            · intro h; cases h
            cases h5 : betB c.q 1 1000000
            · intro h; cases h
            exact fun _ => ⟨rfl, rfl, rfl⟩
          · intro h; cases h
        obtain ⟨h1, h4, h5⟩ := e
        have hq : 1 ≤ c.q ∧ c.q ≤ 1000000 := by simpa [betB] using h5
        have hs : c.s = 1 ∨ c.s = 2 := by simp [betB] at h1; omega
        obtain ⟨us, e1, e2⟩ := pri_mat (c := c) (id := n) h4 hs 21 l c.q [] (okB_good h) (by omega) hq.2
        rw [accE, List.cons_append, List.drop_succ_cons, List.drop_zero, e1, List.nil_append]
        refine e2 _ (fun e he => ?_)
        split at he
        · rw [List.mem_singleton.1 he]
          show (if restB c.t = true then (4 : Int) else 5) ≠ 3
          split <;> decide
        · cases he
      · cases h0
    · rw [if_neg hk]
      split
      · split
        · exact pri_none (by simp)
        · exact pri_none (by simp)
      · split
        · exact pri_none (by simp)
        · refine pri_none (fun e he => ?_)
          simp only [List.drop_succ_cons, List.drop_zero] at he
          obtain ⟨o, _, rfl⟩ := List.mem_map.1 he
          exact (show (9 : Int) ≠ 3 by decide)
  · rw [if_neg h0]; exact pri_none (by simp)
end Go.Proofs.Ythmgkabpcjkieaa
namespace Go.Proofs.Ythmgkabpcjkieaa
open Go.RowKit
set_option linter.unusedVariables false

theorem stE_lenT {next : Int} {l : List Od} {c : Cm} (hg : GoodL l) : (stE next l c).length ≤ 100 := by
  have hl := hg.len
  rw [stE]
  split
  · split
    · have h1 := matL_few (c := c) (id := next) 21 l c.q []
      rw [accE]
      simp only [List.length_append, List.length_cons, List.length_nil] at h1 ⊢
      split <;> simp <;> omega
    · split
      · split <;> simp
      · split
        · simp
        · have h1 : (l.filter dyB).length ≤ 20 := Nat.le_trans (List.length_filter_le _ _) hl
          simp only [List.length_cons, List.length_map]; omega
  · simp
end Go.Proofs.Ythmgkabpcjkieaa
