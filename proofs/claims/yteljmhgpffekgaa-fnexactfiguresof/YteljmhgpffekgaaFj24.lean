/-
  The front of a tree: proved by walking the function.
-/
import Derived.Test.YteljmhgpffekgaaFj23
import Derived.Laws.EntriesVeiled
namespace Go.Proofs.Yteljmhgpffekgaa
open Go.RowKit
set_option linter.unusedVariables false

/-- The best level of a tree, and the way to it. -/
theorem best_s {S : TS} : ∀ {t : Tr} {v : Nat}, Rep S.nd t v → t ≠ .nil → v ∈ t.hs ∧ ((S.nd v).be = 0 → t.hs.head? = some v) ∧ ((S.nd v).be ≠ 0 → ∃ l, Rep S.nd l (S.nd v).be ∧ l ≠ .nil ∧ l.hs.head? = t.hs.head? ∧ l.hs.length < t.hs.length ∧ ∀ a ∈ l.hs, a ∈ t.hs)
  | .nil, _, _, h => absurd rfl h
  | .node h l r, v, ⟨e, h0, h1, h2⟩, _ => by
    subst e
    refine ⟨by simp [Tr.hs], fun hb => ?_, fun hb => ⟨l, h1, ?_, ?_, ?_, fun a ha => by simp [Tr.hs, ha]⟩⟩
    · rw [hb] at h1; obtain rfl := rep_nil h1; rfl
    · rintro rfl; exact hb h1
    · cases l with
      | nil => exact absurd h1 hb
      | node a l' r' => simp [Tr.hs]
    · simp [Tr.hs]
def FrI_s (S : TS) (hd : Option Nat) (w0 : World) (k : Nat) (p : Value) (wr : World) : Prop := ∃ (t : Tr) (v : Nat), p = .int .i64 v ∧ Rep S.nd t v ∧ t ≠ .nil ∧ t.hs.head? = hd ∧ t.hs.length ≤ k ∧ (∀ a ∈ t.hs, a < 21) ∧ w0 = wr
set_option maxRecDepth 100000 in
set_option maxHeartbeats 400000 in
theorem front_s (b : Nat) (sd : Int) (seq : List Od) (w : World) (h : TreeAt 161 false w b sd seq) (hn : seq.length ≤ 20) :
    Calls Try.prog 104 #[.pointer (some ⟨b, 0, none⟩)] w fun e w' => e = .returned (frOf (quOf false seq)) ∧ Below w.heap.size w w' := by
  obtain ⟨S, t, hT, hi, hq, hlc⟩ := h
  have hou := tree_orders hi hq
  have hh21 : ∀ a ∈ t.hs, a < 21 := fun a ha => by have := (hi.range a ha).2; omega
  have HT := hide hT
  have hroot := hT.root
  have hbs := tm_lt hT
  by_cases hr0 : S.root = 0
  · have ht := hi.rep
    rw [hr0] at ht hroot
    obtain rfl := rep_nil ht
    have HF : Hid (frOf (quOf false seq) = .tuple #[zOdv, .bool false]) := by show _ = _; rw [← hou]; rfl
    clear hi hq hlc hou hT ht hh21
    go_enter Try.func104, Try.ntmps104
    go_wp2_with fail
    go_returns
    refine ⟨by rw [unhide HF]; rfl, ?_⟩
    go_grown
  · have hne : t ≠ .nil := by rintro rfl; exact hr0 hi.rep
    have HI := hide hi
    have HQ := hide hq
    have HOU := hide hou
    have HH := hide hh21
    have HNE := hide hne
    have hr0' : ¬ ((S.root : Int) = 0) := by omega
    clear hi hq hlc hou hT hh21 hne
    go_enter Try.func104, Try.ntmps104
    go_wp2_with fail
    go_loopg [4] (t.hs.length) (fun k p wr => FrI_s S t.hs.head? (w.alloc (Obj.cells #[.int .i64 0, .int .i64 0, .int .i64 0, .int .i64 0, .int .i64 0, .string ⟨#[]⟩] 93)) k p wr)
    case atStart => exact ⟨t, S.root, rfl, (unhide HI).rep, unhide HNE, rfl, Nat.le_refl _, unhide HH, rfl⟩
    case round =>
      obtain ⟨t1, v, rfl, h1, h2, h3, h4, h5, rfl⟩ := hrel
      obtain ⟨b1, b2, b3⟩ := best_s h1 h2
      have hv21 := h5 v b1
      have hv21' : (v : Int) < 21 := by omega
      have hTW := tm_block (unhide HT) (Below.heap_alloc w (Obj.cells #[.int .i64 0, .int .i64 0, .int .i64 0, .int .i64 0, .int .i64 0, .string ⟨#[]⟩] 93) b hbs)
      obtain ⟨-, -, -, -, n4, -, n6, -⟩ := nd_cells (hTW.nd v hv21)
      have H3 := hide h3
      have H4 := hide h4
      have H5 := hide h5
      by_cases hbe : (S.nd v).be = 0
      · have hhd := b2 hbe
        rw [h3] at hhd
        have hvm : v ∈ t.hs := List.mem_of_head? hhd
        have hQ := (unhide HQ).q v hvm
        obtain ⟨e, rest, hqs⟩ : ∃ e rest, qs seq (S.nd v).ticks = e :: rest := by
          cases hqq : qs seq (S.nd v).ticks with
          | nil => exact absurd hqq hQ.ne
          | cons e rest => exact ⟨e, rest, rfl⟩
        have hch := hQ.chain
        rw [hqs] at hch
        obtain ⟨he, he0, -⟩ := hch
        have he21 : e < 21 := by
          have := (qsF_mem (S.nd v).ticks seq 1 e (by have h : e ∈ qs seq (S.nd v).ticks := by rw [hqs]; simp
                                                      exact h)).2.1
          omega
        have he21' : (e : Int) < 21 := by omega
        have HF : Hid (frOf (quOf false seq) = .tuple #[(S.qo e).od.val, .bool true]) := by
          show _ = _
          rw [← unhide HOU]
          obtain ⟨tl, htl⟩ : ∃ tl, t.hs = v :: tl := by
            cases hh : t.hs with
            | nil => rw [hh] at hhd; simp at hhd
            | cons a r => rw [hh] at hhd; simp at hhd; rw [hhd]; exact ⟨r, rfl⟩
          rw [htl, List.flatMap_cons, hqs]
          rfl
        obtain ⟨q0, q1, q2, q3, q4, q5, -⟩ := qo_cells (hTW.qo e he21)
        rw [he] at n6
        rw [hbe] at n4
        clear h1 h2 h3 h4 h5 b1 b2 b3 hTW hhd hvm hQ hqs he hbe
        go_wp2_with fail
        go_region
        go_wp2_with fail
        go_returns
        refine ⟨by rw [unhide HF]; rfl, ?_⟩
        go_grown
      · obtain ⟨l, l1, l2, l3, l4, l5⟩ := b3 hbe
        have hbe' : ¬ (((S.nd v).be : Int) = 0) := by omega
        have HL : Hid (Rep S.nd l (S.nd v).be ∧ l ≠ .nil ∧ l.hs.head? = t1.hs.head? ∧ l.hs.length < t1.hs.length ∧ ∀ a ∈ l.hs, a ∈ t1.hs) := ⟨l1, l2, l3, l4, l5⟩
        clear h1 h2 h3 h4 h5 b1 b2 b3 hTW l1 l2 l3 l4 l5 hbe
        go_wp2_with fail
        go_roundg (l.hs.length)
        case measure => have := unhide H4; have := (unhide HL).2.2.2.1; omega
        case rel => exact ⟨l, _, rfl, (unhide HL).1, (unhide HL).2.1, (unhide HL).2.2.1.trans (unhide H3), Nat.le_refl _, fun a ha => unhide H5 a ((unhide HL).2.2.2.2 a ha), rfl⟩
end Go.Proofs.Yteljmhgpffekgaa
namespace Go.Proofs.Yteljmhgpffekgaa
open Go.RowKit
set_option linter.unusedVariables false

/-- The three methods of the tree in block b, bound. -/
def side_s (b : Nat) : Value := .agg #[.func (.func 104) #[.pointer (some ⟨b, 0, none⟩)] #[], .func (.func 105) #[.pointer (some ⟨b, 0, none⟩)] #[], .func (.func 106) #[.pointer (some ⟨b, 0, none⟩)] #[]]

theorem ask_s (b : Nat) (w : World) :
    Calls Try.prog 73 #[.pointer (some ⟨b, 0, none⟩)] w fun e w' => e = .returned (side_s b) ∧ Below w.heap.size w w' := by
  have hmf : ∀ (fn : Fn) (first cap : Array Value) (w : World), (Instr.makeFunc fn first cap).run Try.prog w = .ok (.func fn first cap) w := fun _ _ _ _ => rfl
  go_enter Try.func73, Try.ntmps73
  go_wp2_with fail
  go_returns
  refine ⟨rfl, ?_⟩
  go_grown
end Go.Proofs.Yteljmhgpffekgaa
