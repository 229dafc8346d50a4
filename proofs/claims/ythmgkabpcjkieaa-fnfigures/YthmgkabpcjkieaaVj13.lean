/-
  The tree of a side's orders, planted: proved by walking the function.
-/
import Derived.Test.YthmgkabpcjkieaaVj08
import Derived.Test.YthmgkabpcjkieaaVj12
import Derived.Laws.EntriesVeiled
namespace Go.Proofs.Ythmgkabpcjkieaa
open Go.RowKit
set_option linter.unusedVariables false

theorem zNd_s : ∀ i, i < 21 → (Try.zeroCells124.toList.drop (2 + i * 8)).take 8 = zNd.vs
  | 0, _ => by kernel_rfl
  | 1, _ => by kernel_rfl
  | 2, _ => by kernel_rfl
  | 3, _ => by kernel_rfl
  | 4, _ => by kernel_rfl
  | 5, _ => by kernel_rfl
  | 6, _ => by kernel_rfl
  | 7, _ => by kernel_rfl
  | 8, _ => by kernel_rfl
  | 9, _ => by kernel_rfl
  | 10, _ => by kernel_rfl
  | 11, _ => by kernel_rfl
  | 12, _ => by kernel_rfl
  | 13, _ => by kernel_rfl
  | 14, _ => by kernel_rfl
  | 15, _ => by kernel_rfl
  | 16, _ => by kernel_rfl
  | 17, _ => by kernel_rfl
  | 18, _ => by kernel_rfl
  | 19, _ => by kernel_rfl
  | 20, _ => by kernel_rfl
  | n + 21, h => absurd h (by omega)
theorem zQo_s : ∀ i, i < 21 → (Try.zeroCells124.toList.drop (171 + i * 7)).take 7 = zQo.vs
  | 0, _ => by kernel_rfl
  | 1, _ => by kernel_rfl
  | 2, _ => by kernel_rfl
  | 3, _ => by kernel_rfl
  | 4, _ => by kernel_rfl
  | 5, _ => by kernel_rfl
  | 6, _ => by kernel_rfl
  | 7, _ => by kernel_rfl
  | 8, _ => by kernel_rfl
  | 9, _ => by kernel_rfl
  | 10, _ => by kernel_rfl
  | 11, _ => by kernel_rfl
  | 12, _ => by kernel_rfl
  | 13, _ => by kernel_rfl
  | 14, _ => by kernel_rfl
  | 15, _ => by kernel_rfl
  | 16, _ => by kernel_rfl
  | 17, _ => by kernel_rfl
  | 18, _ => by kernel_rfl
  | 19, _ => by kernel_rfl
  | 20, _ => by kernel_rfl
  | n + 21, h => absurd h (by omega)
theorem zTree_s (w : World) (sd : Int) : TreeAt 124 false (w.alloc (Obj.cells Try.zeroCells124 124)) w.heap.size sd [] :=
  ⟨zTS, .nil, tm_zero w _ _ (by kernel_rfl) (by kernel_rfl) zNd_s (by kernel_rfl) zQo_s, ti_zero _, qi_zero _, Nat.le_refl _⟩
set_option maxRecDepth 100000 in
set_option maxHeartbeats 400000 in
theorem plant_s (v : Value) (l : List Od) (sd : Int) (w : World) (hr : RdR Od.vs 6 w v l) (hn : l.length ≤ 20) (hl : ∀ o' ∈ l, 0 ≤ o'.left ∧ o'.left ≤ 1000000) :
    Calls Try.prog 36 #[v, .int .i64 sd] w fun e w' =>
      e = .returned (.pointer (some ⟨w.heap.size, 0, none⟩)) ∧ TreeAt 124 false w' w.heap.size sd (ofSide l sd) ∧ Below w.heap.size w w' := by
  obtain ⟨a, cap, rfl, hlen, hc⟩ := hr
  have hcell : ∀ (k : Nat) (c : Od), l[k]? = some c → ∃ b off, a = some ⟨b, off, none⟩ ∧ b < w.heap.size ∧ w.rangeAt b (off + k * 6) c.vs := by
    intro k c hk
    obtain ⟨b, off, h1, h2, h3⟩ := hc (by intro h; rw [h] at hk; simp at hk)
    exact ⟨b, off, h1, h2, h3 k c hk⟩
  have HC := hide hcell
  have HL := hide hl
  have HN := hide hn
  clear hcell hc hl
  have HZ := hide (zTree_s w sd)
  have HB0 : Hid (Below w.heap.size w (w.alloc (Obj.cells Try.zeroCells124 124))) := (Below.refl _ _).alloc (Nat.le_refl _) _
  go_enter Try.func36, Try.ntmps36
  go_wp2_with fail
  generalize (w.alloc (Obj.cells Try.zeroCells124 124)) = W0 at HZ HB0 ⊢
  go_loopw [11] (fun i wr => ∃ k : Nat, k ≤ l.length ∧ i = .int .i64 k ∧ TreeAt 124 false wr w.heap.size sd (ofSide (l.take k) sd) ∧ Below w.heap.size w wr) (fun i _ => l.length - (intOf i).toNat)
  case atStart => exact ⟨0, Nat.zero_le _, rfl, unhide HZ, unhide HB0⟩
  case round =>
    obtain ⟨k, hk, rfl, htr, hbel⟩ := hrel
    have HTR := hide htr
    have HBE := hide hbel
    clear htr hbel HZ HB0
    by_cases hlt : k < l.length
    · obtain ⟨c, hkc⟩ : ∃ c, l[k]? = some c := ⟨_, List.getElem?_eq_getElem hlt⟩
      have HKC := hide hkc
      obtain ⟨b, off, rfl, hb, hcl⟩ := unhide HC k c hkc
      obtain ⟨g0, g1, g2, g3, g4, g5⟩ := od_cells (range_below hcl (unhide HBE) hb)
      have hlt' : (k : Int) < l.length := by omega
      clear hkc hcl hb
      by_cases hsd : c.side = sd
      · have HIT : Hid (ofSide (l.take (k + 1)) c.side = ofSide (l.take k) c.side ++ [c]) := ofSide_snoc l k c (unhide HKC)
        subst hsd
        have hlk : (ofSide (l.take k) c.side).length < 20 := by
          have h1 : (ofSide (l.take k) c.side).length ≤ (l.take k).length := List.length_filter_le _ _
          have h2 : (l.take k).length ≤ k := List.length_take_le _ _
          have h3 := unhide HN
          omega
        have HLK := hide hlk
        have hcl := unhide HL c (List.mem_of_getElem? (unhide HKC))
        have HCL := hide hcl
        clear hlk hcl
        go_wp2_with fail
        refine (add_s w.heap.size c.side (ofSide (l.take k) c.side) c _ (treeAt_block (unhide HTR) (Below.heap_alloc wr _ _ (treeAt_lt (unhide HTR)))) rfl (unhide HLK) (fun o' ho' => unhide HL o' (List.mem_of_mem_take (List.mem_filter.1 ho').1)) (unhide HCL)).mono ?_
        rintro e w2 ⟨rfl, htr2, hg2⟩
        rw [← unhide HIT] at htr2
        have HTR2 := hide htr2
        have HB2 := hide (((unhide HBE).alloc (unhide HBE).size _).grown hg2 (by rw [size_made]; have := (unhide HBE).size; omega) (fun g hg => by obtain rfl := Option.some.inj hg; exact Nat.le_refl _))
        clear htr2 hg2
        go_wp2_with fail
        go_roundw
        case rel => exact ⟨k + 1, by omega, by go_num, unhide HTR2, unhide HB2⟩
        case measure => simp [intOf]; omega
      · have HIT : Hid (ofSide (l.take (k + 1)) sd = ofSide (l.take k) sd) := ofSide_skip l k c (unhide HKC) hsd
        go_wp2_with fail
        go_roundw
        case rel =>
          refine ⟨k + 1, by omega, by go_num, ?_, ?_⟩
          · rw [unhide HIT]; exact treeAt_block (unhide HTR) (Below.heap_alloc wr _ _ (treeAt_lt (unhide HTR)))
          · exact (unhide HBE).alloc (unhide HBE).size _
        case measure => simp [intOf]; omega
    · go_wp2_with fail
      go_ret
      have h := unhide HTR
      rw [List.take_of_length_le (by omega)] at h
      exact ⟨rfl, h, unhide HBE⟩
end Go.Proofs.Ythmgkabpcjkieaa
namespace Go.Proofs.Ythmgkabpcjkieaa
open Go.RowKit
set_option linter.unusedVariables false

theorem infoH_s : (Try.prog.info? 113).map (fun i => (i.zero, i.size, i.bytes)) = some (some (.int .i64 0), 1, 8) := by kernel_rfl
theorem cellsH_s (w : World) (cs : List Value) (t : TypeId) (j : Nat) (u : Value) (h : cs[j]? = some u) : (w.alloc (Obj.cells cs.toArray t)).cell? ((⟨w.heap.size, 0, none⟩ : Addr).add j) = some u := by
  rw [Addr.add_mid, cell_of_row _ w.heap.size (0 + j) cs.toArray t (0, 0) (heap_alloc_new w _)]
  simpa using h
def hval_s (h : Nat) : Value := .int .i64 h
set_option maxRecDepth 100000 in
set_option maxHeartbeats 400000 in
theorem ranked_s (S : TS) (b B : Nat) (hbB : b < B) : ∀ (t : Tr) (w : World) (v : Value) (done : List Nat) (part : Nat), TM 124 w b S → Rep S.nd t part → (∀ h ∈ t.hs, h < 21) → B ≤ w.heap.size →
    w.ownsRow B 113 1 v done.length (done.map hval_s) → done.length + t.hs.length ≤ 1000 →
    Calls Try.prog 82 #[.pointer (some ⟨b, 0, none⟩), v, .int .i64 part] w fun e w' =>
      ∃ v', e = .returned v' ∧ w'.ownsRow B 113 1 v' (done ++ t.hs).length ((done ++ t.hs).map hval_s) ∧ Below B w w'
  | .nil, w, v, done, part, hT, hrep, hh, hB, hown, hlen => by
    obtain rfl : part = 0 := hrep
    have HO := hide hown
    clear hown hT hh
    go_enter Try.func82, Try.ntmps82
    go_wp2_with fail
    go_ret
    exact ⟨v, rfl, by simpa [Tr.hs] using unhide HO, Below.refl _ _⟩
  | .node h l r, w, v, done, part, hT, hrep, hh, hB, hown, hlen => by
    obtain ⟨rfl, h0, hl, hr⟩ := hrep
    have HO := hide hown
    have HT := hide hT
    have HL := hide hl
    have HR := hide hr
    have hlen' : done.length + (l.hs.length + 1 + r.hs.length) ≤ 1000 := by simp [Tr.hs] at hlen; omega
    have h21 := hh part (by simp [Tr.hs])
    have HHL := hide (fun a (ha : a ∈ l.hs) => hh a (by simp [Tr.hs, ha]))
    have HHR := hide (fun a (ha : a ∈ r.hs) => hh a (by simp [Tr.hs, ha]))
    have h21' : (part : Int) < 21 := by omega
    have h0' : ¬ ((part : Int) = 0) := by omega
    have HLEN := hide hlen'
    obtain ⟨-, -, -, -, n4, -⟩ := nd_cells (hT.nd part h21)
    obtain ⟨i0, hi, hz0, hz1, hz2⟩ := info_parts infoH_s
    clear hown hT hh hl hr hlen hlen'
    go_enter Try.func82, Try.ntmps82
    go_wp2_with fail
    refine (ranked_s S b B hbB l w v done _ (unhide HT) (unhide HL) (unhide HHL) hB (unhide HO) (by have := unhide HLEN; omega)).mono ?_
    rintro e w1 ⟨v1, rfl, ho1, hb1⟩
    have HO1 := hide ho1
    have HB1 := hide hb1
    have hsz1 := hb1.size
    have hla : (done ++ l.hs).length ≤ 999 := by have := unhide HLEN; rw [List.length_append]; omega
    obtain ⟨-, -, -, -, -, n5, -⟩ := nd_cells ((tm_below (unhide HT) hb1 hbB).nd part h21)
    clear ho1 hb1 n4
    go_wp2_with (at_builtin; go_must (refine wpList_append_own _ rfl _ _ 134 rfl B 113 i0 _ 1 8 Try.underlying134 hi hz0 hz1 hz2 rfl (by decide) v1 (done ++ l.hs).length ((done ++ l.hs).map hval_s) rfl ((unhide HO1).alloc _) ⟨w1.heap.size, 0, none⟩ 1 1 [hval_s part] rfl rfl (cellsH_s w1 _ _) (by simp [Value.oneCell', hval_s]) (by unfold maxLen; omega) (by omega) (by simp at hla ⊢; omega) ?_); intro v2 w2 hown2 hg2 _; have HO2 := hide hown2; have HB2 := hide (((unhide HB1).alloc (Nat.le_trans hB hsz1) _).grown hg2 (by rw [size_made]; omega) (fun k hk => ((unhide HO1).lt k hk).1)); have m5 := (nd_cells ((tm_below (unhide HT) (unhide HB2) hbB).nd part h21)).2.2.2.2.2.1; clear hown2 hg2 n5)
    have hsz2 := (unhide HB2).size
    refine (ranked_s S b B hbB r w2 v2 (done ++ l.hs ++ [part]) _ (tm_below (unhide HT) (unhide HB2) hbB) (unhide HR) (unhide HHR) (by omega) (by simpa [Nat.add_assoc] using unhide HO2) (by have := unhide HLEN; simp; omega)).mono ?_
    rintro e w3 ⟨v3, rfl, ho3, hb3⟩
    have HO3 := hide ho3
    have HB3 := hide ((unhide HB2).trans hb3)
    clear ho3 hb3 m5
    go_wp2_with fail
    go_ret
    exact ⟨v3, rfl, by simpa [Tr.hs] using unhide HO3, unhide HB3⟩
end Go.Proofs.Ythmgkabpcjkieaa
namespace Go.Proofs.Ythmgkabpcjkieaa
open Go.RowKit
set_option linter.unusedVariables false

theorem infoLv_s : (Try.prog.info? 91).map (fun i => (i.zero, i.size, i.bytes)) = some (some (.agg #[.int .i64 0, .int .i64 0, .int .i64 0, .int .i64 0]), 4, 32) := by kernel_rfl
theorem takeR_s {α : Type} (l : List α) (k : Nat) (c : α) (h : l[k]? = some c) : l.take (k + 1) = l.take k ++ [c] := by
  obtain ⟨hk, rfl⟩ := List.getElem?_eq_some_iff.1 h
  rw [List.take_succ_eq_append_getElem hk]
theorem rowBase_s {W : World} {B B' : Nat} {e : TypeId} {sz : Nat} {v : Value} {n : Nat} {xs : List Value} (h : W.ownsRow B e sz v n xs) (hB : B' ≤ B) : W.ownsRow B' e sz v n xs :=
  ⟨h.1, by
    rcases h.2 with h1 | ⟨g', c', cur, h1, h2, h3⟩
    · exact .inl h1
    · exact .inr ⟨g', c', cur, h1, Nat.le_trans hB h2, h3⟩⟩
theorem flat1_s (l : List Nat) : (l.flatMap fun h => [hval_s h]) = l.map hval_s := by
  induction l with
  | nil => rfl
  | cons a r ih => rw [List.flatMap_cons, ih]; rfl
set_option maxRecDepth 100000 in
set_option maxHeartbeats 400000 in
theorem levelsO_s (b : Nat) (sd : Int) (seq : List Od) (w : World) (h : TreeAt 124 false w b sd seq) (hn : seq.length ≤ 20) :
    Calls Try.prog 67 #[.pointer (some ⟨b, 0, none⟩)] w fun e w' =>
      ∃ v', e = .returned v' ∧ w'.ownsRow w.heap.size 91 4 v' (lvsOf false sd seq).length ((lvsOf false sd seq).flatMap Lv.vs) ∧ Below w.heap.size w w' := by
  obtain ⟨S, t, hT, hi, hq, hlc⟩ := h
  have hlv := tree_levels hi hq
  rw [← hlv]
  have hh21 : ∀ a ∈ t.hs, a < 21 := fun a ha => by have := (hi.range a ha).2; omega
  have hlen : t.hs.length ≤ 20 := by rw [hi.len]; omega
  have HT := hide hT
  have HR := hide hi.rep
  have HH := hide hh21
  have hroot := hT.root
  have hbs := tm_lt hT
  generalize ht : t.hs = hs at *
  have HHS := hide ht
  have HNIL := hide (World.ownsRow_nil w w.heap.size 113 1)
  obtain ⟨i0, hi0, hz0, hz1, hz2⟩ := info_parts infoLv_s
  clear hi hq hlc hlv hT hh21 ht
  go_enter Try.func67, Try.ntmps67
  go_wp2_with fail
  refine (ranked_s S b w.heap.size hbs t w _ [] S.root (unhide HT) (unhide HR) (by rw [unhide HHS]; exact unhide HH) (Nat.le_refl _) (unhide HNIL) (by rw [unhide HHS]; simp; omega)).mono ?_
  rintro e w1 ⟨v1, rfl, ho1, hb1⟩
  rw [List.nil_append, unhide HHS] at ho1
  have HB1 := hide hb1
  have HOR := hide (ownR_row (f := fun h => [hval_s h]) (fun _ => rfl) (by omega) (show w1.ownsRow w.heap.size 113 1 v1 hs.length (hs.flatMap fun h => [hval_s h]) by rw [flat1_s]; exact ho1))
  obtain ⟨a, cap, rfl, _, hc⟩ := unhide HOR
  have hcell : ∀ k h, hs[k]? = some h → ∃ g, a = some ⟨g, 0, none⟩ ∧ g < w1.heap.size ∧ w1.cell? ⟨g, 0 + k * 1 + 0, none⟩ = some (.int .i64 (h : Nat)) := fun k h hk => by
    obtain ⟨g, h1, _, h3, h4, _⟩ := hc (by intro e; rw [e] at hk; simp at hk)
    exact ⟨g, h1, h3, h4 k h hk 0 _ rfl⟩
  have HC := hide hcell
  clear ho1 hb1 hc hcell hroot
  go_wp2_with fail
  have hb1 := (unhide HB1).size
  go_loopw [3, 13] (fun ov iv wr => ∃ (k : Nat) (done : List Lv), k ≤ hs.length ∧ iv = .int .i64 k ∧ Hid (done = (hs.map fun h => (S.nd h).lv).take k) ∧ wr.ownsRow w1.heap.size 91 4 ov done.length (done.flatMap Lv.vs) ∧ Below w1.heap.size w1 wr) (fun _ iv _ => hs.length - (intOf iv).toNat)
  case atStart => exact ⟨0, [], Nat.zero_le _, rfl, by simp [Hid], World.ownsRow_nil _ _ _ _, Below.refl _ _⟩
  case round =>
    obtain ⟨k, done, hk, rfl, hd, hown, hbel⟩ := hrel
    have HOW := hide hown
    have HB := hide hbel
    have hdl : done.length = k := by rw [unhide hd, List.length_take, List.length_map]; omega
    clear hown hbel
    by_cases hlt : k < hs.length
    · obtain ⟨h, hkh⟩ : ∃ h, hs[k]? = some h := ⟨_, List.getElem?_eq_getElem hlt⟩
      have HKC : Hid ((hs.map fun h => (S.nd h).lv)[k]? = some (S.nd h).lv) := by show _ = _; rw [List.getElem?_map, hkh]; rfl
      obtain ⟨g, rfl, hg, hcl⟩ := unhide HC k h hkh
      have h21 := unhide HH h (List.mem_of_getElem? hkh)
      have h21' : (h : Int) < 21 := by omega
      have hcl' := ((unhide HB).cell (p := ⟨g, 0 + k * 1 + 0, none⟩) hg).trans hcl
      rw [show 0 + k * 1 + 0 = k by omega] at hcl'
      have hTr := tm_below (unhide HT) ((unhide HB1).trans ((unhide HB).mono hb1)) hbs
      obtain ⟨n0, n1, n2, n3, -⟩ := nd_cells (hTr.nd h h21)
      have hlt' : (k : Int) < hs.length := by omega
      have hsr := (unhide HB).size
      clear hkh hcl hTr hg
      go_wp2_with (at_builtin; go_must (refine wpList_append_own _ rfl _ _ 89 rfl w1.heap.size 91 i0 _ 4 32 Try.underlying89 hi0 hz0 hz1 hz2 rfl (by decide) _ done.length (done.flatMap Lv.vs) rfl ((unhide HOW).alloc _) ⟨wr.heap.size, 0, none⟩ 1 1 (S.nd h).lv.vs rfl rfl (cellsH_s wr _ _) (by simp [Value.oneCell', Lv.vs, Nd.lv]) (by unfold maxLen; omega) (by omega) (by simp; omega) ?_); intro v4 w4 hown4 hg4 _)
      go_roundw
      case rel =>
        refine ⟨k + 1, done ++ [(S.nd h).lv], by omega, by go_num, ?_, ?_, ?_⟩
        · show done ++ [(S.nd h).lv] = _
          rw [takeR_s _ k _ (unhide HKC), ← unhide hd]
        · simpa using hown4
        · exact ((unhide HB).alloc hsr _).grown hg4 (by simp; omega) fun k hk => ((unhide HOW).lt k hk).1
      case measure => simp [intOf]; omega
    · go_wp2_with fail
      go_ret
      have h := unhide hd
      rw [List.take_of_length_le (by rw [List.length_map]; omega)] at h
      subst h
      exact ⟨_, rfl, rowBase_s (unhide HOW) hb1, (unhide HB1).trans ((unhide HB).mono hb1)⟩
theorem levels_s (b : Nat) (sd : Int) (seq : List Od) (w : World) (h : TreeAt 124 false w b sd seq) (hn : seq.length ≤ 20) :
    Calls Try.prog 67 #[.pointer (some ⟨b, 0, none⟩)] w fun e w' =>
      ∃ v', e = .returned v' ∧ OwnR Lv.vs 4 w.heap.size w' v' (lvsOf false sd seq) ∧ Below w.heap.size w w' := by
  have hlen : (lvsOf false sd seq).length ≤ 20 := by
    obtain ⟨S, t, hT, hi, hq, hlc⟩ := h
    rw [← tree_levels hi hq, List.length_map, hi.len]; omega
  refine (levelsO_s b sd seq w h hn).mono ?_
  rintro e w' ⟨v', rfl, ho, hb⟩
  exact ⟨v', rfl, ownR_row Lv.len (by omega) ho, hb⟩
end Go.Proofs.Ythmgkabpcjkieaa
namespace Go.Proofs.Ythmgkabpcjkieaa
open Go.RowKit
set_option linter.unusedVariables false

/-- The best level of a tree, and the way to it. -/
theorem best_s {S : TS} : ∀ {t : Tr} {v : Nat}, Rep S.nd t v → t ≠ .nil → v ∈ t.hs ∧ ((S.nd v).be = 0 → t.hs.head? = some v) ∧ ((S.nd v).be ≠ 0 → ∃ l, Rep S.nd l (S.nd v).be ∧ l ≠ .nil ∧ l.hs.head? = t.hs.head? ∧ l.hs.length < t.hs.length ∧ ∀ a ∈ l.hs, a ∈ t.hs)
  | .nil, _, _, h => absurd rfl h
  | .node h l r, v, ⟨e, h0, h1, h2⟩, _ => by
    subst e
    refine ⟨by simp [Tr.hs], fun hb => ?_, fun hb => ⟨l, h1, ?_, ?_, ?_, fun a ha => by simp [Tr.hs, ha]⟩⟩
    · rw [hb] at h1; obtain rfl := rep_nil h1; rfl
    · rintro rfl; exact hb h1
    · cases l with
      | nil => exact absurd h1 hb
      | node a l' r' => simp [Tr.hs]
    · simp [Tr.hs]
def FrI_s (S : TS) (hd : Option Nat) (w0 : World) (k : Nat) (p : Value) (wr : World) : Prop := ∃ (t : Tr) (v : Nat), p = .int .i64 v ∧ Rep S.nd t v ∧ t ≠ .nil ∧ t.hs.head? = hd ∧ t.hs.length ≤ k ∧ (∀ a ∈ t.hs, a < 21) ∧ w0 = wr
set_option maxRecDepth 100000 in
set_option maxHeartbeats 400000 in
theorem front_s (b : Nat) (sd : Int) (seq : List Od) (w : World) (h : TreeAt 124 false w b sd seq) (hn : seq.length ≤ 20) :
    Calls Try.prog 65 #[.pointer (some ⟨b, 0, none⟩)] w fun e w' => e = .returned (frOf (quOf false seq)) ∧ Below w.heap.size w w' := by
  obtain ⟨S, t, hT, hi, hq, hlc⟩ := h
  have hou := tree_orders hi hq
  have hh21 : ∀ a ∈ t.hs, a < 21 := fun a ha => by have := (hi.range a ha).2; omega
  have HT := hide hT
  have hroot := hT.root
  have hbs := tm_lt hT
  by_cases hr0 : S.root = 0
  · have ht := hi.rep
    rw [hr0] at ht hroot
    obtain rfl := rep_nil ht
    have HF : Hid (frOf (quOf false seq) = .tuple #[zOdv, .bool false]) := by show _ = _; rw [← hou]; rfl
    clear hi hq hlc hou hT ht hh21
    go_enter Try.func65, Try.ntmps65
    go_wp2_with fail
    go_returns
    refine ⟨by rw [unhide HF]; rfl, ?_⟩
    go_grown
  · have hne : t ≠ .nil := by rintro rfl; exact hr0 hi.rep
    have HI := hide hi
    have HQ := hide hq
    have HOU := hide hou
    have HH := hide hh21
    have HNE := hide hne
    have hr0' : ¬ ((S.root : Int) = 0) := by omega
    clear hi hq hlc hou hT hh21 hne
    go_enter Try.func65, Try.ntmps65
    go_wp2_with fail
    go_loopg [4] (t.hs.length) (fun k p wr => FrI_s S t.hs.head? (w.alloc (Obj.cells #[.int .i64 0, .int .i64 0, .int .i64 0, .int .i64 0, .int .i64 0, .string ⟨#[]⟩] 61)) k p wr)
    case atStart => exact ⟨t, S.root, rfl, (unhide HI).rep, unhide HNE, rfl, Nat.le_refl _, unhide HH, rfl⟩
    case round =>
      obtain ⟨t1, v, rfl, h1, h2, h3, h4, h5, rfl⟩ := hrel
      obtain ⟨b1, b2, b3⟩ := best_s h1 h2
      have hv21 := h5 v b1
      have hv21' : (v : Int) < 21 := by omega
      have hTW := tm_block (unhide HT) (Below.heap_alloc w (Obj.cells #[.int .i64 0, .int .i64 0, .int .i64 0, .int .i64 0, .int .i64 0, .string ⟨#[]⟩] 61) b hbs)
      obtain ⟨-, -, -, -, n4, -, n6, -⟩ := nd_cells (hTW.nd v hv21)
      have H3 := hide h3
      have H4 := hide h4
      have H5 := hide h5
      by_cases hbe : (S.nd v).be = 0
      · have hhd := b2 hbe
        rw [h3] at hhd
        have hvm : v ∈ t.hs := List.mem_of_head? hhd
        have hQ := (unhide HQ).q v hvm
        obtain ⟨e, rest, hqs⟩ : ∃ e rest, qs seq (S.nd v).ticks = e :: rest := by
          cases hqq : qs seq (S.nd v).ticks with
          | nil => exact absurd hqq hQ.ne
          | cons e rest => exact ⟨e, rest, rfl⟩
        have hch := hQ.chain
        rw [hqs] at hch
        obtain ⟨he, he0, -⟩ := hch
        have he21 : e < 21 := by
          have := (qsF_mem (S.nd v).ticks seq 1 e (by have h : e ∈ qs seq (S.nd v).ticks := by rw [hqs]; simp
                                                      exact h)).2.1
          omega
        have he21' : (e : Int) < 21 := by omega
        have HF : Hid (frOf (quOf false seq) = .tuple #[(S.qo e).od.val, .bool true]) := by
          show _ = _
          rw [← unhide HOU]
          obtain ⟨tl, htl⟩ : ∃ tl, t.hs = v :: tl := by
            cases hh : t.hs with
            | nil => rw [hh] at hhd; simp at hhd
            | cons a r => rw [hh] at hhd; simp at hhd; rw [hhd]; exact ⟨r, rfl⟩
          rw [htl, List.flatMap_cons, hqs]
          rfl
        obtain ⟨q0, q1, q2, q3, q4, q5, -⟩ := qo_cells (hTW.qo e he21)
        rw [he] at n6
        rw [hbe] at n4
        clear h1 h2 h3 h4 h5 b1 b2 b3 hTW hhd hvm hQ hqs he hbe
        go_wp2_with fail
        go_region
        go_wp2_with fail
        go_returns
        refine ⟨by rw [unhide HF]; rfl, ?_⟩
        go_grown
      · obtain ⟨l, l1, l2, l3, l4, l5⟩ := b3 hbe
        have hbe' : ¬ (((S.nd v).be : Int) = 0) := by omega
        have HL : Hid (Rep S.nd l (S.nd v).be ∧ l ≠ .nil ∧ l.hs.head? = t1.hs.head? ∧ l.hs.length < t1.hs.length ∧ ∀ a ∈ l.hs, a ∈ t1.hs) := ⟨l1, l2, l3, l4, l5⟩
        clear h1 h2 h3 h4 h5 b1 b2 b3 hTW l1 l2 l3 l4 l5 hbe
        go_wp2_with fail
        go_roundg (l.hs.length)
        case measure => have := unhide H4; have := (unhide HL).2.2.2.1; omega
        case rel => exact ⟨l, _, rfl, (unhide HL).1, (unhide HL).2.1, (unhide HL).2.2.1.trans (unhide H3), Nat.le_refl _, fun a ha => unhide H5 a ((unhide HL).2.2.2.2 a ha), rfl⟩
end Go.Proofs.Ythmgkabpcjkieaa
namespace Go.Proofs.Ythmgkabpcjkieaa
open Go.RowKit
set_option linter.unusedVariables false

/-- The three methods of the tree in block b, bound. -/
def side_s (b : Nat) : Value := .agg #[.func (.func 65) #[.pointer (some ⟨b, 0, none⟩)] #[], .func (.func 66) #[.pointer (some ⟨b, 0, none⟩)] #[], .func (.func 67) #[.pointer (some ⟨b, 0, none⟩)] #[]]
theorem ask_s (b : Nat) (w : World) :
    Calls Try.prog 35 #[.pointer (some ⟨b, 0, none⟩)] w fun e w' => e = .returned (side_s b) ∧ Below w.heap.size w w' := by
  have hmf : ∀ (fn : Fn) (first cap : Array Value) (w : World), (Instr.makeFunc fn first cap).run Try.prog w = .ok (.func fn first cap) w := fun _ _ _ _ => rfl
  go_enter Try.func35, Try.ntmps35
  go_wp2_with fail
  go_returns
  refine ⟨rfl, ?_⟩
  go_grown
end Go.Proofs.Ythmgkabpcjkieaa
