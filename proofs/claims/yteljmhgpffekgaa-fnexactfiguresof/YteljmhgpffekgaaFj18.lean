/-
  The handles of a tree's levels, the best first: proved by walking the function, which calls itself.
-/
import Derived.Test.YteljmhgpffekgaaFj08
import Derived.Test.YteljmhgpffekgaaFj17
namespace Go.Proofs.Yteljmhgpffekgaa
open Go.RowKit
set_option linter.unusedVariables false

theorem infoH_b : (Try.prog.info? 150).map (fun i => (i.zero, i.size, i.bytes)) = some (some (.int .i64 0), 1, 8) := by kernel_rfl
theorem cellsH_b (w : World) (cs : List Value) (t : TypeId) (j : Nat) (u : Value) (h : cs[j]? = some u) : (w.alloc (Obj.cells cs.toArray t)).cell? ((⟨w.heap.size, 0, none⟩ : Addr).add j) = some u := by
  rw [Addr.add_mid, cell_of_row _ w.heap.size (0 + j) cs.toArray t (0, 0) (heap_alloc_new w _)]
  simpa using h
def hval_b (h : Nat) : Value := .int .i64 h

set_option maxRecDepth 100000 in
set_option maxHeartbeats 400000 in
theorem ranked_b (S : TS) (b B : Nat) (hbB : b < B) : ∀ (t : Tr) (w : World) (v : Value) (done : List Nat) (part : Nat), TM 158 w b S → Rep S.nd t part → (∀ h ∈ t.hs, h < 21) → B ≤ w.heap.size →
    w.ownsRow B 150 1 v done.length (done.map hval_b) → done.length + t.hs.length ≤ 1000 →
    Calls Try.prog 116 #[.pointer (some ⟨b, 0, none⟩), v, .int .i64 part] w fun e w' =>
      ∃ v', e = .returned v' ∧ w'.ownsRow B 150 1 v' (done ++ t.hs).length ((done ++ t.hs).map hval_b) ∧ Below B w w'
  | .nil, w, v, done, part, hT, hrep, hh, hB, hown, hlen => by
    obtain rfl : part = 0 := hrep
    have HO := hide hown
    clear hown hT hh
    go_enter Try.func116, Try.ntmps116
    go_wp2_with fail
    go_ret
    exact ⟨v, rfl, by simpa [Tr.hs] using unhide HO, Below.refl _ _⟩
  | .node h l r, w, v, done, part, hT, hrep, hh, hB, hown, hlen => by
    obtain ⟨rfl, h0, hl, hr⟩ := hrep
    have HO := hide hown
    have HT := hide hT
    have HL := hide hl
    have HR := hide hr
    have hlen' : done.length + (l.hs.length + 1 + r.hs.length) ≤ 1000 := by simp [Tr.hs] at hlen; omega
    have h21 := hh part (by simp [Tr.hs])
    have HHL := hide (fun a (ha : a ∈ l.hs) => hh a (by simp [Tr.hs, ha]))
    have HHR := hide (fun a (ha : a ∈ r.hs) => hh a (by simp [Tr.hs, ha]))
    have h21' : (part : Int) < 21 := by omega
    have h0' : ¬ ((part : Int) = 0) := by omega
    have HLEN := hide hlen'
    obtain ⟨-, -, -, -, n4, -⟩ := nd_cells (hT.nd part h21)
    obtain ⟨i0, hi, hz0, hz1, hz2⟩ := info_parts infoH_b
    clear hown hT hh hl hr hlen hlen'
    go_enter Try.func116, Try.ntmps116
    go_wp2_with fail
    refine (ranked_b S b B hbB l w v done _ (unhide HT) (unhide HL) (unhide HHL) hB (unhide HO) (by have := unhide HLEN; omega)).mono ?_
    rintro e w1 ⟨v1, rfl, ho1, hb1⟩
    have HO1 := hide ho1
    have HB1 := hide hb1
    have hsz1 := hb1.size
    have hla : (done ++ l.hs).length ≤ 999 := by have := unhide HLEN; rw [List.length_append]; omega
    obtain ⟨-, -, -, -, -, n5, -⟩ := nd_cells ((tm_below (unhide HT) hb1 hbB).nd part h21)
    clear ho1 hb1 n4
    go_wp2_with (at_builtin; go_must (refine wpList_append_own _ rfl _ _ 168 rfl B 150 i0 _ 1 8 Try.underlying168 hi hz0 hz1 hz2 rfl (by decide) v1 (done ++ l.hs).length ((done ++ l.hs).map hval_b) rfl ((unhide HO1).alloc _) ⟨w1.heap.size, 0, none⟩ 1 1 [hval_b part] rfl rfl (cellsH_b w1 _ _) (by simp [Value.oneCell', hval_b]) (by unfold maxLen; omega) (by omega) (by simp at hla ⊢; omega) ?_); intro v2 w2 hown2 hg2 _; have HO2 := hide hown2; have HB2 := hide (((unhide HB1).alloc (Nat.le_trans hB hsz1) _).grown hg2 (by rw [size_made]; omega) (fun k hk => ((unhide HO1).lt k hk).1)); have m5 := (nd_cells ((tm_below (unhide HT) (unhide HB2) hbB).nd part h21)).2.2.2.2.2.1; clear hown2 hg2 n5)
    have hsz2 := (unhide HB2).size
    refine (ranked_b S b B hbB r w2 v2 (done ++ l.hs ++ [part]) _ (tm_below (unhide HT) (unhide HB2) hbB) (unhide HR) (unhide HHR) (by omega) (by simpa [Nat.add_assoc] using unhide HO2) (by have := unhide HLEN; simp; omega)).mono ?_
    rintro e w3 ⟨v3, rfl, ho3, hb3⟩
    have HO3 := hide ho3
    have HB3 := hide ((unhide HB2).trans hb3)
    clear ho3 hb3 m5
    go_wp2_with fail
    go_ret
    exact ⟨v3, rfl, by simpa [Tr.hs] using unhide HO3, unhide HB3⟩
end Go.Proofs.Yteljmhgpffekgaa
namespace Go.Proofs.Yteljmhgpffekgaa
open Go.RowKit
set_option linter.unusedVariables false

theorem infoLv_b : (Try.prog.info? 125).map (fun i => (i.zero, i.size, i.bytes)) = some (some (.agg #[.int .i64 0, .int .i64 0, .int .i64 0, .int .i64 0]), 4, 32) := by kernel_rfl

theorem takeR_b {α : Type} (l : List α) (k : Nat) (c : α) (h : l[k]? = some c) : l.take (k + 1) = l.take k ++ [c] := by
  obtain ⟨hk, rfl⟩ := List.getElem?_eq_some_iff.1 h
  rw [List.take_succ_eq_append_getElem hk]
theorem rowBase_b {W : World} {B B' : Nat} {e : TypeId} {sz : Nat} {v : Value} {n : Nat} {xs : List Value} (h : W.ownsRow B e sz v n xs) (hB : B' ≤ B) : W.ownsRow B' e sz v n xs :=
  ⟨h.1, by
    rcases h.2 with h1 | ⟨g', c', cur, h1, h2, h3⟩
    · exact .inl h1
    · exact .inr ⟨g', c', cur, h1, Nat.le_trans hB h2, h3⟩⟩
theorem flat1_b (l : List Nat) : (l.flatMap fun h => [hval_b h]) = l.map hval_b := by
  induction l with
  | nil => rfl
  | cons a r ih => rw [List.flatMap_cons, ih]; rfl

set_option maxRecDepth 100000 in
set_option maxHeartbeats 400000 in
theorem levelsO_b (b : Nat) (sd : Int) (seq : List Od) (w : World) (h : TreeAt 158 true w b sd seq) (hn : seq.length ≤ 20) :
    Calls Try.prog 102 #[.pointer (some ⟨b, 0, none⟩)] w fun e w' =>
      ∃ v', e = .returned v' ∧ w'.ownsRow w.heap.size 125 4 v' (lvsOf true sd seq).length ((lvsOf true sd seq).flatMap Lv.vs) ∧ Below w.heap.size w w' := by
  obtain ⟨S, t, hT, hi, hq, hlc⟩ := h
  have hlv := tree_levels hi hq
  rw [← hlv]
  have hh21 : ∀ a ∈ t.hs, a < 21 := fun a ha => by have := (hi.range a ha).2; omega
  have hlen : t.hs.length ≤ 20 := by rw [hi.len]; omega
  have HT := hide hT
  have HR := hide hi.rep
  have HH := hide hh21
  have hroot := hT.root
  have hbs := tm_lt hT
  generalize ht : t.hs = hs at *
  have HHS := hide ht
  have HNIL := hide (World.ownsRow_nil w w.heap.size 150 1)
  obtain ⟨i0, hi0, hz0, hz1, hz2⟩ := info_parts infoLv_b
  clear hi hq hlc hlv hT hh21 ht
  go_enter Try.func102, Try.ntmps102
  go_wp2_with fail
  refine (ranked_b S b w.heap.size hbs t w _ [] S.root (unhide HT) (unhide HR) (by rw [unhide HHS]; exact unhide HH) (Nat.le_refl _) (unhide HNIL) (by rw [unhide HHS]; simp; omega)).mono ?_
  rintro e w1 ⟨v1, rfl, ho1, hb1⟩
  rw [List.nil_append, unhide HHS] at ho1
  have HB1 := hide hb1
  have HOR := hide (ownR_row (f := fun h => [hval_b h]) (fun _ => rfl) (by omega) (show w1.ownsRow w.heap.size 150 1 v1 hs.length (hs.flatMap fun h => [hval_b h]) by rw [flat1_b]; exact ho1))
  obtain ⟨a, cap, rfl, _, hc⟩ := unhide HOR
  have hcell : ∀ k h, hs[k]? = some h → ∃ g, a = some ⟨g, 0, none⟩ ∧ g < w1.heap.size ∧ w1.cell? ⟨g, 0 + k * 1 + 0, none⟩ = some (.int .i64 (h : Nat)) := fun k h hk => by
    obtain ⟨g, h1, _, h3, h4, _⟩ := hc (by intro e; rw [e] at hk; simp at hk)
    exact ⟨g, h1, h3, h4 k h hk 0 _ rfl⟩
  have HC := hide hcell
  clear ho1 hb1 hc hcell hroot
  go_wp2_with fail
  have hb1 := (unhide HB1).size
  go_loopw [3, 13] (fun ov iv wr => ∃ (k : Nat) (done : List Lv), k ≤ hs.length ∧ iv = .int .i64 k ∧ Hid (done = (hs.map fun h => (S.nd h).lv).take k) ∧ wr.ownsRow w1.heap.size 125 4 ov done.length (done.flatMap Lv.vs) ∧ Below w1.heap.size w1 wr) (fun _ iv _ => hs.length - (intOf iv).toNat)
  case atStart => exact ⟨0, [], Nat.zero_le _, rfl, by simp [Hid], World.ownsRow_nil _ _ _ _, Below.refl _ _⟩
  case round =>
    obtain ⟨k, done, hk, rfl, hd, hown, hbel⟩ := hrel
    have HOW := hide hown
    have HB := hide hbel
    have hdl : done.length = k := by rw [unhide hd, List.length_take, List.length_map]; omega
    clear hown hbel
    by_cases hlt : k < hs.length
    · obtain ⟨h, hkh⟩ : ∃ h, hs[k]? = some h := ⟨_, List.getElem?_eq_getElem hlt⟩
      have HKC : Hid ((hs.map fun h => (S.nd h).lv)[k]? = some (S.nd h).lv) := by show _ = _; rw [List.getElem?_map, hkh]; rfl
      obtain ⟨g, rfl, hg, hcl⟩ := unhide HC k h hkh
      have h21 := unhide HH h (List.mem_of_getElem? hkh)
      have h21' : (h : Int) < 21 := by omega
      have hcl' := ((unhide HB).cell (p := ⟨g, 0 + k * 1 + 0, none⟩) hg).trans hcl
      rw [show 0 + k * 1 + 0 = k by omega] at hcl'
      have hTr := tm_below (unhide HT) ((unhide HB1).trans ((unhide HB).mono hb1)) hbs
      obtain ⟨n0, n1, n2, n3, -⟩ := nd_cells (hTr.nd h h21)
      have hlt' : (k : Int) < hs.length := by omega
      have hsr := (unhide HB).size
      clear hkh hcl hTr hg
      go_wp2_with (at_builtin; go_must (refine wpList_append_own _ rfl _ _ 123 rfl w1.heap.size 125 i0 _ 4 32 Try.underlying123 hi0 hz0 hz1 hz2 rfl (by decide) _ done.length (done.flatMap Lv.vs) rfl ((unhide HOW).alloc _) ⟨wr.heap.size, 0, none⟩ 1 1 (S.nd h).lv.vs rfl rfl (cellsH_b wr _ _) (by simp [Value.oneCell', Lv.vs, Nd.lv]) (by unfold maxLen; omega) (by omega) (by simp; omega) ?_); intro v4 w4 hown4 hg4 _)
      go_roundw
      case rel =>
        refine ⟨k + 1, done ++ [(S.nd h).lv], by omega, by go_num, ?_, ?_, ?_⟩
        · show done ++ [(S.nd h).lv] = _
          rw [takeR_b _ k _ (unhide HKC), ← unhide hd]
        · simpa using hown4
        · exact ((unhide HB).alloc hsr _).grown hg4 (by simp; omega) fun k hk => ((unhide HOW).lt k hk).1
      case measure => simp [intOf]; omega
    · go_wp2_with fail
      go_ret
      have h := unhide hd
      rw [List.take_of_length_le (by rw [List.length_map]; omega)] at h
      subst h
      exact ⟨_, rfl, rowBase_b (unhide HOW) hb1, (unhide HB1).trans ((unhide HB).mono hb1)⟩
theorem levels_b (b : Nat) (sd : Int) (seq : List Od) (w : World) (h : TreeAt 158 true w b sd seq) (hn : seq.length ≤ 20) :
    Calls Try.prog 102 #[.pointer (some ⟨b, 0, none⟩)] w fun e w' =>
      ∃ v', e = .returned v' ∧ OwnR Lv.vs 4 w.heap.size w' v' (lvsOf true sd seq) ∧ Below w.heap.size w w' := by
  have hlen : (lvsOf true sd seq).length ≤ 20 := by
    obtain ⟨S, t, hT, hi, hq, hlc⟩ := h
    rw [← tree_levels hi hq, List.length_map, hi.len]; omega
  refine (levelsO_b b sd seq w h hn).mono ?_
  rintro e w' ⟨v', rfl, ho, hb⟩
  exact ⟨v', rfl, ownR_row Lv.len (by omega) ho, hb⟩
end Go.Proofs.Yteljmhgpffekgaa
