/-
  The handles of a tree's levels, the best first: proved by walking the function, which calls itself.
-/
import Derived.Test.YtadnjcgfoofjiaaLj11
namespace Go.Proofs.Ytadnjcgfoofjiaa
open Go.RowKit
set_option linter.unusedVariables false

theorem infoH_b : (Try.prog.info? 94).map (fun i => (i.zero, i.size, i.bytes)) = some (some (.int .i64 0), 1, 8) := by kernel_rfl
theorem cellsH_b (w : World) (cs : List Value) (t : TypeId) (j : Nat) (u : Value) (h : cs[j]? = some u) : (w.alloc (Obj.cells cs.toArray t)).cell? ((⟨w.heap.size, 0, none⟩ : Addr).add j) = some u := by
  rw [Addr.add_mid, cell_of_row _ w.heap.size (0 + j) cs.toArray t (0, 0) (heap_alloc_new w _)]
  simpa using h
def hval_b (h : Nat) : Value := .int .i64 h

set_option maxRecDepth 100000 in
set_option maxHeartbeats 400000 in
theorem ranked_b (S : TS) (b B : Nat) (hbB : b < B) : ∀ (t : Tr) (w : World) (v : Value) (done : List Nat) (part : Nat), TM 102 w b S → Rep S.nd t part → (∀ h ∈ t.hs, h < 21) → B ≤ w.heap.size →
    w.ownsRow B 94 1 v done.length (done.map hval_b) → done.length + t.hs.length ≤ 1000 →
    Calls Try.prog 68 #[.pointer (some ⟨b, 0, none⟩), v, .int .i64 part] w fun e w' =>
      ∃ v', e = .returned v' ∧ w'.ownsRow B 94 1 v' (done ++ t.hs).length ((done ++ t.hs).map hval_b) ∧ Below B w w'
  | .nil, w, v, done, part, hT, hrep, hh, hB, hown, hlen => by
    obtain rfl : part = 0 := hrep
    have HO := hide hown
    clear hown hT hh
    go_enter Try.func68, Try.ntmps68
    go_wp2_with fail
    go_ret
    exact ⟨v, rfl, by simpa [Tr.hs] using unhide HO, Below.refl _ _⟩
  | .node h l r, w, v, done, part, hT, hrep, hh, hB, hown, hlen => by
    obtain ⟨rfl, h0, hl, hr⟩ := hrep
    have HO := hide hown
    have HT := hide hT
    have HL := hide hl
    have HR := hide hr
    have hlen' : done.length + (l.hs.length + 1 + r.hs.length) ≤ 1000 := by simp [Tr.hs] at hlen; omega
    have h21 := hh part (by simp [Tr.hs])
    have HHL := hide (fun a (ha : a ∈ l.hs) => hh a (by simp [Tr.hs, ha]))
    have HHR := hide (fun a (ha : a ∈ r.hs) => hh a (by simp [Tr.hs, ha]))
    have h21' : (part : Int) < 21 := by omega
    have h0' : ¬ ((part : Int) = 0) := by omega
    have HLEN := hide hlen'
    obtain ⟨-, -, -, -, n4, -⟩ := nd_cells (hT.nd part h21)
    obtain ⟨i0, hi, hz0, hz1, hz2⟩ := info_parts infoH_b
    clear hown hT hh hl hr hlen hlen'
    go_enter Try.func68, Try.ntmps68
    go_wp2_with fail
    refine (ranked_b S b B hbB l w v done _ (unhide HT) (unhide HL) (unhide HHL) hB (unhide HO) (by have := unhide HLEN; omega)).mono ?_
    rintro e w1 ⟨v1, rfl, ho1, hb1⟩
    have HO1 := hide ho1
    have HB1 := hide hb1
    have hsz1 := hb1.size
    have hla : (done ++ l.hs).length ≤ 999 := by have := unhide HLEN; rw [List.length_append]; omega
    obtain ⟨-, -, -, -, -, n5, -⟩ := nd_cells ((tm_below (unhide HT) hb1 hbB).nd part h21)
    clear ho1 hb1 n4
    go_wp2_with (at_builtin; go_must (refine wpList_append_own _ rfl _ _ 106 rfl B 94 i0 _ 1 8 Try.underlying106 hi hz0 hz1 hz2 rfl (by decide) v1 (done ++ l.hs).length ((done ++ l.hs).map hval_b) rfl ((unhide HO1).alloc _) ⟨w1.heap.size, 0, none⟩ 1 1 [hval_b part] rfl rfl (cellsH_b w1 _ _) (by simp [Value.oneCell', hval_b]) (by unfold maxLen; omega) (by omega) (by simp at hla ⊢; omega) ?_); intro v2 w2 hown2 hg2 _; have HO2 := hide hown2; have HB2 := hide (((unhide HB1).alloc (Nat.le_trans hB hsz1) _).grown hg2 (by rw [size_made]; omega) (fun k hk => ((unhide HO1).lt k hk).1)); have m5 := (nd_cells ((tm_below (unhide HT) (unhide HB2) hbB).nd part h21)).2.2.2.2.2.1; clear hown2 hg2 n5)
    have hsz2 := (unhide HB2).size
    refine (ranked_b S b B hbB r w2 v2 (done ++ l.hs ++ [part]) _ (tm_below (unhide HT) (unhide HB2) hbB) (unhide HR) (unhide HHR) (by omega) (by simpa [Nat.add_assoc] using unhide HO2) (by have := unhide HLEN; simp; omega)).mono ?_
    rintro e w3 ⟨v3, rfl, ho3, hb3⟩
    have HO3 := hide ho3
    have HB3 := hide ((unhide HB2).trans hb3)
    clear ho3 hb3 m5
    go_wp2_with fail
    go_ret
    exact ⟨v3, rfl, by simpa [Tr.hs] using unhide HO3, unhide HB3⟩
end Go.Proofs.Ytadnjcgfoofjiaa
