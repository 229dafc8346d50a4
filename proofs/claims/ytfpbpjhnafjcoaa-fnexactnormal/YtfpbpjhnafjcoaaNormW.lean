/-
  What the two functions that cut the tags of commands return, proved by walking them.
-/
import Derived.Test.YtfpbpjhnafjcoaaCmdW
import Derived.Test.YtfpbpjhnafjcoaaNormO
namespace Go.Proofs.Ytfpbpjhnafjcoaa
open Go.RowKit
set_option linter.unusedVariables false

/-- The list in normal form, and the code. -/
def normL (l : List Cm) : List Cm := if 4096 < l.length then [] else l.map nm
def normC (l : List Cm) : Int := if 4096 < l.length then 2 else 0

set_option maxRecDepth 100000 in
set_option maxHeartbeats 400000 in
theorem implNormal_any (v : Value) (l : List Cm) (w : World) (hr : RdR Cm.vs 8 w v l) (hg : ∀ c ∈ l, c.g.size ≤ maxLen) :
    Calls Try.prog 17 #[v] w fun e w' => ∃ v', e = .returned (.tuple #[v', .int .i64 (normC l)]) ∧ OwnR Cm.vs 8 w.heap.size w' v' (normL l) ∧ Below w.heap.size w w' := by
  obtain ⟨a, cap, rfl, hl, hc⟩ := hr
  obtain ⟨i0, hi, hz0, hz1, hz2⟩ := info_parts Try.infoCmd
  have hcell : ∀ (k : Nat) (c : Cm), l[k]? = some c → ∃ b off, a = some ⟨b, off, none⟩ ∧ b < w.heap.size ∧ w.rangeAt b (off + k * 8) c.vs ∧ c.g.size ≤ maxLen := by
    intro k c hk
    obtain ⟨b, off, h1, h2, h3⟩ := hc (by intro h; rw [h] at hk; simp at hk)
    exact ⟨b, off, h1, h2, h3 k c hk, hg c (List.mem_of_getElem? hk)⟩
  have HC := hide hcell
  clear hcell hc hg
  by_cases hlong : 4096 < l.length
  · have hlong' : (4096 : Int) < l.length := by omega
    have HL : Hid (normL l = [] ∧ normC l = 2) := ⟨if_pos hlong, if_pos hlong⟩
    go_enter Try.func17, Try.ntmps17
    go_wp2_with fail
    go_ret2
    exact ⟨_, by rw [(unhide HL).2]; rfl, by rw [(unhide HL).1]; exact ⟨none, 0, rfl, by simp, fun h => absurd rfl h⟩, Below.refl _ _⟩
  · have hlong' : ¬ ((4096 : Int) < l.length) := by omega
    have HL : Hid (normL l = l.map nm ∧ normC l = 0) := ⟨if_neg hlong, if_neg hlong⟩
    go_enter Try.func17, Try.ntmps17
    go_wp2_with (at_make; go_must (refine wpList_make_full _ rfl _ _ 33 rfl w.heap.size 60 i0 _ 8 Try.underlying33 hi hz0 hz1 _ _ _ _ l.length rfl rfl rfl rfl (by rw [hz2]; omega) (by unfold maxLen; omega) (Nat.le_refl _) ?_); intro w1 hown hgrow)
    have HA := hide (fill_made (f := Cm.vs) hown hgrow)
    clear hown hgrow hi hz0 hz1 hz2
    go_loopw [15] (fun i wr => ∃ k : Nat, k ≤ l.length ∧ i = .int .i64 k ∧ FillR Cm.vs 8 l.length w.heap.size w wr ((l.map nm).take k)) (fun i _ => l.length - (intOf i).toNat)
    case atStart => exact ⟨0, Nat.zero_le _, rfl, by simpa using unhide HA⟩
    case round =>
      obtain ⟨k, hk, rfl, harr⟩ := hrel
      have HF := hide harr
      clear harr HA
      by_cases hlt : k < l.length
      · obtain ⟨c, hkc⟩ : ∃ c, l[k]? = some c := ⟨_, List.getElem?_eq_getElem hlt⟩
        have HKC : Hid ((l.map nm)[k]? = some (nm c)) := by show (l.map nm)[k]? = _; rw [List.getElem?_map, hkc]; rfl
        obtain ⟨b, off, rfl, hb, hcl, hgs⟩ := unhide HC k c hkc
        obtain ⟨g0, g1, g2, g3, g4, g5, g6, g7⟩ := cm_cells (range_below hcl (unhide HF).2.2.2.2 hb)
        obtain ⟨⟨x0, y0, z0⟩, ⟨x1, y1, z1⟩, ⟨x2, y2, z2⟩, ⟨x3, y3, z3⟩, ⟨x4, y4, z4⟩, ⟨x5, y5, z5⟩, ⟨x6, y6, z6⟩, x7, y7, z7⟩ := there8 (fill_there (unhide HF) hlt)
        have hlt' : (k : Int) < l.length := by omega
        have hB := (unhide HF).1
        have HS := hide (fun W => implCut_any c.g W hgs)
        have hsf := sfl
        clear hkc hcl hb hgs
        go_wp2_with fail
        refine (unhide HS _).mono ?_
        rintro e w2 ⟨rfl, rfl⟩
        go_wp2_with fail
        go_roundw
        case rel =>
          refine ⟨k + 1, by omega, by go_num, ?_⟩
          have h := fill_step (nm c) (unhide HF) (by rw [List.length_take, List.length_map]; omega) Cm.len
          rw [← take_snocR _ k _ (unhide HKC), show ((l.map nm).take k).length = k by rw [List.length_take, List.length_map]; omega] at h
          exact fill_below h ((Below.refl _ _).alloc (Nat.le_refl _) _) (Nat.le_refl _)
        case measure => simp [intOf]; omega
      · go_wp2_with fail
        go_ret2
        have h := unhide HF
        rw [List.take_of_length_le (by rw [List.length_map]; omega)] at h
        exact ⟨_, by rw [(unhide HL).2]; rfl, by rw [(unhide HL).1]; exact fill_own h (by simp) hl, h.2.2.2.2⟩

theorem cells_new (w : World) (cs : List Value) (t : TypeId) (j : Nat) (u : Value) (h : cs[j]? = some u) : (w.alloc (Obj.cells cs.toArray t)).cell? ((⟨w.heap.size, 0, none⟩ : Addr).add j) = some u := by
  rw [Addr.add_mid, cell_of_row _ w.heap.size (0 + j) cs.toArray t (0, 0) (heap_alloc_new w _)]
  simpa using h

set_option maxRecDepth 100000 in
set_option maxHeartbeats 400000 in
theorem specNormal_any (v : Value) (l : List Cm) (w : World) (hr : RdR Cm.vs 8 w v l) (hg : ∀ c ∈ l, c.g.size ≤ maxLen) :
    Calls Try.prog 15 #[v] w fun e w' => ∃ v', e = .returned (.tuple #[v', .int .i64 (normC l)]) ∧ OwnR Cm.vs 8 w.heap.size w' v' (normL l) ∧ Below w.heap.size w w' := by
  obtain ⟨a, cap, rfl, hl, hc⟩ := hr
  obtain ⟨i0, hi, hz0, hz1, hz2⟩ := info_parts Try.infoCmd
  have hcell : ∀ (k : Nat) (c : Cm), l[k]? = some c → ∃ b off, a = some ⟨b, off, none⟩ ∧ b < w.heap.size ∧ w.rangeAt b (off + k * 8) c.vs ∧ c.g.size ≤ maxLen := by
    intro k c hk
    obtain ⟨b, off, h1, h2, h3⟩ := hc (by intro h; rw [h] at hk; simp at hk)
    exact ⟨b, off, h1, h2, h3 k c hk, hg c (List.mem_of_getElem? hk)⟩
  have HC := hide hcell
  clear hcell hc hg
  by_cases hlong : 4096 < l.length
  · have hlong' : (4096 : Int) < l.length := by omega
    have HL : Hid (normL l = [] ∧ normC l = 2) := ⟨if_pos hlong, if_pos hlong⟩
    go_enter Try.func15, Try.ntmps15
    go_wp2_with fail
    go_ret2
    exact ⟨_, by rw [(unhide HL).2]; rfl, by rw [(unhide HL).1]; exact ⟨_, 0, rfl, by simp, fun h => absurd rfl h⟩, by go_grown⟩
  · have hlong' : ¬ ((4096 : Int) < l.length) := by omega
    have HL : Hid (normL l = l.map nm ∧ normC l = 0) := ⟨if_neg hlong, if_neg hlong⟩
    have HO := hide (World.ownsRow_made (base := w.heap.size) (e := 60) (size := 8) w #[] 0 (Nat.le_refl _) (by decide) rfl)
    go_enter Try.func15, Try.ntmps15
    go_wp2_with fail
    go_loopw [4, 5] (fun ov iv wr => ∃ (k : Nat) (done : List Cm), k ≤ l.length ∧ iv = .int .i64 k ∧ Hid (done = (l.map nm).take k) ∧ wr.ownsRow w.heap.size 60 8 ov done.length (done.flatMap Cm.vs) ∧ Below w.heap.size w wr) (fun _ iv _ => l.length - (intOf iv).toNat)
    case atStart => exact ⟨0, [], Nat.zero_le _, rfl, by simp [Hid], unhide HO, (Below.refl _ _).alloc (Nat.le_refl _) _⟩
    case round =>
      obtain ⟨k, done, hk, rfl, hd, hown, hbel⟩ := hrel
      have HOW := hide hown
      have HB := hide hbel
      have hdl : done.length = k := by rw [unhide hd, List.length_take, List.length_map]; omega
      clear hown hbel HO
      by_cases hlt : k < l.length
      · obtain ⟨c, hkc⟩ : ∃ c, l[k]? = some c := ⟨_, List.getElem?_eq_getElem hlt⟩
        have HKC : Hid ((l.map nm)[k]? = some (nm c)) := by show (l.map nm)[k]? = _; rw [List.getElem?_map, hkc]; rfl
        obtain ⟨b, off, rfl, hb, hcl, hgs⟩ := unhide HC k c hkc
        obtain ⟨g0, g1, g2, g3, g4, g5, g6, g7⟩ := cm_cells (range_below hcl (unhide HB) hb)
        have hlt' : (k : Int) < l.length := by omega
        have HS := hide (fun W => l02Normal_any c W hgs)
        clear hkc hcl hb hgs
        go_wp2_with fail
        refine (unhide HS _).mono ?_
        rintro e w3 ⟨rfl, hb3⟩
        have HB3 := hide ((unhide HB).trans (hb3.mono (unhide HB).size))
        have HO3 := hide ((unhide HOW).kept (below_gr (G := none) hb3 (Nat.le_refl _)) (Classical.em _))
        clear hb3 g0 g1 g2 g3 g4 g5 g6 g7
        have hs3 := (unhide HB3).size
        go_wp2_with (at_builtin; go_must (refine wpList_append_own _ rfl _ _ 33 rfl w.heap.size 60 i0 _ 8 72 Try.underlying33 hi hz0 hz1 hz2 rfl (by decide) _ _ _ rfl ((unhide HO3).alloc _) ⟨w3.heap.size, 0, none⟩ 1 1 (nm c).vs rfl rfl (cells_new w3 _ _) (by simp [Value.oneCell', Cm.vs, nm]) (by unfold maxLen; omega) (by omega) (by simp; omega) ?_); intro v4 w4 hown4 hg4 _)
        go_roundw
        case rel =>
          refine ⟨k + 1, done ++ [nm c], by omega, by go_num, ?_, ?_, ?_⟩
          · show done ++ [nm c] = _
            rw [take_snocR _ k _ (unhide HKC), ← unhide hd]
          · simpa using hown4
          · exact ((unhide HB3).alloc (unhide HB3).size _).grown hg4 (by simp; omega) fun k hk => ((unhide HO3).lt k hk).1
        case measure => simp [intOf]; omega
      · go_wp2_with fail
        go_ret2
        have h := unhide hd
        rw [List.take_of_length_le (by rw [List.length_map]; omega)] at h
        subst h
        exact ⟨_, by rw [(unhide HL).2]; rfl, by rw [(unhide HL).1]; exact ownR_row Cm.len (by simpa using hl) (unhide HOW), unhide HB⟩
end Go.Proofs.Ytfpbpjhnafjcoaa
