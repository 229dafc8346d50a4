/-
  The orders of a tree in turn: proved by walking the function.
-/
import Derived.Test.YtadnjcgfoofjiaaLj20
namespace Go.Proofs.Ytadnjcgfoofjiaa
open Go.RowKit
set_option linter.unusedVariables false

theorem infoOd_s : (Try.prog.info? 33).map (fun i => (i.zero, i.size, i.bytes)) = some (some (.agg #[.int .i64 0, .int .i64 0, .int .i64 0, .int .i64 0, .int .i64 0, .string ⟨#[]⟩]), 6, 56) := by kernel_rfl
/-- Along a queue: what has been laid, and what is to come. -/
def OtI_s (S : TS) (whole : List Od) (B : Nat) (w1 : World) (N : Nat) (m : Nat) (ov nv : Value) (wr : World) : Prop :=
  ∃ (rest : List Nat) (nx : Nat) (done : List Od), nv = .int .i64 nx ∧ Chain (fun i => (S.qo i).yg) nx rest ∧ rest.length ≤ m ∧ (∀ a ∈ rest, a < 21) ∧ done ++ rest.map (fun i => (S.qo i).od) = whole ∧ done.length + rest.length ≤ N ∧
    wr.ownsRow B 33 6 ov done.length (done.flatMap Od.vs) ∧ Below B w1 wr

set_option maxRecDepth 100000 in
set_option maxHeartbeats 800000 in
theorem orders_s (b : Nat) (sd : Int) (seq : List Od) (w : World) (h : TreeAt 105 false w b sd seq) (hn : seq.length ≤ 20) :
    Calls Try.prog 65 #[.pointer (some ⟨b, 0, none⟩)] w fun e w' =>
      ∃ v', e = .returned v' ∧ OwnR Od.vs 6 w.heap.size w' v' (quOf false seq) ∧ Below w.heap.size w w' := by
  obtain ⟨S, t, hT, hi, hq, hlc⟩ := h
  have hlv := tree_orders hi hq
  rw [← hlv]
  have hh21 : ∀ a ∈ t.hs, a < 21 := fun a ha => by have := (hi.range a ha).2; omega
  have hlen : t.hs.length ≤ 20 := by rw [hi.len]; omega
  have hQ : ∀ a ∈ t.hs, Chain (fun i => (S.qo i).yg) (S.nd a).el (qs seq (S.nd a).ticks) := fun a ha => (hq.q a ha).chain
  have hqb : ∀ k a, a ∈ qs seq k → a < 21 := fun k a ha => by have := (qsF_mem k seq 1 a ha).2.1; omega
  have hql : ∀ k, (qs seq k).length ≤ 20 := fun k => by
    have h1 := qsF_map k (fun i => (S.qo i).od) seq 1 (fun i o ho => hq.od i o ho)
    have h2 := congrArg List.length h1
    rw [List.length_map] at h2
    have h3 : (seq.filter (fun o => decide (o.ticks = k))).length ≤ seq.length := List.length_filter_le _ _
    show (qsF k 1 seq).length ≤ 20
    omega
  have HT := hide hT
  have HR := hide hi.rep
  have HH := hide hh21
  have HQ := hide hQ
  have HQB := hide hqb
  have HQL := hide hql
  have hroot := hT.root
  have hbs := tm_lt hT
  generalize ht : t.hs = hs at *
  have HHS := hide ht
  have HNIL := hide (World.ownsRow_nil w w.heap.size 94 1)
  obtain ⟨i0, hi0, hz0, hz1, hz2⟩ := info_parts infoOd_s
  clear hi hq hlc hlv hT hh21 ht hQ hqb hql
  go_enter Try.func65, Try.ntmps65
  go_wp2_with fail
  refine (ranked_s S b w.heap.size hbs t w _ [] S.root (unhide HT) (unhide HR) (by rw [unhide HHS]; exact unhide HH) (Nat.le_refl _) (unhide HNIL) (by rw [unhide HHS]; simp; omega)).mono ?_
  rintro e w1 ⟨v1, rfl, ho1, hb1⟩
  rw [List.nil_append, unhide HHS] at ho1
  have HB1 := hide hb1
  have HOR := hide (ownR_row (f := fun h => [hval_s h]) (fun _ => rfl) (by omega) (show w1.ownsRow w.heap.size 94 1 v1 hs.length (hs.flatMap fun h => [hval_s h]) by rw [flat1_s]; exact ho1))
  obtain ⟨a, cap, rfl, _, hc⟩ := unhide HOR
  have hcell : ∀ k h, hs[k]? = some h → ∃ g, a = some ⟨g, 0, none⟩ ∧ g < w1.heap.size ∧ w1.cell? ⟨g, 0 + k * 1 + 0, none⟩ = some (.int .i64 (h : Nat)) := fun k h hk => by
    obtain ⟨g, h1, _, h3, h4, _⟩ := hc (by intro e; rw [e] at hk; simp at hk)
    exact ⟨g, h1, h3, h4 k h hk 0 _ rfl⟩
  have HC := hide hcell
  clear ho1 hb1 hc hcell hroot
  go_wp2_with fail
  have hb1 := (unhide HB1).size
  generalize hFF : (fun h => List.map (fun i => (S.qo i).od) (qs seq (S.nd h).ticks)) = FF
  have HFF := hide hFF
  clear hFF
  go_loopw [3, 14] (fun ov iv wr => ∃ (k : Nat) (done : List Od), k ≤ hs.length ∧ iv = .int .i64 k ∧ Hid (done = (hs.take k).flatMap FF) ∧ done.length ≤ 20 * k ∧ wr.ownsRow w1.heap.size 33 6 ov done.length (done.flatMap Od.vs) ∧ Below w1.heap.size w1 wr) (fun _ iv _ => hs.length - (intOf iv).toNat)
  case atStart => exact ⟨0, [], Nat.zero_le _, rfl, by simp [Hid], by simp, World.ownsRow_nil _ _ _ _, Below.refl _ _⟩
  case round =>
    obtain ⟨k, done, hk, rfl, hd, hdn, hown, hbel⟩ := hrel
    have HOW := hide hown
    have HB := hide hbel
    clear hown hbel
    by_cases hlt : k < hs.length
    · obtain ⟨h, hkh⟩ : ∃ h, hs[k]? = some h := ⟨_, List.getElem?_eq_getElem hlt⟩
      have HWH : Hid ((hs.take (k + 1)).flatMap FF = done ++ (qs seq (S.nd h).ticks).map (fun i => (S.qo i).od)) := by
        show _ = _
        rw [takeR_s hs k h hkh, List.flatMap_append, ← unhide hd, ← unhide HFF]; simp
      obtain ⟨g, rfl, hg, hcl⟩ := unhide HC k h hkh
      have hm := List.mem_of_getElem? hkh
      have h21 := unhide HH h hm
      have HCH := hide (unhide HQ h hm)
      have h21' : (h : Int) < 21 := by omega
      have hcl' := ((unhide HB).cell (p := ⟨g, 0 + k * 1 + 0, none⟩) hg).trans hcl
      rw [show 0 + k * 1 + 0 = k by omega] at hcl'
      have hTr := tm_below (unhide HT) ((unhide HB1).trans ((unhide HB).mono hb1)) hbs
      obtain ⟨-, -, -, -, -, -, n6, -⟩ := nd_cells (hTr.nd h h21)
      have hlt' : (k : Int) < hs.length := by omega
      have hsr := (unhide HB).size
      have HQB1 := hide (fun a ha => unhide HQB (S.nd h).ticks a ha)
      have HQL1 := hide (unhide HQL (S.nd h).ticks)
      have HFLAT := hide hd
      clear hkh hcl hTr hg hm
      go_wp2_with fail
      go_loopg [3, 6] ((qs seq (S.nd h).ticks).length) (fun m ov nv wq => OtI_s S (done ++ (qs seq (S.nd h).ticks).map (fun i => (S.qo i).od)) w1.heap.size w1 (20 * k + 20) m ov nv wq)
      case atStart => exact ⟨_, _, done, rfl, unhide HCH, Nat.le_refl _, unhide HQB1, rfl, by have := unhide HQL1; omega, unhide HOW, unhide HB⟩
      case round =>
        obtain ⟨rest, nx, dn, rfl, hch, hrl, hrb, hwh, hdl, hown, hbel⟩ := hrel
        have HOQ := hide hown
        have HBQ := hide hbel
        have HWQ := hide hwh
        have hsq := hbel.size
        cases rest with
        | nil =>
          obtain rfl : nx = 0 := hch
          clear hown hbel hwh hrb
          go_wp2_with fail
          have hdn' : dn = (hs.take (k + 1)).flatMap FF := by rw [unhide HWH, ← unhide HWQ]; simp
          exact ⟨⟨k + 1, dn, by omega, by go_num, hdn', by simp at hdl; omega, unhide HOQ, unhide HBQ⟩, by simp [intOf]; omega⟩
        | cons x r =>
          obtain ⟨rfl, hx0, hchr⟩ := hch
          have hx21 := hrb nx (by simp)
          have hx21' : (nx : Int) < 21 := by omega
          have hx0' : ¬ ((nx : Int) = 0) := by omega
          have HCR := hide hchr
          have HRB := hide (fun a (ha : a ∈ r) => hrb a (by simp [ha]))
          have hTr := tm_below (unhide HT) ((unhide HB1).trans (hbel.mono hb1)) hbs
          obtain ⟨q0, q1, q2, q3, q4, q5, q6⟩ := qo_cells (hTr.qo nx hx21)
          have HTQ := hide hTr
          have hdl' : dn.length + (r.length + 1) ≤ 20 * k + 20 := hdl
          have hrl' : r.length + 1 ≤ gk := hrl
          clear hown hbel hwh hrb hchr hTr hdl hrl
          go_wp2_with (at_builtin; go_must (refine wpList_append_own _ rfl _ _ 23 rfl w1.heap.size 33 i0 _ 6 56 Try.underlying23 hi0 hz0 hz1 hz2 rfl (by decide) _ dn.length (dn.flatMap Od.vs) rfl ((unhide HOQ).alloc _) ⟨wr.heap.size, 0, none⟩ 1 1 (S.qo nx).od.vs rfl rfl (cellsH_s wr _ _) (by simp [Value.oneCell', Od.vs]) (by unfold maxLen; omega) (by omega) (by simp; omega) ?_); intro v4 w4 hown4 hg4 _; have HO4 := hide hown4; have HB4 := hide (((unhide HBQ).alloc hsq _).grown hg4 (by simp; omega) fun k hk => ((unhide HOQ).lt k hk).1); have m6 := (qo_cells ((tm_below (unhide HT) ((unhide HB1).trans ((unhide HB4).mono hb1)) hbs).qo nx hx21)).2.2.2.2.2.2; clear hown4 hg4)
          go_roundg (r.length)
          case measure => omega
          case rel => exact ⟨r, _, dn ++ [(S.qo nx).od], rfl, unhide HCR, Nat.le_refl _, unhide HRB, by rw [← unhide HWQ]; simp, by simp; omega, by simpa using unhide HO4, unhide HB4⟩
    · go_wp2_with fail
      go_ret
      have h := unhide hd
      rw [List.take_of_length_le (by omega)] at h
      subst h
      refine ⟨_, rfl, ?_, (unhide HB1).trans ((unhide HB).mono hb1)⟩
      rw [unhide HFF]
      obtain ⟨a', cap', e1, e2, e3⟩ := ownR_row Od.len (by omega) (unhide HOW)
      refine ⟨a', cap', e1, e2, fun hne => ?_⟩
      obtain ⟨g, e4, e5, e6⟩ := e3 hne
      exact ⟨g, e4, Nat.le_trans hb1 e5, e6⟩
end Go.Proofs.Ytadnjcgfoofjiaa
