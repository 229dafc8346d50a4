/-
  ReadScript, as the program has it: proved by walking the function.
-/
import Derived.Test.YtjjopdkbdebfoaaDoorScrY
namespace Go.Proofs.YtjjopdkbdebfoaaDoor
open Go.RowKit Go.Shelf
set_option linter.unusedVariables false
attribute [local go_sem] Oper.semAt_some

/-- The four boxes of ReadScript: its results', and the list's. -/
structure Bxs (B : Nat) (W : World) (a b c : Value) : Prop where
  r0 : Boxed W B 29 a
  r1 : Boxed W (B + 1) 3 b
  r2 : Boxed W (B + 1 + 1) 3 c
theorem Bxs.own {B : Nat} {W W' : World} {a b c : Value} {row : Option Nat} (h : Bxs B W a b c) (hg : W.grownBy W' row) (hr : ∀ r, row = some r → ∃ o : Obj, W.heap[r]? = some o ∧ o.isCells = false) : Bxs B W' a b c :=
  ⟨boxed_own (β := Unit) B _ (fun _ => a) () W W' row h.r0 hg hr, boxed_own (β := Unit) (B + 1) _ (fun _ => b) () W W' row h.r1 hg hr, boxed_own (β := Unit) (B + 1 + 1) _ (fun _ => c) () W W' row h.r2 hg hr⟩
theorem Bxs.below {B : Nat} {W W' : World} {a b c : Value} (h : Bxs B W a b c) (hb : Below W.heap.size W W') : Bxs B W' a b c :=
  ⟨(hb.block B h.r0.lt).trans h.r0, (hb.block _ h.r1.lt).trans h.r1, (hb.block _ h.r2.lt).trans h.r2⟩
theorem Bxs.put {B : Nat} {W : World} {a b c : Value} (h : Bxs B W a b c) (a' b' c' : Value) : Bxs B (((W.setCell ⟨B, 0, none⟩ a').setCell ⟨B + 1, 0, none⟩ b').setCell ⟨B + 1 + 1, 0, none⟩ c') a' b' c' :=
  ⟨((h.r0.set a').other (by omega) b').other (by omega) c', ((h.r1.other (by omega) a').set b').other (by omega) c', ((h.r2.other (by omega) a').other (by omega) b').set c'⟩
theorem keeps_put (B : Nat) (W : World) (a' b' c' : Value) : KeepsOthers W (((W.setCell ⟨B, 0, none⟩ a').setCell ⟨B + 1, 0, none⟩ b').setCell ⟨B + 1 + 1, 0, none⟩ c') :=
  ((KeepsOthers.setCell _ _ _).trans (KeepsOthers.setCell _ _ _)).trans (KeepsOthers.setCell _ _ _)
theorem below_put {B : Nat} {w W : World} (h : Below B w W) (a' b' c' : Value) : Below B w (((W.setCell ⟨B, 0, none⟩ a').setCell ⟨B + 1, 0, none⟩ b').setCell ⟨B + 1 + 1, 0, none⟩ c') :=
  ((h.setCell (p := ⟨B, 0, none⟩) (Nat.le_refl _) a').setCell (p := ⟨B + 1, 0, none⟩) (by show B ≤ B + 1; omega) b').setCell (p := ⟨B + 1 + 1, 0, none⟩) (by show B ≤ B + 1 + 1; omega) c'
theorem Bxs.row {B n m : Nat} {W : World} {a b c v : Value} {l : List Value} (h : Bxs B W a b c) (a' b' c' : Value) (hr : W.ownsRow n 24 8 v m l) : (((W.setCell ⟨B, 0, none⟩ a').setCell ⟨B + 1, 0, none⟩ b').setCell ⟨B + 1 + 1, 0, none⟩ c').ownsRow n 24 8 v m l := by
  have h1 := hr.kept (grownBy_setCell' W B a') (.inr (h.r0.not_row (by decide) hr).symm)
  have h2 := h1.kept (grownBy_setCell' _ (B + 1) b') (.inr ((h.r1.other (by omega) a').not_row (by decide) h1).symm)
  exact h2.kept (grownBy_setCell' _ (B + 1 + 1) c') (.inr (((h.r2.other (by omega) a').other (by omega) b').not_row (by decide) h2).symm)
/-- What stands between two lines. -/
def RsI (w : World) (pre : List NL) (W : World) : Prop :=
  ((∃ out, (Gone pre out ∧ out.length ≤ 200) ∧ ∃ v, Boxed W (w.heap.size + 1 + 1 + 1) 29 v ∧ W.ownsRow w.heap.size 24 8 v out.length (out.flatMap Cm.vs) ∧ True) ∧ Bxs w.heap.size W (.slice none 0 0) (.int .i64 0) (.int .i64 0)) ∧ Below w.heap.size w W
/-- What stands where a line is none. -/
def RsX (w : World) (c : Code) (pre : List NL) (W : World) : Prop :=
  (c = .ret ∧ ∃ cd nn, Left pre cd nn ∧ Bxs w.heap.size W (.slice none 0 0) (.int .i64 cd) (.int .i64 nn)) ∧ Below w.heap.size w W
theorem rsI_own (w : World) {B : Nat} (hB : w.heap.size ≤ B) : OwnFrom B (RsI w) :=
  OwnFrom.and (Own.from (fun s A A' row hs hg hr => by
    obtain ⟨⟨out, ho, hv⟩, hb⟩ := hs
    exact ⟨⟨out, ho, holdsRow_own (β := Unit) w.heap.size (w.heap.size + 1 + 1 + 1) 29 24 8 (fun _ => out.length) (fun _ => out.flatMap Cm.vs) (fun _ _ => True) () A A' row hv hg hr⟩, hb.own hg hr⟩) _) (ownFrom_below (Nat.le_refl _) hB)
theorem rsX_own (w : World) (c : Code) {B : Nat} (hB : w.heap.size ≤ B) : OwnFrom B (RsX w c) :=
  OwnFrom.and (Own.from (fun s A A' row hs hg hr => by
    obtain ⟨hc, cd, nn, hl, hb⟩ := hs
    exact ⟨hc, cd, nn, hl, hb.own hg hr⟩) _) (ownFrom_below (Nat.le_refl _) hB)
theorem below_keeps {W W' : World} (h : Below W.heap.size W W') : KeepsOthers W W' := ⟨h.size, fun k o hk _ => (h.block k (Array.getElem?_eq_some_iff.1 hk).1).trans hk⟩
/-- What lies in memory while a line is read. -/
structure RsB (n : Nat) (W : World) (out : List Cm) (v : Value) : Prop where
  bx : Bxs n W (.slice none 0 0) (.int .i64 0) (.int .i64 0)
  li : Boxed W (n + 1 + 1 + 1) 29 v
  row : W.ownsRow n 24 8 v out.length (out.flatMap Cm.vs)
theorem RsB.below {n : Nat} {W W' : World} {out : List Cm} {v : Value} (h : RsB n W out v) (hb : Below W.heap.size W W') : RsB n W' out v :=
  ⟨h.bx.below hb, (hb.block _ h.li.lt).trans h.li, h.row.kept (below_gr (G := none) hb (Nat.le_refl _)) (Classical.em _)⟩
theorem RsB.app {n : Nat} {W w1 : World} {out : List Cm} {v : Value} {tmp : Obj} (h : RsB n W out v) (hg : (W.alloc tmp).grownBy w1 v.ownBlock) (v' : Value) : Bxs n (w1.setCell ⟨n + 1 + 1 + 1, 0, none⟩ v') (.slice none 0 0) (.int .i64 0) (.int .i64 0) :=
  ⟨((h.bx.r0.alloc tmp).kept hg (h.bx.r0.not_row (by decide) h.row)).other (by omega) v', ((h.bx.r1.alloc tmp).kept hg (h.bx.r1.not_row (by decide) h.row)).other (by omega) v', ((h.bx.r2.alloc tmp).kept hg (h.bx.r2.not_row (by decide) h.row)).other (by omega) v'⟩
set_option maxRecDepth 100000 in
set_option maxHeartbeats 4000000 in
theorem implScript_any (s : ByteArray) (w : World) (hs : s.size ≤ 1048576) (ht : TabT w) :
    Calls Tryd.prog 9 #[.string s] w fun e w' => RsEnd (rsT s.data.toList) w e w' := by
  obtain ⟨i0, hi0, hz0, hz1, hz2⟩ := info_parts infoC
  have hsf := sfl
  refine (callsIn_wide (n := 3)).1 ?_
  by_cases hl : 65536 < s.size
  · have HE : Hid (∀ v w', OwnR Cm.vs 8 w.heap.size w' v [] → Below w.heap.size w w' → RsEnd (rsT s.data.toList) w (.returned (.tuple #[v, .int .i64 2, .int .i64 0])) w') := fun v w' ho hb => by
      unfold RsEnd rsT
      rw [data_len, if_pos hl]
      exact ⟨v, rfl, ho, hb⟩
    have hl' : (65536 : Int) < s.size := by omega
    refine callsIn_of_wp_marks Tryd.func9 rfl trivial ?_ rfl
    simp only [Tryd.ntmps9, List.size_toArray, List.length_cons, List.length_nil, Nat.reduceAdd, Nat.reduceSub, Array.replicate_succ, Array.replicate_zero, List.push_toArray, List.append_toArray, List.nil_append, List.cons_append]
    gi_wp2
    refine ⟨.tuple #[.slice none 0 0, .int .i64 2, .int .i64 0], ?_, unhide HE _ _ own_nil ((((Below.refl _ w).alloc (Nat.le_refl _) _).alloc (by simp) _).alloc (by simp; omega) _)⟩
    have b0 := Boxed.new w 29 (.slice none 0 0)
    have b1 := Boxed.new (w.alloc (.cells #[.slice none 0 0] 29)) 3 (.int .i64 2)
    have b2 := Boxed.new ((w.alloc (.cells #[.slice none 0 0] 29)).alloc (.cells #[.int .i64 2] 3)) 3 (.int .i64 0)
    simp only [World.size_alloc] at b1 b2
    have c0 := ((b0.alloc (.cells #[.int .i64 2] 3)).alloc (.cells #[.int .i64 0] 3)).cell
    have c1 := (b1.alloc (.cells #[.int .i64 0] 3)).cell
    have c2 := b2.cell
    simp [results, Tryd.f9, go_sem, c0, c1, c2]
  have hl' : ¬ ((65536 : Int) < s.size) := by omega
  have HRT : Hid (rsT s.data.toList = scn (lns s.data.toList) 1 []) := by show _ = _; unfold rsT; rw [data_len, if_neg hl]
  generalize rsT s.data.toList = R at *
  refine callsIn_of_wp_marks Tryd.func9 rfl trivial ?_ rfl
  simp only [Tryd.ntmps9, List.size_toArray, List.length_cons, List.length_nil, Nat.reduceAdd, Nat.reduceSub, Array.replicate_succ, Array.replicate_zero, List.push_toArray, List.append_toArray, List.nil_append, List.cons_append]
  gi_wp2_with (refine ⟨trivial, ?_⟩; gi_at_call 19; refine (linesOf_in s _ _).mono ?_; rintro e w' ⟨rfl, rfl⟩)
  have b0 := Boxed.new w 29 (.slice none 0 0)
  have b1 := Boxed.new (w.alloc (.cells #[.slice none 0 0] 29)) 3 (.int .i64 0)
  have b2 := Boxed.new ((w.alloc (.cells #[.slice none 0 0] 29)).alloc (.cells #[.int .i64 0] 3)) 3 (.int .i64 0)
  have b3 := Boxed.new (((w.alloc (.cells #[.slice none 0 0] 29)).alloc (.cells #[.int .i64 0] 3)).alloc (.cells #[.int .i64 0] 3)) 29 (.slice none 0 0)
  have b4 := Boxed.new ((((w.alloc (.cells #[.slice none 0 0] 29)).alloc (.cells #[.int .i64 0] 3)).alloc (.cells #[.int .i64 0] 3)).alloc (.cells #[.slice none 0 0] 29)) 9 (.string s)
  have hB0 : Below w.heap.size w (((((w.alloc (.cells #[.slice none 0 0] 29)).alloc (.cells #[.int .i64 0] 3)).alloc (.cells #[.int .i64 0] 3)).alloc (.cells #[.slice none 0 0] 29)).alloc (.cells #[.string s] 9)) := (((((Below.refl _ w).alloc (Nat.le_refl _) _).alloc (by simp) _).alloc (by simp; omega) _).alloc (by simp; omega) _).alloc (by simp; omega) _
  have hsz0 : (((((w.alloc (.cells #[.slice none 0 0] 29)).alloc (.cells #[.int .i64 0] 3)).alloc (.cells #[.int .i64 0] 3)).alloc (.cells #[.slice none 0 0] 29)).alloc (.cells #[.string s] 9)).heap.size = w.heap.size + 5 := by simp
  simp only [World.size_alloc] at b1 b2 b3 b4
  have hbx : Bxs w.heap.size (((((w.alloc (.cells #[.slice none 0 0] 29)).alloc (.cells #[.int .i64 0] 3)).alloc (.cells #[.int .i64 0] 3)).alloc (.cells #[.slice none 0 0] 29)).alloc (.cells #[.string s] 9)) (.slice none 0 0) (.int .i64 0) (.int .i64 0) := ⟨(((b0.alloc _).alloc _).alloc _).alloc _, ((b1.alloc _).alloc _).alloc _, (b2.alloc _).alloc _⟩
  have hbl := b3.alloc (.cells #[.string s] 9)
  clear b0 b1 b2 b3
  generalize (((((w.alloc (.cells #[.slice none 0 0] 29)).alloc (.cells #[.int .i64 0] 3)).alloc (.cells #[.int .i64 0] 3)).alloc (.cells #[.slice none 0 0] 29)).alloc (.cells #[.string s] 9)) = W0 at *
  refine wpIn_rangeFunc_ownG rfl (by omega) (gf := 28) (lb := #[.pointer (some ⟨w.heap.size + 1 + 1 + 1 + 1, 0, none⟩)]) rfl trivial (enters_of Tryd.func28 (by kernel_rfl) rfl)
    (lines_stops (3 - 1) (by omega) (w.heap.size + 1 + 1 + 1 + 1) w.heap.size s hs W0 (by omega) b4.cell) belowK_t (belowK_b (by omega)) (Below.refl _ _) (fun _ => rfl)
    (RsI w) (RsX w) (rsI_own w (by omega)) (fun c => rsX_own w c (by omega)) ⟨⟨⟨[], ⟨gone_nil, by simp⟩, _, hbl, World.ownsRow_nil _ _ _ _, trivial⟩, hbx⟩, hB0⟩
    (fun x => { tmps := #[.string s, undef, .pointer (some ⟨w.heap.size, 0, none⟩), .pointer (some ⟨w.heap.size + 1, 0, none⟩), .pointer (some ⟨w.heap.size + 1 + 1, 0, none⟩), .pointer (some ⟨w.heap.size + 1 + 1 + 1, 0, none⟩), .int .i64 (x.1.1 : Int), .string x.1.2, undef, undef, undef, .string s, .int .i64 s.size, .bool false, .string s, .func (.func 28) #[] #[.pointer (some ⟨w.heap.size + 1 + 1 + 1 + 1, 0, none⟩)], .int .i64 (x.1.1 : Int), .string x.1.2, undef, undef, undef, undef, undef, undef, undef, undef, undef, undef, undef, undef, undef, undef, undef, undef, undef, undef, undef, undef, undef], defers := [] }) ?assign ?body ?done ?stop
  case assign =>
    intro l x W K hK
    unfold nlE
    gi_wp2
    exact hK
  case body =>
    rintro l pre x W ⟨⟨⟨out, ⟨hg, hol⟩, v, hv, hrow, -⟩, hbx⟩, hB⟩ hlt
    have HG := hide hg
    have hxs := x.2
    have HWD := hide (fun n W' => (callsIn_wide (n := n)).2 (implWords_any x.1.2 W' hxs))
    have hW0 : w.heap.size + 5 ≤ W0.heap.size := by omega
    clear hbl b4 hB0 hsz0 hg hlt
    rename_i hbx0
    clear hbx0
    have HM : Hid (RsB w.heap.size W out v) := ⟨hbx, hv, hrow⟩
    have HB := hide hB
    have hsW := hB.size
    clear hbx hv hrow hB
    gi_wp2_with fail
    refine ⟨trivial, (CallsIn.inRound l (unhide HWD _ _)).mono ?_⟩
    rintro e W1 ⟨vw, ws, rfl, hrw, hws, hb1⟩
    have HSM := hide (wds_small hws hxs)
    obtain rfl := lnW_of hws
    have HB1 : Hid (Below w.heap.size w W1) := (unhide HB).trans (hb1.mono hsW)
    have HK1 : Hid (Below W.heap.size W W1) := hb1
    have HM1 := hide ((unhide HM).below hb1)
    have hs1 := hb1.size
    have HSN := hide (fun n => (callsIn_wide (n := n)).2 (sayNo_any vw _ _ W1 hrw))
    have HCM := hide (fun n => (callsIn_wide (n := n)).2 (cmdOf_any vw _ _ W1 hrw (unhide HSM) (ttab_below ht (unhide HB1) (Nat.le_refl _))))
    obtain ⟨aw, lw, cw, rfl⟩ : ∃ a l c, vw = .slice a l c := by
      rcases hrw.2 with ⟨h, h0⟩ | ⟨g, cap, cur, h, _⟩
      · exact ⟨none, 0, 0, h⟩
      · exact ⟨_, _, _, h⟩
    clear hb1 hws hrw HM HB
    have HLN : Hid ((decide ((lnW x.1.2.data.toList).length = 0) || ((wL (lnW x.1.2.data.toList) 0).head? == some 35)) = lnN x.1.2.data.toList) := rfl
    rw [unhide HLN] at HSN
    gi_wp2_with fail
    refine ⟨trivial, (CallsIn.inRound l (unhide HSN _)).mono ?_⟩
    rintro e w' ⟨rfl, rfl⟩
    cases hN : lnN x.1.2.data.toList with
    | true =>
      gi_wp2_with fail
      exact ⟨(below_keeps (unhide HK1)).from _, (unhide HK1).mono hsW, ⟨⟨⟨out, ⟨gone_skip (unhide HG) x hN, hol⟩, v, (unhide HM1).li, (unhide HM1).row, trivial⟩, (unhide HM1).bx⟩, unhide HB1⟩⟩
    | false =>
      have HNN : Hid (¬ lnN x.1.2.data.toList = true) := by show ¬ _; rw [hN]; decide
      clear hN
      gi_wp2_with fail
      refine ⟨trivial, (CallsIn.inRound l (unhide HCM _)).mono ?_⟩
      intro e W4 h4
      unfold CmEnI at h4
      obtain ⟨⟨ck, cs, ct, cl, cq, ci, cp, cg⟩, rfl, hcc, hb4⟩ := h4
      have HCC := hide hcc
      have hs4 := hb4.size
      have hb5 : Below w'.heap.size w' (W4.alloc (Obj.cells #[.int .i64 ck, .int .i64 cs, .int .i64 ct, .int .i64 cl, .int .i64 cq, .int .i64 ci, .float .f64 cp, .string cg] 24)) := hb4.alloc hs4 _
      have HM5 := hide ((unhide HM1).below hb5)
      have HB5 : Hid (Below w.heap.size w (W4.alloc (Obj.cells #[.int .i64 ck, .int .i64 cs, .int .i64 ct, .int .i64 cl, .int .i64 cq, .int .i64 ci, .float .f64 cp, .string cg] 24))) := (unhide HB1).trans (hb5.mono (unhide HB1).size)
      have HK5 : Hid (Below W.heap.size W (W4.alloc (Obj.cells #[.int .i64 ck, .int .i64 cs, .int .i64 ct, .int .i64 cl, .int .i64 cq, .int .i64 ci, .float .f64 cp, .string cg] 24))) := (unhide HK1).trans (hb5.mono hs1)
      have HX5 : Hid ((W4.alloc (Obj.cells #[.int .i64 ck, .int .i64 cs, .int .i64 ct, .int .i64 cl, .int .i64 cq, .int .i64 ci, .float .f64 cp, .string cg] 24)).rangeAt W4.heap.size 0 (Cm.vs ⟨ck, cs, ct, cl, cq, ci, cp, cg⟩)) := cells_madeT W4 _ _
      obtain ⟨k0, k1, k2, k3, k4, k5, k6, k7⟩ := cm_cells (unhide HX5)
      simp only [Nat.zero_add] at k1 k2 k3 k4 k5 k6 k7
      clear hb4 hb5 hcc
      unfold cmA
      have hcl := (unhide HM5).li.cell
      have c0 := (unhide HM5).bx.r0.cell
      have f0 := (unhide HM5).bx.r0.frozen
      have c1 := (unhide HM5).bx.r1.cell
      have f1 := (unhide HM5).bx.r1.frozen
      have c2 := (unhide HM5).bx.r2.cell
      have f2 := (unhide HM5).bx.r2.frozen
      obtain ⟨ov, co, rfl⟩ : ∃ a c, v = .slice a out.length c := by
        rcases (unhide HM5).row.2 with ⟨h, h0⟩ | ⟨g, cap, cur, h, _⟩
        · exact ⟨none, 0, by rw [h, h0]⟩
        · exact ⟨_, _, h⟩
      cases hK : cmK (lnW x.1.2.data.toList) with
      | false =>
        have HL := hide (left_syn (unhide HG) x (unhide HNN) hK)
        clear hK
        gi_wp2_with fail
        exact ⟨((below_keeps (unhide HK5)).trans (keeps_put _ _ _ _ _)).from _, ⟨rfl, 4, x.1.1, unhide HL, (unhide HM5).bx.put _ _ _⟩, below_put (unhide HB5) _ _ _⟩
      | true =>
        have hk : ¬ cmK (lnW x.1.2.data.toList) = false := by rw [hK]; decide
        have hce := unhide HCC hK
        by_cases h200 : out.length = 200
        · have HL := hide (left_many (unhide HG) x (unhide HNN) hk h200)
          have hb200 : ((out.length : Int) == 200) = true := by rw [h200]; rfl
          clear hK hk hce h200
          gi_wp2_with fail
          exact ⟨((below_keeps (unhide HK5)).trans (keeps_put _ _ _ _ _)).from _, ⟨rfl, 7, x.1.1, unhide HL, (unhide HM5).bx.put _ _ _⟩, below_put (unhide HB5) _ _ _⟩
        · have HGM := gone_more (unhide HG) x (unhide HNN) hk h200
          rw [← hce] at HGM
          have HGM := hide HGM
          have hb200 : ((out.length : Int) == 200) = false := beq_eq_false_iff_ne.2 (by omega)
          have hol2 : out.length + 1 ≤ 200 := by omega
          clear hK hk hce h200
          have hsq : (W4.alloc (Obj.cells #[.int .i64 ck, .int .i64 cs, .int .i64 ct, .int .i64 cl, .int .i64 cq, .int .i64 ci, .float .f64 cp, .string cg] 24)).heap.size = W4.heap.size + 1 := size_madeT _ _
          have HCS : Hid (∀ j u, (Cm.vs ⟨ck, cs, ct, cl, cq, ci, cp, cg⟩)[j]? = some u → ((W4.alloc (Obj.cells #[.int .i64 ck, .int .i64 cs, .int .i64 ct, .int .i64 cl, .int .i64 cq, .int .i64 ci, .float .f64 cp, .string cg] 24)).alloc (Obj.cells (Cm.vs ⟨ck, cs, ct, cl, cq, ci, cp, cg⟩).toArray 24)).cell? ((⟨W4.heap.size + 1, 0, none⟩ : Addr).add j) = some u) := fun j u hu => by
            have := cellsT (W4.alloc (Obj.cells #[.int .i64 ck, .int .i64 cs, .int .i64 ct, .int .i64 cl, .int .i64 cq, .int .i64 ci, .float .f64 cp, .string cg] 24)) (Cm.vs ⟨ck, cs, ct, cl, cq, ci, cp, cg⟩) 24 j u hu
            rwa [hsq] at this
          have hs5 := (unhide HB5).size
          gi_wp2_with (gi_at_builtin; refine wpListIn_append_own _ rfl _ _ 29 rfl w.heap.size 24 i0 _ 8 72 Tryd.underlying29 hi0 hz0 hz1 hz2 rfl (by decide) _ out.length (out.flatMap Cm.vs) rfl ((unhide HM5).row.alloc _) ⟨W4.heap.size + 1, 0, none⟩ 1 1 (Cm.vs ⟨ck, cs, ct, cl, cq, ci, cp, cg⟩) rfl rfl (unhide HCS) (by simp [Value.oneCell', Cm.vs]) (by unfold maxLen; omega) (by omega) (by simp; omega) ?_; intro v6 w6 hown6 hg6 _; obtain ⟨g6, cap6, rfl⟩ := ownsRow_succ hown6; obtain ⟨hv1, hv2, hr2, hk2, hb2⟩ := (unhide HM5).li.appended (by decide) (unhide HM5).row hs5 (by omega) hown6 hg6; have HX6 := hide ((unhide HM5).app hg6 (.slice (some ⟨g6, 0, none⟩) (out.length + 1) cap6)); have HV2 := hide hv2; have HR2 := hide hr2; have HK2 := hide hk2; have HB2 := hide hb2; have hc1 := hv1.cell; have hf1 := hv1.frozen; clear hown6 hg6 hv1 hv2 hr2 hk2 hb2)
          exact ⟨((below_keeps (unhide HK5)).trans (unhide HK2)).from _, ((unhide HK5).mono hsW).trans (unhide HB2), ⟨⟨⟨out ++ [(⟨ck, cs, ct, cl, cq, ci, cp, cg⟩ : Cm)], ⟨unhide HGM, by simp; omega⟩, _, unhide HV2, by simpa using unhide HR2, trivial⟩, unhide HX6⟩, (unhide HB5).trans (unhide HB2)⟩⟩
  case done =>
    rintro D ys W hD hS ⟨⟨⟨out, ⟨hg, hol⟩, v, hv, hrow, -⟩, hbx⟩, hB⟩ hK
    have HR := unhide HRT
    rw [gone_all hg hS] at HR
    have HR := hide HR
    have HG := hide hrow
    have HX := hide hbx
    have HV := hide hv
    have HB := hide hB
    have HKD := hide hK
    obtain ⟨oa, oc, rfl⟩ : ∃ a c, v = .slice a out.length c := by
      rcases hrow.2 with ⟨h, h0⟩ | ⟨g, cap, cur, h, _⟩
      · exact ⟨none, 0, by rw [h, h0]⟩
      · exact ⟨_, _, h⟩
    have hcl := hv.cell
    have c0 := hbx.r0.cell
    have f0 := hbx.r0.frozen
    have c1 := hbx.r1.cell
    have f1 := hbx.r1.frozen
    have c2 := hbx.r2.cell
    have f2 := hbx.r2.frozen
    clear hrow hbx hv hB hK hg hS
    gi_wp2
    clear hcl c0 f0 c1 f1 c2 f2
    have hK' := (keeps_put w.heap.size W (.slice oa out.length oc) (.int .i64 0) (.int .i64 0)).same D _ (unhide HKD) rfl
    have hb' := below_put (unhide HB) (.slice oa out.length oc) (.int .i64 0) (.int .i64 0)
    have hx' := (unhide HX).put (.slice oa out.length oc) (.int .i64 0) (.int .i64 0)
    have hr' := (unhide HX).row (.slice oa out.length oc) (.int .i64 0) (.int .i64 0) (unhide HG)
    generalize (((W.setCell ⟨w.heap.size, 0, none⟩ (.slice oa out.length oc)).setCell ⟨w.heap.size + 1, 0, none⟩ (.int .i64 0)).setCell ⟨w.heap.size + 1 + 1, 0, none⟩ (.int .i64 0)) = W9 at *
    refine ⟨by simp, .inl ⟨_, _, rfl, run_takeDeferred hK', ?_⟩⟩
    have hx2 := hx'.own (grownBy_putObj' W9 D (.deferred none)) (fun r e => by cases e; exact ⟨_, hK', rfl⟩)
    have c0 := hx2.r0.cell
    have c1 := hx2.r1.cell
    have c2 := hx2.r2.cell
    refine ⟨.tuple #[.slice oa out.length oc, .int .i64 0, .int .i64 0], ?_, ?_⟩
    · simp [results, Tryd.f9, go_sem, c0, c1, c2]
    · unfold RsEnd
      rw [unhide HR]
      exact ⟨_, rfl, ownR_row (l := out) Cm.len (by omega) (ownsRow_putObj hr' _ hK' rfl), hb'.trans (belowK_b (w := w) (Nat.le_refl _) W9 D _ _ (by omega) hK' rfl rfl)⟩
  case stop =>
    rintro D c pre W hD hS ⟨⟨rfl, cd, nn, hl, hbx⟩, hB⟩ hK
    have HR := unhide HRT
    rw [left_all hl hS] at HR
    gi_wp2
    refine ⟨by simp, .inl ⟨_, _, rfl, run_takeDeferred hK, ?_⟩⟩
    have hbx' := hbx.own (grownBy_putObj' W D (.deferred none)) (fun r e => by cases e; exact ⟨_, hK, rfl⟩)
    have c0 := hbx'.r0.cell
    have c1 := hbx'.r1.cell
    have c2 := hbx'.r2.cell
    refine ⟨.tuple #[.slice none 0 0, .int .i64 cd, .int .i64 nn], ?_, ?_⟩
    · simp [results, Tryd.f9, go_sem, c0, c1, c2]
    · unfold RsEnd
      rw [HR]
      exact ⟨_, rfl, own_nil, hB.trans (belowK_b (w := w) (Nat.le_refl _) W D _ _ (by omega) hK rfl rfl)⟩
end Go.Proofs.YtjjopdkbdebfoaaDoor
