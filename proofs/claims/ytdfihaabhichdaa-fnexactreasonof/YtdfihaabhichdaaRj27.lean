/-
  An order taken out of a row, by the program's library: proved by walking the function.
-/
import Derived.Test.YtdfihaabhichdaaRj06
import Derived.Test.YtdfihaabhichdaaRj26
import Derived.Laws.CopyOwn
namespace Go.Proofs.Ytdfihaabhichdaa
open Go.RowKit
set_option linter.unusedVariables false

theorem wpList_append_room {P : Program} {w : World} {ops : Array Oper} {rest : List Oper} {o : Oper} {a : Act} {Q : Exit → Act → World → Prop} (hgd : o.guard = none) (s x : Operand) (t : TypeId)
    (ho : o.op = .call { callee := .builtin .append, args := #[s, x], argTypes := #[t, t] })
    (e : TypeId) (i : TypeInfo) (size : Nat) (ht : P.underlying t = some (.slice e)) (hi : P.info? e = some i) (hsize : i.size = size)
    (g sLen sCap : Nat) (cur : Array Value) (hg : w.heap[g]? = some (.cells cur e (0, 0))) (hs : a.eval s = .slice (some ⟨g, 0, none⟩) sLen sCap)
    (ad : Addr) (m c : Nat) (news : List Value) (hx : a.eval x = .slice (some ad) m c) (hl : news.length = m * size) (hnews : ∀ j u, news[j]? = some u → w.cell? (ad.add j) = some u) (h1 : ∀ u ∈ news, u.oneCell' = true)
    (hroom : sLen + m ≤ sCap) (hfit : sLen * size + news.length ≤ cur.size)
    (h : wpList P ops Q rest (a.put o.dst (.slice (some ⟨g, 0, none⟩) (sLen + m) sCap)) (w.setRow g (cur.toList.take (sLen * size) ++ news ++ cur.toList.drop (sLen * size + news.length)).toArray)) : wpList P ops Q (o :: rest) a w := by
  subst hsize
  refine wpList_plain hgd fun K hK => ?_
  have hrun := run_append_room (P := P) w t o.type e i ht hi g sLen sCap cur hg ad m c news hl hnews h1 hroom hfit
  unfold Oper.wp execOp
  simp only [ho, resolve, invoke, builtin, Sem.run_bind, Sem.run_pure, Result.andThen_ok, List.map_toArray, List.map_cons, List.map_nil, hs, hx, hrun]
  exact hK _ _ h
theorem clear_row {P : Program} (w : World) (T ty e : TypeId) (i : TypeInfo) (z : Value) (ht : P.underlying T = some (.slice e)) (hi : P.info? e = some i) (hz : i.zero = some z) (g o c : Nat) (cur : Array Value) (hg : w.heap[g]? = some (.cells cur e (0, 0)))
    (hfit : o + z.cells.toList.length ≤ cur.size) (h1 : ∀ v ∈ z.cells.toList, v.oneCell' = true) :
    (Builtin.clear_ #[T] ty #[.slice (some ⟨g, o, none⟩) 1 c]).run P w = .ok (.tuple #[]) (w.setRow g (cur.toList.take o ++ z.cells.toList ++ cur.toList.drop (o + z.cells.toList.length)).toArray) := by
  have hst := run_storeCells_at P g o e z.cells.toList 0 cur w hg (by simpa using hfit) h1
  simp only [Nat.add_zero] at hst
  have hzc : (Builtin.zeroCells z.cells 1).toList = z.cells.toList := by
    refine List.ext_getElem (by simp [Builtin.zeroCells]) fun j h1 h2 => ?_
    have hj : j < z.cells.size := by simpa using h2
    simp [Builtin.zeroCells, Nat.mod_eq_of_lt hj, hj]
  simp [Builtin.clear_, run_underlying ht, zeroValue, typeInfo, hi, hz, hzc, hst]
/-- The cells of no order. -/
abbrev zOdL : List Value := [.int .i64 0, .int .i64 0, .int .i64 0, .int .i64 0, .int .i64 0, .string ⟨#[]⟩]
/-- A row without its i-th record, the tail zeroed. -/
theorem row_gone {cur : Array Value} {l : List Od} {i m cap : Nat} {zs : List Value} (hl : l.length = i + 1 + m) (hc : l.length ≤ cap) (hs : cur.size = cap * 6) (ht : cur.toList.take (l.length * 6) = l.flatMap Od.vs) (hz : zs.length = 6) :
    (((cur.toList.take (i * 6) ++ (l.drop (i + 1)).flatMap Od.vs ++ cur.toList.drop (i * 6 + m * 6)).take ((i + m) * 6) ++ zs ++ (cur.toList.take (i * 6) ++ (l.drop (i + 1)).flatMap Od.vs ++ cur.toList.drop (i * 6 + m * 6)).drop ((i + m) * 6 + zs.length)).take ((i + m) * 6) = (l.take i ++ l.drop (i + 1)).flatMap Od.vs) ∧
    (cur.toList.take (i * 6) ++ (l.drop (i + 1)).flatMap Od.vs ++ cur.toList.drop (i * 6 + m * 6)).length = cap * 6 := by
  have hcl : cur.toList.length = cap * 6 := by simpa using hs
  have hdl : ((l.drop (i + 1)).flatMap Od.vs).length = m * 6 := by rw [flat_len Od.len, List.length_drop]; congr 1; omega
  have hti : cur.toList.take (i * 6) = (l.take i).flatMap Od.vs := by
    have h := congrArg (List.take (i * 6)) ht
    rw [List.take_take, show min (i * 6) (l.length * 6) = i * 6 by omega] at h
    rw [h]
    conv => lhs; rw [← List.take_append_drop i l, List.flatMap_append]
    rw [List.take_append_of_le_length (by rw [flat_len Od.len, List.length_take]; omega), List.take_of_length_le (by rw [flat_len Od.len, List.length_take]; omega)]
  have hlen : (cur.toList.take (i * 6) ++ (l.drop (i + 1)).flatMap Od.vs).length = (i + m) * 6 := by
    rw [List.length_append, hdl, List.length_take, hcl]; omega
  refine ⟨?_, ?_⟩
  · rw [List.append_assoc ((List.take _ _)), List.take_append_of_le_length (by rw [List.length_take, List.length_append, hlen, List.length_drop, hcl]; omega), List.take_take, Nat.min_self, List.take_append_of_le_length (by rw [hlen]; omega), List.take_of_length_le (by rw [hlen]; omega), hti, List.flatMap_append]
  · rw [List.length_append, hlen, List.length_drop, hcl]; omega
set_option maxRecDepth 100000 in
set_option maxHeartbeats 1600000 in
theorem delete_any (g i m cap B : Nat) (cur : Array Value) (l : List Od) (w : World) (hl : l.length = i + 1 + m) (hn : l.length ≤ 1000) (hg : w.heap[g]? = some (.cells cur 49 (0, 0))) (hcap : l.length ≤ cap) (hmx : cap ≤ maxLen) (hsz : cur.size = cap * 6) (htk : cur.toList.take (l.length * 6) = l.flatMap Od.vs) (hB : B ≤ g) :
    Calls Try.prog 92 #[.slice (some ⟨g, 0, none⟩) (i + 1 + m) cap, .int .i64 i, .int .i64 ((i : Int) + 1)] w fun e w' => e = .returned (.slice (some ⟨g, 0, none⟩) (i + m) cap) ∧ ORow w' B (.slice (some ⟨g, 0, none⟩) (i + m) cap) (l.take i ++ l.drop (i + 1)) ∧ w.grownBy w' (some g) := by
  obtain ⟨i0, hi0, hz0, hz1, hz2⟩ := info_parts Try.infoOrder
  have HG := hide hg
  have HRC : Hid (∀ j c, l[j]? = some c → w.drew.rangeAt g (0 + j * 6) c.vs) := by
    have ho : ORow w B (.slice (some ⟨g, 0, none⟩) l.length cap) l := ⟨by rw [flat_len Od.len], .inr ⟨g, cap, cur, rfl, hB, hg, hcap, hmx, hsz, htk⟩⟩
    obtain ⟨a', c', e, _, h⟩ := oRow_rd ho (by omega)
    intro j c hj
    obtain ⟨b', off', e2, _, h⟩ := h (by intro h; rw [h] at hj; simp at hj)
    rw [e2] at e
    simp only [Value.slice.injEq, Option.some.injEq, Addr.mk.injEq, and_true, true_and] at e
    obtain ⟨⟨rfl, rfl⟩, -⟩ := e
    exact h j c hj
  have HTK := hide htk
  have HSZ := hide hsz
  have HL := hide hl
  have h1 : (i : Int) + 1 ≤ (i : Int) + 1 + m := by omega
  have h2 : (i : Int) + 1 + m ≤ cap := by omega
  have h3 : (0 : Int) ≤ i := by omega
  have h4 : (i : Int) ≤ (i : Int) + 1 := by omega
  have h5 : (0 : Int) ≤ (i : Int) + 1 := by omega
  have h6 : (i : Int) ≤ cap := by omega
  have b1 : ((i : Int) == (i : Int) + 1) = false := by rw [beq_eq_false_iff_ne]; omega
  clear hg htk hsz hl
  go_enter Try.func92, Try.ntmps92
  go_wp2_with fail
  refine wp_still_tail 6 (by kernel_rfl) (by kernel_rfl) ?_
  simp only [List.take_succ_cons, List.take_zero, List.drop_succ_cons, List.drop_zero]
  by_cases hcc : cap = i + 1
  · have hm0 : m = 0 := by have := unhide HL; omega
    subst hm0
    subst hcc
    repeat still_step
    refine wpStill_nil ?_
    refine wpList_append_room rfl (.tmp 22) (.tmp 25) 32 rfl 49 i0 6 Try.underlying32 hi0 hz1 g i (i + 1) cur (unhide HG) rfl ⟨g, 0, none⟩ 0 0 ((l.drop (i + 1)).flatMap Od.vs) rfl (by rw [flat_len Od.len, List.length_drop]; congr 1; have := unhide HL; omega) (by rw [List.drop_of_length_le (by have := unhide HL; omega)]; simp) (one_all _) (by omega) (by rw [flat_len Od.len, List.length_drop, unhide HSZ]; have := unhide HL; omega) ?_
    have hdl : ((l.drop (i + 1)).flatMap Od.vs).length = 0 * 6 := by rw [flat_len Od.len, List.length_drop]; congr 1; have := unhide HL; omega
    rw [hdl]
    obtain ⟨hgone, hlen1⟩ := row_gone (zs := zOdL) (unhide HL) hcap (unhide HSZ) (unhide HTK) rfl
    have HGONE := hide hgone
    generalize hC1 : (cur.toList.take (i * 6) ++ (l.drop (i + 1)).flatMap Od.vs ++ cur.toList.drop (i * 6 + 0 * 6)) = C1 at HGONE hlen1 ⊢
    have hx1 : (w.drew.setRow g C1.toArray).heap[g]? = some (.cells C1.toArray 49 (0, 0)) := setRow_heap w.drew g cur C1.toArray 49 (0, 0) (unhide HG)
    have HG1 : Hid (w.grownBy (w.drew.setRow g C1.toArray) (some g)) := ⟨rfl, rfl, rfl, by simp, fun k hk hne => setRow_other w.drew g k C1.toArray (fun e => hne (by rw [e]))⟩
    have HX1 := hide hx1
    clear hx1 hC1 hgone hdl
    generalize w.drew.setRow g C1.toArray = X1 at HX1 HG1 ⊢
    have hcl : ∀ (ty : TypeId) (c : Nat), (Builtin.clear_ #[32] ty #[.slice (some ⟨g, i * 6, none⟩) 1 c]).run Try.prog X1 = .ok (.tuple #[]) (X1.setRow g (C1.take (i * 6) ++ zOdL ++ C1.drop (i * 6 + 6)).toArray) := fun ty c => by
      have := clear_row X1 32 ty 49 i0 _ Try.underlying32 hi0 hz0 g (i * 6) c C1.toArray (unhide HX1) (by show i * 6 + 6 ≤ C1.toArray.size; rw [List.size_toArray, hlen1]; omega) (by simp [Value.cells, Value.oneCell'])
      simpa [Value.cells] using this
    have HX2 := hide (setRow_heap X1 g C1.toArray (C1.take (i * 6) ++ zOdL ++ C1.drop (i * 6 + 6)).toArray 49 (0, 0) (unhide HX1))
    have HG2 : Hid (w.grownBy (X1.setRow g (C1.take (i * 6) ++ zOdL ++ C1.drop (i * 6 + 6)).toArray) (some g)) := (unhide HG1).trans ⟨rfl, rfl, rfl, by simp, fun k hk hne => setRow_other X1 g k _ (fun e => hne (by rw [e]))⟩
    generalize hC2 : (C1.take (i * 6) ++ zOdL ++ C1.drop (i * 6 + 6)).toArray = C2 at hcl HX2 HG2
    have HC2 := hide hC2
    have HLEN := hide hlen1
    clear hC2
    have k1 : ¬ i + 1 = i := by omega
    have k2 : i + 1 - i = 1 := by omega
    clear hlen1
    go_wp2_with fail
    go_ret
    have hol : (l.take i ++ l.drop (i + 1)).length = i + 0 := by have := unhide HL; simp; omega
    refine ⟨rfl, ⟨by rw [flat_len Od.len], .inr ⟨g, i + 1, _, by rw [hol], hB, unhide HX2, by rw [hol]; omega, hmx, ?_, ?_⟩⟩, unhide HG2⟩
    · rw [← unhide HC2]; simp [unhide HLEN]; omega
    · rw [hol, ← unhide HC2]; simpa using unhide HGONE
  · repeat still_step
    refine wpStill_nil ?_
    refine wpList_append_room rfl (.tmp 22) (.tmp 25) 32 rfl 49 i0 6 Try.underlying32 hi0 hz1 g i cap cur (unhide HG) rfl ⟨g, (i + 1) * 6, none⟩ m (cap - (i + 1)) ((l.drop (i + 1)).flatMap Od.vs) rfl (by rw [flat_len Od.len, List.length_drop]; congr 1; have := unhide HL; omega) (by have h := row_cells (W := w.drew) (g := g) (off := 0) (l := l) (unhide HRC) (i + 1) l.length; rw [List.take_of_length_le (by rw [List.length_drop]; omega), Nat.zero_add] at h; exact h) (one_all _) (by omega) (by rw [flat_len Od.len, List.length_drop, unhide HSZ]; have := unhide HL; omega) ?_
    have hdl : ((l.drop (i + 1)).flatMap Od.vs).length = m * 6 := by rw [flat_len Od.len, List.length_drop]; congr 1; have := unhide HL; omega
    rw [hdl]
    obtain ⟨hgone, hlen1⟩ := row_gone (zs := zOdL) (unhide HL) hcap (unhide HSZ) (unhide HTK) rfl
    have HGONE := hide hgone
    generalize hC1 : (cur.toList.take (i * 6) ++ (l.drop (i + 1)).flatMap Od.vs ++ cur.toList.drop (i * 6 + m * 6)) = C1 at HGONE hlen1 ⊢
    have hx1 : (w.drew.setRow g C1.toArray).heap[g]? = some (.cells C1.toArray 49 (0, 0)) := setRow_heap w.drew g cur C1.toArray 49 (0, 0) (unhide HG)
    have HG1 : Hid (w.grownBy (w.drew.setRow g C1.toArray) (some g)) := ⟨rfl, rfl, rfl, by simp, fun k hk hne => setRow_other w.drew g k C1.toArray (fun e => hne (by rw [e]))⟩
    have HX1 := hide hx1
    clear hx1 hC1 hgone hdl
    generalize w.drew.setRow g C1.toArray = X1 at HX1 HG1 ⊢
    have hcl : ∀ (ty : TypeId) (c : Nat), (Builtin.clear_ #[32] ty #[.slice (some ⟨g, (i + m) * 6, none⟩) 1 c]).run Try.prog X1 = .ok (.tuple #[]) (X1.setRow g (C1.take ((i + m) * 6) ++ zOdL ++ C1.drop ((i + m) * 6 + 6)).toArray) := fun ty c => by
      have := clear_row X1 32 ty 49 i0 _ Try.underlying32 hi0 hz0 g ((i + m) * 6) c C1.toArray (unhide HX1) (by show (i + m) * 6 + 6 ≤ C1.toArray.size; rw [List.size_toArray, hlen1]; omega) (by simp [Value.cells, Value.oneCell'])
      simpa [Value.cells] using this
    have HX2 := hide (setRow_heap X1 g C1.toArray (C1.take ((i + m) * 6) ++ zOdL ++ C1.drop ((i + m) * 6 + 6)).toArray 49 (0, 0) (unhide HX1))
    have HG2 : Hid (w.grownBy (X1.setRow g (C1.take ((i + m) * 6) ++ zOdL ++ C1.drop ((i + m) * 6 + 6)).toArray) (some g)) := (unhide HG1).trans ⟨rfl, rfl, rfl, by simp, fun k hk hne => setRow_other X1 g k _ (fun e => hne (by rw [e]))⟩
    generalize hC2 : (C1.take ((i + m) * 6) ++ zOdL ++ C1.drop ((i + m) * 6 + 6)).toArray = C2 at hcl HX2 HG2
    have HC2 := hide hC2
    have HLEN := hide hlen1
    clear hC2
    have k1 : ¬ cap = i + m := by have := unhide HL; omega
    have k2 : i + 1 + m - (i + m) = 1 := by omega
    have k3 : (i : Int) + m ≤ (i : Int) + 1 + m := by omega
    have k4 : (0 : Int) ≤ (i : Int) + m := by omega
    clear hlen1
    go_wp2_with fail
    go_ret
    have hol : (l.take i ++ l.drop (i + 1)).length = i + m := by have := unhide HL; simp; omega
    refine ⟨rfl, ⟨by rw [flat_len Od.len], .inr ⟨g, cap, _, by rw [hol], hB, unhide HX2, by rw [hol]; omega, hmx, ?_, ?_⟩⟩, unhide HG2⟩
    · rw [← unhide HC2]; simp [unhide HLEN]; omega
    · rw [hol, ← unhide HC2]; simpa using unhide HGONE
end Go.Proofs.Ytdfihaabhichdaa
namespace Go.Proofs.Ytdfihaabhichdaa
open Go.RowKit
set_option linter.unusedVariables false

/-- An order joins the last level, or makes a new one. -/
def joins (sd : Int) (out : List Lv) (o : Od) : Bool := match out.getLast? with
  | some lv => decide (lv.side = sd) && decide (lv.ticks = o.ticks)
  | none => false
def lastQ (out : List Lv) : Int := match out.getLast? with | some lv => lv.qty | none => 0
def lastC (out : List Lv) : Int := match out.getLast? with | some lv => lv.count | none => 0
def addQ (sd : Int) (out : List Lv) (o : Od) : List Lv :=
  if joins sd out o = true then out.dropLast ++ [⟨sd, o.ticks, lastQ out + o.left, lastC out + 1⟩] else out ++ [⟨sd, o.ticks, o.left, 1⟩]
theorem joins_snoc (sd : Int) (out : List Lv) (v : Lv) (o : Od) : joins sd (out ++ [v]) o = (decide (v.side = sd) && decide (v.ticks = o.ticks)) := by
  unfold joins; rw [List.getLast?_concat]
theorem addQ_join (sd : Int) (out : List Lv) (v : Lv) (o : Od) (h1 : v.side = sd) (h2 : v.ticks = o.ticks) : addQ sd (out ++ [v]) o = out ++ [⟨sd, v.ticks, v.qty + o.left, v.count + 1⟩] := by
  unfold addQ
  rw [joins_snoc, if_pos (by simp [h1, h2]), List.dropLast_concat, h2]
  simp [lastQ, lastC]
theorem addQ_grp (sd k : Int) : ∀ (q : List Od) (out : List Lv) (v : Lv), (∀ o ∈ q, o.ticks = k) → v.side = sd → v.ticks = k → q.foldl (addQ sd) (out ++ [v]) = out ++ [⟨sd, k, v.qty + sumL q, v.count + q.length⟩]
  | [], out, v, _, h1, h2 => by
    obtain ⟨a, b, c, d⟩ := v
    simp only at h1 h2; subst h1 h2
    simp [sumL]
  | o :: r, out, v, h, h1, h2 => by
    have ho := h o (by simp)
    rw [List.foldl_cons, addQ_join sd out v o h1 (h2.trans ho.symm), addQ_grp sd k r out ⟨sd, v.ticks, v.qty + o.left, v.count + 1⟩ (fun o' h' => h o' (by simp [h'])) rfl h2]
    rw [sumL, List.length_cons, show v.qty + o.left + sumL r = v.qty + (o.left + sumL r) by omega, show v.count + 1 + (r.length : Int) = v.count + ((r.length + 1 : Nat) : Int) by omega]
theorem addQ_new (sd k : Int) (q : List Od) (out : List Lv) (hq : q ≠ []) (hk : ∀ o ∈ q, o.ticks = k) (hn : ∀ v, out.getLast? = some v → ¬ (v.side = sd ∧ v.ticks = k)) : q.foldl (addQ sd) out = out ++ [⟨sd, k, sumL q, q.length⟩] := by
  cases q with
  | nil => exact absurd rfl hq
  | cons o r =>
    have ho := hk o (by simp)
    have hj : joins sd out o = false := by
      unfold joins
      split
      · next v hv => have := hn v hv; rw [ho]; simpa using this
      · rfl
    rw [List.foldl_cons]
    have e : addQ sd out o = out ++ [⟨sd, k, o.left, 1⟩] := by unfold addQ; rw [hj, ho]; simp
    rw [e, addQ_grp sd k r out ⟨sd, k, o.left, 1⟩ (fun o' h' => hk o' (by simp [h'])) rfl rfl]
    rw [sumL, List.length_cons, show 1 + (r.length : Int) = ((r.length + 1 : Nat) : Int) by omega]
theorem addQ_all {s : Bool} (sd : Int) (seq : List Od) : ∀ (T : List Int) (out : List Lv), T.Pairwise (bt s) → (∀ k ∈ T, atK seq k ≠ []) → (∀ v, out.getLast? = some v → v.side = sd → v.ticks ∉ T) →
    (T.flatMap (atK seq)).foldl (addQ sd) out = out ++ T.map (lvAt sd seq)
  | [], out, _, _, _ => by simp
  | k :: T, out, hT, hne, hl => by
    obtain ⟨p1, p2⟩ := List.pairwise_cons.1 hT
    rw [List.flatMap_cons, List.foldl_append, addQ_new sd k (atK seq k) out (hne k (by simp)) (fun o ho => by simp [atK] at ho; exact ho.2) (fun v hv h => hl v hv h.1 (by rw [h.2]; simp))]
    rw [addQ_all sd seq T _ p2 (fun k' h' => hne k' (by simp [h'])) (fun v hv _ => by
      rw [List.getLast?_concat] at hv
      obtain rfl := Option.some.inj hv
      exact fun hm => bt_irr s k (p1 k hm))]
    simp [lvAt]
theorem levels_fold (s : Bool) (sd : Int) (seq : List Od) (out : List Lv) (h : ∀ v, out.getLast? = some v → v.side ≠ sd) : (quOf s seq).foldl (addQ sd) out = out ++ lvsOf s sd seq := by
  have hT := isT_tks s seq
  refine addQ_all (s := s) sd seq (tks s seq) out hT.sorted (fun k hk => ?_) (fun v hv e => absurd e (h v hv))
  obtain ⟨o, h1, h2⟩ := (hT.mem k).1 hk
  intro e
  have : o ∈ atK seq k := by simp [atK]; exact ⟨h1, h2⟩
  rw [e] at this; simp at this
theorem lvsOf_side (s : Bool) (sd : Int) (seq : List Od) : ∀ v ∈ lvsOf s sd seq, v.side = sd := by
  intro v hv
  unfold lvsOf at hv
  obtain ⟨k, _, rfl⟩ := List.mem_map.1 hv
  rfl
theorem addQ_len (sd : Int) (out : List Lv) (o : Od) : (addQ sd out o).length ≤ out.length + 1 := by
  unfold addQ
  split
  · simp
  · simp
theorem foldQ_len (sd : Int) : ∀ (q : List Od) (out : List Lv), (q.foldl (addQ sd) out).length ≤ out.length + q.length
  | [], out => by simp
  | o :: r, out => by
    rw [List.foldl_cons]
    have h1 := foldQ_len sd r (addQ sd out o)
    have h2 := addQ_len sd out o
    simp; omega
/-- Where an order joins, the last level is of its side and price. -/
theorem joins_true {sd : Int} {out : List Lv} {o : Od} (h : joins sd out o = true) : ∃ (k : Nat) (v : Lv), out.length = k + 1 ∧ out[k]? = some v ∧ v.side = sd ∧ v.ticks = o.ticks ∧ addQ sd out o = out.take k ++ [⟨sd, o.ticks, v.qty + o.left, v.count + 1⟩] := by
  unfold joins at h
  split at h
  · next v hv =>
    simp at h
    have hne : out ≠ [] := by rintro rfl; simp at hv
    refine ⟨out.length - 1, v, ?_, ?_, h.1, h.2, ?_⟩
    · have := List.length_pos_iff.2 hne; omega
    · rw [List.getLast?_eq_getElem?] at hv; exact hv
    · unfold addQ
      rw [if_pos (by unfold joins; rw [hv]; simp [h]), List.dropLast_eq_take, lastQ, lastC, hv]
  · cases h
theorem joins_false {sd : Int} {out : List Lv} {o : Od} (h : joins sd out o = false) : out = [] ∨ ∃ (k : Nat) (v : Lv), out.length = k + 1 ∧ out[k]? = some v ∧ ¬ (v.side = sd ∧ v.ticks = o.ticks) := by
  by_cases hne : out = []
  · exact .inl hne
  · refine .inr ⟨out.length - 1, out.getLast hne, ?_, ?_, ?_⟩
    · have := List.length_pos_iff.2 hne; omega
    · rw [← List.getLast?_eq_getElem?, List.getLast?_eq_some_getLast hne]
    · unfold joins at h
      rw [List.getLast?_eq_some_getLast hne] at h
      simpa using h
/-- What each level has is bounded by how many orders came. -/
def QB (m : Nat) (out : List Lv) : Prop := ∀ v ∈ out, 0 ≤ v.qty ∧ v.qty ≤ 1000000 * (m : Int) ∧ 0 ≤ v.count ∧ v.count ≤ m
theorem qb_mono {m n : Nat} {out : List Lv} (h : QB m out) (hmn : m ≤ n) : QB n out := fun v hv => by
  have := h v hv
  refine ⟨this.1, ?_, this.2.2.1, ?_⟩
  · have := this.2.1; omega
  · have := this.2.2.2; omega
theorem qb_add {m : Nat} {out : List Lv} {sd : Int} {o : Od} (h : QB m out) (h0 : 0 ≤ o.left) (h1 : o.left ≤ 1000000) : QB (m + 1) (addQ sd out o) := by
  unfold addQ
  split
  · next hj =>
    obtain ⟨k, v, _, hv, _⟩ := joins_true hj
    intro u hu
    rcases List.mem_append.1 hu with hu | hu
    · exact qb_mono h (by omega) u ((List.dropLast_sublist out).subset hu)
    · simp at hu; subst hu
      have hl : out.getLast? = some v := by
        rw [List.getLast?_eq_getElem?]
        obtain ⟨k', v', hk', hv', -⟩ := joins_true hj
        rename_i hlen _
        rw [show out.length - 1 = k by omega]; exact hv
      have := h v (List.mem_of_getElem? hv)
      simp only [lastQ, lastC, hl]
      omega
  · intro u hu
    rcases List.mem_append.1 hu with hu | hu
    · exact qb_mono h (by omega) u hu
    · simp at hu; subst hu
      simp only
      omega
theorem flat_set {α : Type} {f : α → List Value} {sz : Nat} (hf : ∀ c, (f c).length = sz) : ∀ (l : List α) (i j : Nat) (c c' : α) (u : Value), l[i]? = some c → j < sz → f c' = (f c).set j u → (l.flatMap f).set (i * sz + j) u = (l.set i c').flatMap f
  | [], _, _, _, _, _, h, _, _ => by simp at h
  | a :: l, 0, j, c, c', u, h, hj, hc => by
    simp at h; subst h
    rw [List.set_cons_zero, List.flatMap_cons, List.flatMap_cons, hc, Nat.zero_mul, Nat.zero_add, List.set_append_left _ _ (by rw [hf]; exact hj)]
  | a :: l, i + 1, j, c, c', u, h, hj, hc => by
    simp at h
    rw [List.set_cons_succ, List.flatMap_cons, List.flatMap_cons, ← flat_set hf l i j c c' u h hj hc, List.set_append_right _ _ (by rw [hf, Nat.add_mul]; omega), hf]
    congr 2
    rw [Nat.add_mul]; omega
theorem set_last {out : List Lv} {k : Nat} (h : out.length = k + 1) (x : Lv) : out.set k x = out.take k ++ [x] := by
  refine List.ext_getElem? fun i => ?_
  by_cases hi : i < k
  · rw [List.getElem?_set_ne (by omega), List.getElem?_append_left (by rw [List.length_take]; omega), List.getElem?_take, if_pos hi]
  · by_cases hk : i = k
    · subst hk
      rw [List.getElem?_set_self (by omega), List.getElem?_append_right (by rw [List.length_take]; omega)]
      simp [List.length_take, show min i out.length = i by omega]
    · rw [List.getElem?_eq_none (by simp; omega), List.getElem?_eq_none (by simp; omega)]
theorem addQ_join_set {sd : Int} {out : List Lv} {o : Od} {k : Nat} {v : Lv} (hj : joins sd out o = true) (hl : out.length = k + 1) (hv : out[k]? = some v) : addQ sd out o = out.set k ⟨v.side, v.ticks, v.qty + o.left, v.count + 1⟩ := by
  obtain ⟨k', v', h1, h2, h3, h4, h5⟩ := joins_true hj
  obtain rfl : k = k' := by omega
  rw [hv] at h2
  obtain rfl := Option.some.inj h2
  rw [h5, set_last hl, h3, h4]
theorem addQ_new_set {sd : Int} {out : List Lv} {o : Od} (hj : joins sd out o = false) : addQ sd out o = (out ++ [Lv.mk sd o.ticks 0 0]).set out.length ⟨sd, o.ticks, o.left, 1⟩ := by
  rw [set_last (by simp)]
  unfold addQ
  rw [hj]; simp
end Go.Proofs.Ytdfihaabhichdaa
