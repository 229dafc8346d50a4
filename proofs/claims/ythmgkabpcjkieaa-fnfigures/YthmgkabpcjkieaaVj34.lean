/-
  The places of the orders of a day, as the model finds them: proved by walking the function.
-/
import Derived.Test.YthmgkabpcjkieaaVj33
namespace Go.Proofs.Ythmgkabpcjkieaa
open Go.RowKit
set_option linter.unusedVariables false

theorem infoIn : (Try.prog.info? 3).map (fun i => (i.zero, i.size, i.bytes)) = some (some (.int .i64 0), 1, 8) := by kernel_rfl
/-- The places of the orders of a day. -/
def dysF : List Od → Nat → List Nat
  | [], _ => []
  | o :: r, k => if o.life = 1 then k :: dysF r (k + 1) else dysF r (k + 1)
def dys (l : List Od) : List Nat := dysF l 0
def nval (k : Nat) : Value := .int .i64 k
abbrev IRow (W : World) (B : Nat) (v : Value) (l : List Nat) : Prop := W.ownsRow B 3 1 v l.length (l.map nval)
theorem drop_getD {l : List Od} {k : Nat} {c : Od} (h : l[k]? = some c) : l.drop k = c :: l.drop (k + 1) := by
  obtain ⟨h1, rfl⟩ := List.getElem?_eq_some_iff.1 h
  exact List.drop_eq_getElem_cons h1
set_option maxRecDepth 100000 in
set_option maxHeartbeats 1600000 in
theorem l04Days_any (v : Value) (l : List Od) (w : World) (hr : RdR Od.vs 6 w v l) (hn : l.length ≤ 1000) :
    Calls Try.prog 48 #[v] w fun e w' => ∃ v', e = .returned v' ∧ IRow w' w.heap.size v' (dys l) ∧ Below w.heap.size w w' := by
  obtain ⟨a, cap, rfl, hlen, hc⟩ := hr
  obtain ⟨i0, hi0, hz0, hz1, hz2⟩ := info_parts infoIn
  have hcell : ∀ (k : Nat) (c : Od), l[k]? = some c → ∃ b off, a = some ⟨b, off, none⟩ ∧ b < w.heap.size ∧ w.rangeAt b (off + k * 6) c.vs := by
    intro k c hk
    obtain ⟨b, off, h1, h2, h3⟩ := hc (by intro h; rw [h] at hk; simp at hk)
    exact ⟨b, off, h1, h2, h3 k c hk⟩
  have HC := hide hcell
  clear hcell hc
  have HO0 := hide (World.ownsRow_made (base := w.heap.size) (e := 3) (size := 1) w #[] 0 (Nat.le_refl _) (by decide) rfl)
  have HB0 : Hid (Below w.heap.size w (w.alloc (Obj.cells #[] 3))) := (Below.refl _ _).alloc (Nat.le_refl _) _
  go_enter Try.func48, Try.ntmps48
  go_wp2_with fail
  go_loopw [3, 4] (fun ov iv wr => ∃ (k : Nat) (out : List Nat), k ≤ l.length ∧ iv = .int .i64 k ∧ Hid (dys l = out ++ dysF (l.drop k) k) ∧ out.length ≤ k ∧ IRow wr w.heap.size ov out ∧ Below w.heap.size w wr) (fun _ iv _ => l.length - (intOf iv).toNat)
  case atStart => exact ⟨0, [], Nat.zero_le _, rfl, rfl, Nat.le_refl _, unhide HO0, unhide HB0⟩
  case round =>
    obtain ⟨k, out, hk, rfl, hpl, hol, hown, hbel⟩ := hrel
    have HB := hide hbel
    have HO := hide hown
    have hsz := hbel.size
    clear hbel hown HO0 HB0
    by_cases hlt : k < l.length
    · obtain ⟨c, hkc⟩ : ∃ c, l[k]? = some c := ⟨_, List.getElem?_eq_getElem hlt⟩
      have HP : Hid (dys l = out ++ if c.life = 1 then k :: dysF (l.drop (k + 1)) (k + 1) else dysF (l.drop (k + 1)) (k + 1)) := by
        have := unhide hpl
        rw [drop_getD hkc] at this
        exact this
      obtain ⟨b, off, rfl, hb, hcl⟩ := unhide HC k c hkc
      obtain ⟨g0, g1, g2, g3, g4, g5⟩ := od_cells (range_below hcl (unhide HB) hb)
      have hlt' : (k : Int) < l.length := by omega
      clear hkc hcl hb hpl
      by_cases hid : c.life = 1
      · have HP1 : Hid (dys l = (out ++ [k]) ++ dysF (l.drop (k + 1)) (k + 1)) := by
          have := unhide HP
          rw [if_pos hid] at this
          show _ = _
          rw [this]; simp
        rw [hid] at g4
        clear HP hid
        go_wp2_with (at_builtin; go_must (refine wpList_append_own _ rfl _ _ 99 rfl w.heap.size 3 i0 _ 1 8 Try.underlying99 hi0 hz0 hz1 hz2 rfl (by decide) _ out.length (out.map nval) rfl ((unhide HO).alloc _) ⟨wr.heap.size, 0, none⟩ 1 1 [nval k] rfl rfl (cellsQ wr _ _) (by simp [Value.oneCell', nval]) (by unfold maxLen; omega) (by omega) (by simp; omega) ?_); intro v4 w4 hown4 hg4 _; have HO4 := hide hown4; have HB4 := hide (((unhide HB).alloc hsz _).grown hg4 (by rw [size_made]; omega) (fun k hk => ((unhide HO).lt k hk).1)); clear hown4 hg4)
        go_roundw
        case rel => exact ⟨k + 1, out ++ [k], by omega, by go_num, unhide HP1, by simp; omega, by show World.ownsRow _ _ _ _ _ _ _; simpa using unhide HO4, unhide HB4⟩
        case measure => simp [intOf]; omega
      · have HP1 : Hid (dys l = out ++ dysF (l.drop (k + 1)) (k + 1)) := by
          have := unhide HP
          rw [if_neg hid] at this
          exact this
        clear HP
        go_wp2_with fail
        go_roundw
        case rel => exact ⟨k + 1, out, by omega, by go_num, unhide HP1, by omega, unhide HO, unhide HB⟩
        case measure => simp [intOf]; omega
    · have hke : k = l.length := by omega
      have HE : Hid (dys l = out) := by
        have := unhide hpl
        rw [List.drop_of_length_le (by omega)] at this
        show _ = _
        rw [this]; simp [dysF]
      have hge : ¬ ((k : Int) < l.length) := by omega
      clear hpl hlt hke
      go_wp2_with fail
      go_ret
      refine ⟨_, rfl, ?_, unhide HB⟩
      rw [unhide HE]
      exact unhide HO
end Go.Proofs.Ythmgkabpcjkieaa
namespace Go.Proofs.Ythmgkabpcjkieaa
open Go.RowKit

theorem specCut_any (s : ByteArray) (w : World) (hs : s.size ≤ maxLen) :
    Calls Try.prog 73 #[.string s] w fun e w' => e = .returned (.string (cutB s)) ∧ w' = w := by
  unfold maxLen at hs
  by_cases h : 13 < s.size
  · have HF := hide (show cutB s = s.extract 0 13 from if_pos (by omega))
    have h' : (13 : Int) < s.size := by omega
    go_enter Try.func73, Try.ntmps73
    go_wp2
    go_ret
    exact ⟨by rw [unhide HF]; rfl, rfl⟩
  · have HF : Hid (cutB s = s) := by
      by_cases h3 : s.size = 13
      · exact cutB_one s h3
      · exact if_neg (by omega)
    have h' : (s.size : Int) ≤ 13 := by omega
    go_enter Try.func73, Try.ntmps73
    go_wp2
    go_ret
    exact ⟨by rw [unhide HF]; rfl, rfl⟩
end Go.Proofs.Ythmgkabpcjkieaa
namespace Go.Proofs.Ythmgkabpcjkieaa
open Go.RowKit
set_option linter.unusedVariables false

theorem l02Normal_any (c : Cm) (w : World) (hg : c.g.size ≤ maxLen) :
    Calls Try.prog 45 #[.agg #[.int .i64 c.k, .int .i64 c.s, .int .i64 c.t, .int .i64 c.l, .int .i64 c.q, .int .i64 c.i, .float .f64 c.p, .string c.g]] w fun e w' =>
      e = .returned (.agg #[.int .i64 c.k, .int .i64 c.s, .int .i64 c.t, .int .i64 c.l, .int .i64 c.q, .int .i64 c.i, .float .f64 c.p, .string (cutB c.g)]) ∧ Below w.heap.size w w' := by
  obtain ⟨k, s, t, l, q, i, p, g⟩ := c
  have HS := hide (fun W => specCut_any g W hg)
  have hsf := sfl
  simp only at *
  clear hg
  go_enter Try.func45, Try.ntmps45
  go_wp2_with (go_at_call 73; refine (unhide HS _).mono ?_; rintro e w' ⟨rfl, rfl⟩)
  go_returns
  refine ⟨rfl, ?_⟩
  go_grown
end Go.Proofs.Ythmgkabpcjkieaa
namespace Go.Proofs.Ythmgkabpcjkieaa
open Go.RowKit
set_option linter.unusedVariables false

def aggL : Value → List Value
  | .agg xs => xs.toList
  | _ => []
/-- What the operations have whose values are made: orders, a book, events. -/
def DS (S : Nat) (next : Int) (L : List Od) (E : List Ev) : Nat → World → Value → Prop
  | 0, W, v => ORow W S v L ∧ ∃ a c, v = .slice a L.length c
  | 1, W, v => ∃ v4, v = .agg #[.int .i64 next, v4] ∧ (∃ a c, v4 = .slice a L.length c) ∧ ORow W S v4 L
  | 2, W, v => ERow W S v E ∧ ∃ a c, v = .slice a E.length c
  | 3, W, v => ∃ b, v = .slice (some ⟨b, 0, none⟩) 1 1 ∧ b < W.heap.size ∧ S ≤ b ∧ W.rangeAt b 0 (E.flatMap Ev.vs)
  | _, _, _ => True
def CX (vs : List Value) (ks : List (Nat × Nat)) (S : Nat) (next : Int) (L : List Od) (E : List Ev) (W : World) (j : Nat) (v : Value) : Prop :=
  match ks.lookup j with
  | some d => DS S next L E d W v
  | none => ∀ u, vs[j]? = some u → v = u
section
variable {vs : List Value} {ks : List (Nat × Nat)} {S R : Nat} {next : Int} {L : List Od} {E : List Ev} {W W' : World} {j d : Nat} {v u : Value}
theorem cx_val (h : CX vs ks S next L E W j v) (hk : ks.lookup j = none) (hu : vs[j]? = some u) : v = u := by
  rw [CX, hk] at h; exact h u hu
theorem cx_sp (h : CX vs ks S next L E W j v) (hk : ks.lookup j = some d) : DS S next L E d W v := by
  rw [CX, hk] at h; exact h
theorem cx_mkv (hk : ks.lookup j = none) (hu : vs[j]? = some v) : CX vs ks S next L E W j v := by
  rw [CX, hk]; intro u h; rw [hu] at h; cases h; rfl
theorem cx_mks (hk : ks.lookup j = some d) (hd : DS S next L E d W v) : CX vs ks S next L E W j v := by
  rw [CX, hk]; exact hd
theorem ds_mono (hR : R < S) (hb : KB R W W') (h : DS S next L E d W v) : DS S next L E d W' v := by
  match d with
  | 0 => exact ⟨kb_row h.1 hb hR, h.2⟩
  | 1 => obtain ⟨v4, h1, h2, h3⟩ := h; exact ⟨v4, h1, h2, kb_row h3 hb hR⟩
  | 2 => exact ⟨kb_row h.1 hb hR, h.2⟩
  | 3 => obtain ⟨b, h1, h2, h3, h4⟩ := h; exact ⟨b, h1, Nat.lt_of_lt_of_le h2 hb.size, h3, kb_range hb h4 (by omega)⟩
  | d + 4 => trivial
theorem cx_mono (hR : R < S) : ∀ W W' j v, KB R W W' → CX vs ks S next L E W j v → CX vs ks S next L E W' j v := by
  intro W W' j v hb h
  unfold CX at h ⊢
  split at h
  · exact ds_mono hR hb h
  · exact h
theorem cx_monoB (hS : 0 < S) : ∀ W W' j v, Below W.heap.size W W' → CX vs ks S next L E W j v → CX vs ks S next L E W' j v := by
  intro W W' j v hb h
  unfold CX at h ⊢
  split at h
  · exact ds_mono hS (kb_below hb) h
  · exact h
end
theorem rowE_made {B e sz n : Nat} (W : World) (xs : List Value) (hB : B ≤ W.heap.size) (hn : n ≤ maxLen) (hl : xs.length = n * sz) : (W.alloc (Obj.cells xs.toArray e)).ownsRow B e sz (.slice (some ⟨W.heap.size, 0, none⟩) n n) n xs :=
  ⟨hl, .inr ⟨W.heap.size, n, xs.toArray, rfl, hB, heap_alloc_new W _, Nat.le_refl _, hn, by simpa using hl, by simp [← hl]⟩⟩
/-- One event in a row of its own. -/
theorem eRow_one {B : Nat} (W : World) (e : Ev) (hB : B ≤ W.heap.size) : ERow (W.alloc (Obj.cells e.vs.toArray 97)) B (.slice (some ⟨W.heap.size, 0, none⟩) 1 1) [e] := by
  have h := rowE_made (B := B) (e := 97) (sz := 14) (n := 1) W e.vs hB (by decide) (by rfl)
  have e1 : [e].flatMap Ev.vs = e.vs := by simp
  show World.ownsRow _ _ _ _ _ [e].length ([e].flatMap Ev.vs)
  rw [e1]
  exact h
theorem ref_newS {next : Int} {l : List Od} {c : Cm} (h : refR next l c = 0) (hk : c.k = 1) : (c.s = 1 ∨ c.s = 2) ∧ prcB c = true ∧ tagB c.g = true ∧ c.i = 0 := by
  have h0 := h
  have h := ref_new h hk
  rw [newR] at h
  split at h
  · cases h
  rename_i h1
  split at h
  · cases h
  split at h
  · cases h
  split at h
  · cases h
  rename_i h4
  split at h
  · cases h
  split at h
  · cases h
  rename_i h6
  refine ⟨side_of (by simpa using h1), by simpa using h4, by simpa using h6, ?_⟩
  rw [← ref_eq, refS] at h0
  split at h0
  · cases h0
  split at h0
  · cases h0
  rename_i hf
  simp [formB, hk] at hf
  exact hf
/-- The writer's value laid into a slot behind it; the slot had another one. -/
def RA (n : Nat) (v0 : Value) (x : List Bool) (f : Nat → Value) : Prop := (x[n + 1]? = some true → f (n + 1) = f n) ∧ (x[n + 1]? = some false → f (n + 1) = v0)
def RYBA (F : (Nat → Value) → Act) (C : World → Nat → Value → Prop) (n : Nat) (v0 : Value) (Q : (Nat → Value) → World → Prop) (base : World) (x : List Bool) (A : Act) (W : World) : Prop := ∃ f, A = F f ∧ RY C n Q base x f W ∧ RA n v0 x f
theorem ryb_start {f : Nat → Value} {n k : Nat} {v0 : Value} (h : f (n + 1) = v0) : RA n v0 (List.replicate k false) f := ⟨fun h => by rw [List.getElem?_replicate] at h; split at h <;> simp at h, fun _ => h⟩
theorem ryb_keep {x : List Bool} {f : Nat → Value} {n i : Nat} {v0 : Value} (v : Value) (h : RA n v0 x f) (hi : i ≠ n) (hi' : i ≠ n + 1) : RA n v0 (x.set i true) (upd f i v) := by
  rw [RA, gq hi', upd_ne _ _ (fun e => hi' e.symm), upd_ne _ _ (fun e => hi e.symm)]; exact h
theorem ryb_write {x : List Bool} {f : Nat → Value} {n : Nat} {v0 : Value} (v : Value) (h : RA n v0 x f) (hx : x[n + 1]? = some false) : RA n v0 (x.set n true) (upd f n v) := by
  rw [RA, gq (by omega), upd_ne _ _ (show n + 1 ≠ n by omega)]
  exact ⟨fun e => (by rw [hx] at e; cases e), h.2⟩
theorem ryb_lay {x : List Bool} {f : Nat → Value} {n : Nat} {v0 : Value} (hx : x[n + 1]? = some false) : RA n v0 (x.set (n + 1) true) (upd f (n + 1) (f n)) := by
  rw [RA, gqs hx]
  exact ⟨fun _ => by rw [upd_same, upd_ne _ _ (by omega)], fun e => by cases e⟩
/-- The cells of a row, as a source. -/
theorem row_src {B e sz n g c : Nat} {xs : List Value} {W : World} (h : W.ownsRow B e sz (.slice (some ⟨g, 0, none⟩) n c) n xs) : ∀ j u, xs[j]? = some u → W.cell? ((⟨g, 0, none⟩ : Addr).add j) = some u := by
  intro j u hu
  rcases h.2 with ⟨h1, _⟩ | ⟨g', cap, cur, h1, _, hgg, _, _, hcs, hx⟩
  · cases h1
  · simp only [Value.slice.injEq, Option.some.injEq, Addr.mk.injEq, and_true, true_and] at h1
    obtain ⟨rfl, -⟩ := h1
    rw [Addr.add_mid, cell_of_row W g (0 + j) cur _ (0, 0) hgg]
    rw [← hx] at hu
    rw [List.getElem?_take] at hu
    split at hu
    · simpa using hu
    · cases hu
theorem take_nd {l : List Od} {j : Nat} {o : Od} (h : l[j]? = some o) (hd : o.life ≠ 1) : (l.take (j + 1)).filter ndy = (l.take j).filter ndy ++ [o] := by
  rw [List.take_add_one, h, List.filter_append]
  simp [ndy, hd]
theorem take_ny {l : List Od} {j : Nat} {o : Od} (h : l[j]? = some o) (hd : o.life = 1) : (l.take (j + 1)).filter ndy = (l.take j).filter ndy := by
  rw [List.take_add_one, h, List.filter_append]
  simp [ndy, hd]
theorem dysF_len : ∀ (l : List Od) (k : Nat), (dysF l k).length = (l.filter dyB).length
  | [], _ => rfl
  | o :: r, k => by
    rw [dysF, List.filter_cons]
    by_cases h : o.life = 1
    · rw [if_pos h, if_pos (by simp [dyB, h])]; simp [dysF_len r]
    · rw [if_neg h, if_neg (by simp [dyB, h])]; exact dysF_len r _
theorem cutB_tag {g : ByteArray} (h : tagB g = true) : cutB g = g := by
  simp only [tagB, Bool.and_eq_true, decide_eq_true_eq] at h
  rw [cutB, if_neg (by omega)]
/-- What holds while a list and one order more are laid anew and counted. -/
structure RZ (C : Nat → Value → Prop) (B0 : World) (L : List Od) (t : Od) (x : List Bool) (f : Nat → Value) (W : World) : Prop where
  bel : Below B0.heap.size B0 W
  c : ∀ j, x[j]? = some true → C j (f j)
  m0 : x[0]? = some true → x[2]? = some false → ORow W B0.heap.size (f 0) []
  m2 : x[2]? = some true → x[5]? = some false → ORow W B0.heap.size (f 2) L
  m4 : x[4]? = some true → x[5]? = some false → ∃ b, f 4 = .slice (some ⟨b, 0, none⟩) 1 1 ∧ b < W.heap.size ∧ B0.heap.size ≤ b ∧ W.rangeAt b 0 t.vs ∧ (x[0]? = some true → x[2]? = some false → (f 0).ownBlock ≠ some b)
  m5 : x[5]? = some true → ORow W B0.heap.size (f 5) (L ++ [t])
section
variable {C : Nat → Value → Prop} {B0 W W' : World} {L : List Od} {t : Od} {x : List Bool} {f : Nat → Value}
theorem rz_grow (h : RZ C B0 L t x f W) (hb : Below W.heap.size W W') : RZ C B0 L t x f W' :=
  ⟨h.bel.trans (hb.mono h.bel.size), h.c, fun a b => oRow_below (h.m0 a b) hb, fun a b => oRow_below (h.m2 a b) hb, fun a b => by
    obtain ⟨b', h1, h2, h3, h4, h5⟩ := h.m4 a b
    exact ⟨b', h1, Nat.lt_of_lt_of_le h2 hb.size, h3, range_below h4 hb h2, h5⟩, fun a => oRow_below (h.m5 a) hb⟩
theorem rz_val (h : RZ C B0 L t x f W) (i : Nat) (v : Value) (hv : C i v) (hh0 : i ≠ 0) (hh2 : i ≠ 2) (hh4 : i ≠ 4) (hh5 : i ≠ 5) : RZ C B0 L t (x.set i true) (upd f i v) W := by
  refine ⟨h.bel, step_upd h.c hv, ?_, ?_, ?_, ?_⟩ <;> simp only [gq hh0, gq hh2, gq hh4, gq hh5, upd_ne f v hh0.symm, upd_ne f v hh2.symm, upd_ne f v hh4.symm, upd_ne f v hh5.symm]
  · exact h.m0
  · exact h.m2
  · exact h.m4
  · exact h.m5
theorem rz_0 (h : RZ C B0 L t x f W) (hh0 : x[0]? = some false) (hc : ∀ v, C 0 v) : RZ C B0 L t (x.set 0 true) (upd f 0 (.slice (some ⟨W.heap.size, 0, none⟩) 0 0)) (W.alloc (Obj.cells #[] 61)) := by
  have hg := rz_grow h ((Below.refl W.heap.size W).alloc (Nat.le_refl _) (Obj.cells #[] 61))
  refine ⟨hg.bel, step_upd hg.c (hc _), ?_, ?_, ?_, ?_⟩
  · intro _ _; rw [upd_same]; exact World.ownsRow_made W #[] 0 h.bel.size (by decide) rfl
  · rw [gq (by decide), gq (by decide), upd_ne _ _ (by decide)]; exact hg.m2
  · intro hh4 hh5
    rw [gq (by decide)] at hh4 hh5
    obtain ⟨b, h1, h2, h3, h4, h5⟩ := hg.m4 hh4 hh5
    obtain ⟨b', e1, e2, _⟩ := h.m4 hh4 hh5
    rw [h1] at e1
    simp only [Value.slice.injEq, Option.some.injEq, Addr.mk.injEq, and_true] at e1
    subst e1
    refine ⟨b, by rw [upd_ne _ _ (by decide)]; exact h1, h2, h3, h4, fun _ _ e => ?_⟩
    rw [upd_same] at e
    simp [Value.ownBlock] at e
    omega
  · rw [gq (by decide), upd_ne _ _ (by decide)]; exact hg.m5
theorem rz_2 (h : RZ C B0 L t x f W) (hh0 : x[0]? = some true) (hh2 : x[2]? = some false) (hh5 : x[5]? = some false) (hc : ∀ v, C 2 v) {v' : Value} (ho : ORow W' B0.heap.size v' L) (hg : W.grownBy W' (f 0).ownBlock) : RZ C B0 L t (x.set 2 true) (upd f 2 v') W' := by
  refine ⟨h.bel.grown hg h.bel.size (fun k hk => ((h.m0 hh0 hh2).lt k hk).1), step_upd h.c (hc _), ?_, ?_, ?_, ?_⟩
  · intro _ e; rw [gqs hh2] at e; cases e
  · intro _ _; rw [upd_same]; exact ho
  · intro hh4 _
    rw [gq (by decide)] at hh4
    obtain ⟨b, h1, h2, h3, h4, h5⟩ := h.m4 hh4 hh5
    refine ⟨b, by rw [upd_ne _ _ (by decide)]; exact h1, Nat.lt_of_lt_of_le h2 hg.size, h3, range_grown h4 hg h2 (fun e => h5 hh0 hh2 e.symm), fun _ e => ?_⟩
    rw [gqs hh2] at e; cases e
  · intro e; rw [gq (by decide), hh5] at e; cases e
theorem rz_4 (h : RZ C B0 L t x f W) (hh4 : x[4]? = some false) (hh5 : x[5]? = some false) (hc : ∀ v, C 4 v) : RZ C B0 L t (x.set 4 true) (upd f 4 (.slice (some ⟨W.heap.size, 0, none⟩) 1 1)) (W.alloc (Obj.cells t.vs.toArray 61)) := by
  have hg := rz_grow h ((Below.refl W.heap.size W).alloc (Nat.le_refl _) (Obj.cells t.vs.toArray 61))
  refine ⟨hg.bel, step_upd hg.c (hc _), ?_, ?_, ?_, ?_⟩
  · rw [gq (by decide), gq (by decide), upd_ne _ _ (by decide)]; exact hg.m0
  · rw [gq (by decide), gq (by decide), upd_ne _ _ (by decide)]; exact hg.m2
  · intro _ _
    refine ⟨W.heap.size, upd_same _ _ _, by rw [size_made]; omega, h.bel.size, cells_made W t.vs _, fun hh0 hh2 e => ?_⟩
    rw [gq (by decide)] at hh0 hh2
    rw [upd_ne _ _ (by decide)] at e
    have := ((h.m0 hh0 hh2).lt _ e).2
    omega
  · rw [gq (by decide), upd_ne _ _ (by decide)]; exact hg.m5
theorem rz_5 (h : RZ C B0 L t x f W) (hh2 : x[2]? = some true) (hh5 : x[5]? = some false) (hc : ∀ v, C 5 v) {v' : Value} (ho : ORow W' B0.heap.size v' (L ++ [t])) (hg : W.grownBy W' (f 2).ownBlock) : RZ C B0 L t (x.set 5 true) (upd f 5 v') W' := by
  refine ⟨h.bel.grown hg h.bel.size (fun k hk => ((h.m2 hh2 hh5).lt k hk).1), step_upd h.c (hc _), ?_, ?_, ?_, ?_⟩
  · intro _ e; rw [gq (by decide)] at e; rw [e] at hh2; cases hh2
  · intro _ e; rw [gqs hh5] at e; cases e
  · intro _ e; rw [gqs hh5] at e; cases e
  · intro _; rw [upd_same]; exact ho
end
def RZBA (F : (Nat → Value) → Act) (C : Nat → Value → Prop) (B0 : World) (L : List Od) (t : Od) (v0 : Value) (x : List Bool) (A : Act) (W : World) : Prop := ∃ f, A = F f ∧ RZ C B0 L t x f W ∧ RA 5 v0 x f
theorem rz_start {C : Nat → Value → Prop} {B0 : World} {L : List Od} {t : Od} {f : Nat → Value} {k : Nat} : RZ C B0 L t (List.replicate k false) f { B0 with drawn := B0.drawn + 1 } := by
  have hno : ∀ j, (List.replicate k false)[j]? = some true → False := fun j hj => by rw [List.getElem?_replicate] at hj; split at hj <;> simp at hj
  exact ⟨⟨rfl, rfl, rfl, Nat.le_refl _, fun _ _ => rfl⟩, fun j hj => (hno j hj).elim, fun h => (hno _ h).elim, fun h => (hno _ h).elim, fun h => (hno _ h).elim, fun h => (hno _ h).elim⟩
def CZ (lv tv : Value) : Nat → Value → Prop
  | 1, v => v = lv
  | 3, v => v = tv
  | _, _ => True
theorem acc_l {c : Cm} {next : Int} {F : List Od × Int × List Ev} (hp : prcB c = true) : accL c next F = if 0 < F.2.1 ∧ restB c.t = true then F.1 ++ [⟨next, c.s, tkS c.p, F.2.1, c.l, c.g⟩] else F.1 := by
  rw [accL]
  by_cases hr : restB c.t = true
  · have ht : tkOk c.p = true := by
      rw [prcB, if_neg (by intro e; rw [restB, e] at hr; simp at hr)] at hp; exact hp
    rw [tkS_ok ht]
  · rw [if_neg (fun h => hr h.2), if_neg (fun h => hr h.2)]
theorem one_allE (l : List Ev) : ∀ u ∈ l.flatMap Ev.vs, u.oneCell' = true := by
  intro u hu
  obtain ⟨e, _, h⟩ := List.mem_flatMap.1 hu
  exact one_ev e u h
end Go.Proofs.Ythmgkabpcjkieaa
