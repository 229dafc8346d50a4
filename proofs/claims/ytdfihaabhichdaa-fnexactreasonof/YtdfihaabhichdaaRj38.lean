/-
  The reason why a command is refused, by the program: proved by walking the functions.
-/
import Derived.Test.YtdfihaabhichdaaRj12
import Derived.Test.YtdfihaabhichdaaRj13
import Derived.Test.YtdfihaabhichdaaRj37
namespace Go.Proofs.Ytdfihaabhichdaa
open Go.RowKit
set_option linter.unusedVariables false

/-- The reason why a command is refused over a right book. -/
def refR (next : Int) (l : List Od) (c : Cm) : Int :=
  if c.k = 1 then (if sameC ⟨1, c.s, c.t, c.l, c.q, 0, c.p, c.g⟩ c = true then newR next l c else 2)
  else if c.k = 2 then (if sameC ⟨2, 0, 0, 0, 0, c.i, 0, ⟨#[]⟩⟩ c = true then idR l c.i else 2)
  else if c.k = 3 then (if sameC ⟨3, 0, 0, 0, c.q, c.i, 0, ⟨#[]⟩⟩ c = true then redR l c.i c.q else 2)
  else if c.k = 4 then (if sameC ⟨4, 0, 0, 0, 0, 0, 0, ⟨#[]⟩⟩ c = true then 0 else 2)
  else 1
set_option maxRecDepth 100000 in
set_option maxHeartbeats 800000 in
theorem refusal_any (next : Int) (vb : Value) (l : List Od) (c : Cm) (w : World) (hr : RdR Od.vs 6 w vb l) (hs : SlOk vb) (hg : GoodL l) (h0 : 0 ≤ next) (h1 : next ≤ 1000000) (ht : c.g.size ≤ maxLen) :
    Calls Try.prog 16 #[.agg #[.int .i64 next, vb], cmV c] w fun e w' => e = .returned (.int .i64 (refR next l c)) ∧ Below w.heap.size w w' := by
  obtain ⟨kk, s, ty, li, qt, ii, pr, tg⟩ := c
  unfold cmV
  simp only at ht ⊢
  by_cases e1 : kk = 1
  · subst e1; exact refusal_1 next vb l s ty li qt ii pr tg w hr hs hg h0 h1 ht
  by_cases e2 : kk = 2
  · subst e2; exact refusal_2 next vb l s ty li qt ii pr tg w hr hs hg h0 h1 ht
  by_cases e3 : kk = 3
  · subst e3; exact refusal_3 next vb l s ty li qt ii pr tg w hr hs hg h0 h1 ht
  by_cases e4 : kk = 4
  · subst e4; exact refusal_4 next vb l s ty li qt ii pr tg w hr hs hg h0 h1 ht
  have HRE : Hid (refR next l ⟨kk, s, ty, li, qt, ii, pr, tg⟩ = 1) := by show _ = _; simp [refR, e1, e2, e3, e4]
  have hci : cmdI ⟨kk, s, ty, li, qt, ii, pr, tg⟩ = .nilIface := by simp [cmdI, e1, e2, e3, e4]
  obtain ⟨a, cap, rfl, hlen, hc⟩ := hr
  clear hc hg hs h0 h1 ht hlen e1 e2 e3 e4
  have hs1 : (w.alloc (Obj.cells #[.int .i64 next, .slice a l.length cap] 34)).heap.size = w.heap.size + 1 := size_made _ _
  have hs2 : ((w.alloc (Obj.cells #[.int .i64 next, .slice a l.length cap] 34)).alloc (Obj.cells #[.int .i64 kk, .int .i64 s, .int .i64 ty, .int .i64 li, .int .i64 qt, .int .i64 ii, .float .f64 pr, .string tg] 36)).heap.size = w.heap.size + 1 + 1 := by rw [size_made, hs1]
  have r1 := cells_made w [.int .i64 next, .slice a l.length cap] 34
  have r2 := cells_made (w.alloc (Obj.cells #[.int .i64 next, .slice a l.length cap] 34)) [.int .i64 kk, .int .i64 s, .int .i64 ty, .int .i64 li, .int .i64 qt, .int .i64 ii, .float .f64 pr, .string tg] 36
  rw [hs1] at r2
  have b12 : Below (w.heap.size + 1) (w.alloc (Obj.cells #[.int .i64 next, .slice a l.length cap] 34)) ((w.alloc (Obj.cells #[.int .i64 next, .slice a l.length cap] 34)).alloc (Obj.cells #[.int .i64 kk, .int .i64 s, .int .i64 ty, .int .i64 li, .int .i64 qt, .int .i64 ii, .float .f64 pr, .string tg] 36)) := (Below.refl _ _).alloc (by rw [hs1]; omega) _
  have HB2 : Hid (Below w.heap.size w ((w.alloc (Obj.cells #[.int .i64 next, .slice a l.length cap] 34)).alloc (Obj.cells #[.int .i64 kk, .int .i64 s, .int .i64 ty, .int .i64 li, .int .i64 qt, .int .i64 ii, .float .f64 pr, .string tg] 36))) := ((Below.refl _ _).alloc (Nat.le_refl _) _).alloc (by rw [hs1]; omega) _
  have HX : Hid (_ ∧ _) := ⟨range_below r1 b12 (by omega), r2⟩
  have HLT : Hid (w.heap.size < ((w.alloc (Obj.cells #[.int .i64 next, .slice a l.length cap] 34)).alloc (Obj.cells #[.int .i64 kk, .int .i64 s, .int .i64 ty, .int .i64 li, .int .i64 qt, .int .i64 ii, .float .f64 pr, .string tg] 36)).heap.size ∧ w.heap.size + 1 < ((w.alloc (Obj.cells #[.int .i64 next, .slice a l.length cap] 34)).alloc (Obj.cells #[.int .i64 kk, .int .i64 s, .int .i64 ty, .int .i64 li, .int .i64 qt, .int .i64 ii, .float .f64 pr, .string tg] 36)).heap.size) := ⟨by omega, by omega⟩
  clear hs1 hs2 r1 r2 b12
  go_enter Try.func16, Try.ntmps16
  refine wp_seq_k fun K hK => ?_
  have HK1 := hide hK
  clear hK
  go_wp2_with fail
  refine unhide HK1 _ _ ?_
  clear HK1
  generalize ((w.alloc (Obj.cells #[.int .i64 next, .slice a l.length cap] 34)).alloc (Obj.cells #[.int .i64 kk, .int .i64 s, .int .i64 ty, .int .i64 li, .int .i64 qt, .int .i64 ii, .float .f64 pr, .string tg] 36)) = X2 at HB2 HX HLT ⊢
  have HX : Hid (X2.rangeAt w.heap.size 0 [.int .i64 next, .slice a l.length cap] ∧ X2.rangeAt (w.heap.size + 1) 0 [.int .i64 kk, .int .i64 s, .int .i64 ty, .int .i64 li, .int .i64 qt, .int .i64 ii, .float .f64 pr, .string tg])  := unhide HX
  have k0 : X2.cell? ⟨w.heap.size, 0, none⟩ = some (.int .i64 next) := (unhide HX).1 0 _ rfl
  have k1 : X2.cell? ⟨w.heap.size, 1, none⟩ = some (.slice a l.length cap) := (unhide HX).1 1 _ rfl
  have o0 : X2.cell? ⟨w.heap.size + 1, 0, none⟩ = some (.int .i64 kk) := (unhide HX).2 0 _ rfl
  have o1 : X2.cell? ⟨w.heap.size + 1, 1, none⟩ = some (.int .i64 s) := (unhide HX).2 1 _ rfl
  have o2 : X2.cell? ⟨w.heap.size + 1, 2, none⟩ = some (.int .i64 ty) := (unhide HX).2 2 _ rfl
  have o3 : X2.cell? ⟨w.heap.size + 1, 3, none⟩ = some (.int .i64 li) := (unhide HX).2 3 _ rfl
  have o4 : X2.cell? ⟨w.heap.size + 1, 4, none⟩ = some (.int .i64 qt) := (unhide HX).2 4 _ rfl
  have o5 : X2.cell? ⟨w.heap.size + 1, 5, none⟩ = some (.int .i64 ii) := (unhide HX).2 5 _ rfl
  have o6 : X2.cell? ⟨w.heap.size + 1, 6, none⟩ = some (.float .f64 pr) := (unhide HX).2 6 _ rfl
  have o7 : X2.cell? ⟨w.heap.size + 1, 7, none⟩ = some (.string tg) := (unhide HX).2 7 _ rfl
  go_wp2_with fail
  refine (commandOf_any ⟨kk, s, ty, li, qt, ii, pr, tg⟩ X2).mono ?_
  rw [hci]
  clear hci
  rintro e w4 ⟨rfl, hb4⟩
  have HB4 := hide ((unhide HB2).trans (hb4.mono (unhide HB2).size))
  clear hb4
  go_wp2_with fail
  go_ret
  exact ⟨ret_int (unhide HRE).symm, unhide HB4⟩
theorem okS_good {next : Int} {l : List Od} (h : okS next l = true) : GoodL l ∧ 0 ≤ next ∧ next ≤ 1000000 := by
  simp only [okS, Bool.and_eq_true, decide_eq_true_eq] at h
  obtain ⟨⟨⟨h1, h2⟩, h4⟩, _⟩ := h
  refine ⟨⟨h2, fun o ho => ?_, (allR_rising h4).1⟩, ?_, ?_⟩
  · have := allR_sides h4 o ho
    simp [ordB, betB] at this
    omega
  · simp [betB] at h1; omega
  · simp [betB] at h1; omega
/-- What ReasonOf tells: the reason, the code. -/
def reaR (next : Int) (l : List Od) (c : Cm) : Int := if okS next l = true then refR next l c else 0
def reaC (next : Int) (l : List Od) : Int := if okS next l = true then 0 else 1
end Go.Proofs.Ytdfihaabhichdaa
namespace Go.Proofs.Ytdfihaabhichdaa
open Go.RowKit
set_option linter.unusedVariables false

set_option maxHeartbeats 400000 in
theorem l04Rests_any (t : Int) (w : World) :
    Calls Try.prog 43 #[.int .i64 t] w fun e w' => e = .returned (.bool (restB t)) ∧ w' = w := by
  by_cases h1 : t = 1
  · subst h1
    go_enter Try.func43, Try.ntmps43
    go_wp2_with fail
    go_ret
    exact ⟨rfl, rfl⟩
  have b1 : (t == 1) = false := by rw [beq_eq_false_iff_ne]; exact h1
  have HK : Hid (restB t = (t == 5)) := by
    show _ = _
    by_cases h5 : t = 5 <;> simp [restB, h1, h5]
  clear h1
  go_enter Try.func43, Try.ntmps43
  go_wp2_with fail
  go_ret
  exact ⟨ret_bool (unhide HK).symm, rfl⟩
/-- Whether an order of a side and a price trades with another one. -/
def crossS (sd tk : Int) (o : Od) : Bool := if tk = 0 then true else if sd = 1 then decide (o.ticks ≤ tk) else decide (tk ≤ o.ticks)
set_option maxHeartbeats 400000 in
theorem l04Crosses_any (sd tk : Int) (o : Od) (w : World) :
    Calls Try.prog 80 #[.int .i64 sd, .int .i64 tk, .agg #[.int .i64 o.id, .int .i64 o.side, .int .i64 o.ticks, .int .i64 o.left, .int .i64 o.life, .string o.tag]] w fun e w' => e = .returned (.bool (crossS sd tk o)) ∧ Below w.heap.size w w' := by
  obtain ⟨id, side, ticks, left, life, tag⟩ := o
  simp only
  by_cases h0 : tk = 0
  · subst h0
    go_enter Try.func80, Try.ntmps80
    go_wp2_with fail
    go_ret
    exact ⟨rfl, by go_grown⟩
  have b0 : (tk == 0) = false := by rw [beq_eq_false_iff_ne]; exact h0
  by_cases h1 : sd = 1
  · subst h1
    have HK : Hid (crossS 1 tk ⟨id, side, ticks, left, life, tag⟩ = decide (ticks ≤ tk)) := by show _ = _; simp [crossS, h0]
    clear h0
    go_enter Try.func80, Try.ntmps80
    go_wp2_with fail
    go_ret
    exact ⟨ret_bool (unhide HK).symm, by go_grown⟩
  have b1 : (sd == 1) = false := by rw [beq_eq_false_iff_ne]; exact h1
  have HK : Hid (crossS sd tk ⟨id, side, ticks, left, life, tag⟩ = decide (tk ≤ ticks)) := by show _ = _; simp [crossS, h0, h1]
  clear h0 h1
  go_enter Try.func80, Try.ntmps80
  go_wp2_with fail
  go_ret
  exact ⟨ret_bool (unhide HK).symm, by go_grown⟩
set_option maxRecDepth 100000 in
set_option maxHeartbeats 800000 in
theorem l04Find_any (v : Value) (l : List Od) (id : Int) (w : World) (hr : RdR Od.vs 6 w v l) :
    Calls Try.prog 25 #[v, .int .i64 id] w fun e w' => e = .returned (.int .i64 (plc l id)) ∧ Below w.heap.size w w' := by
  obtain ⟨a, cap, rfl, hlen, hc⟩ := hr
  have hcell : ∀ (k : Nat) (c : Od), l[k]? = some c → ∃ b off, a = some ⟨b, off, none⟩ ∧ b < w.heap.size ∧ w.rangeAt b (off + k * 6) c.vs := by
    intro k c hk
    obtain ⟨b, off, h1, h2, h3⟩ := hc (by intro h; rw [h] at hk; simp at hk)
    exact ⟨b, off, h1, h2, h3 k c hk⟩
  have HC := hide hcell
  clear hcell hc
  go_enter Try.func25, Try.ntmps25
  go_wp2_with fail
  go_loopw [5] (fun iv wr => ∃ (k : Nat), k ≤ l.length ∧ iv = .int .i64 k ∧ Hid (plc l id = plcF id (l.drop k) k) ∧ Below w.heap.size w wr) (fun iv _ => l.length - (intOf iv).toNat)
  case atStart => exact ⟨0, Nat.zero_le _, rfl, rfl, Below.refl _ _⟩
  case round =>
    obtain ⟨k, hk, rfl, hpl, hbel⟩ := hrel
    have HB := hide hbel
    clear hbel
    by_cases hlt : k < l.length
    · obtain ⟨c, hkc⟩ : ∃ c, l[k]? = some c := ⟨_, List.getElem?_eq_getElem hlt⟩
      have HP : Hid (plc l id = if c.id = id then (k : Int) else plcF id (l.drop (k + 1)) (k + 1)) := by
        have := unhide hpl
        rw [drop_get hkc] at this
        exact this
      obtain ⟨b, off, rfl, hb, hcl⟩ := unhide HC k c hkc
      obtain ⟨g0, g1, g2, g3, g4, g5⟩ := od_cells (range_below hcl (unhide HB) hb)
      have hlt' : (k : Int) < l.length := by omega
      clear hkc hcl hb hpl
      by_cases hid : c.id = id
      · have hb : (c.id == id) = true := by simpa using hid
        have HK : Hid (plc l id = k) := by have := unhide HP; rw [if_pos hid] at this; exact this
        clear hid
        go_wp2_with fail
        go_ret
        exact ⟨ret_int (unhide HK).symm, unhide HB⟩
      · have hb : (c.id == id) = false := by simpa using hid
        have HK : Hid (plc l id = plcF id (l.drop (k + 1)) (k + 1)) := by have := unhide HP; rw [if_neg hid] at this; exact this
        clear hid
        go_wp2_with fail
        go_roundw
        case rel => exact ⟨k + 1, by omega, by go_num, unhide HK, unhide HB⟩
        case measure => simp [intOf]; omega
    · have HK : Hid (plc l id = -1) := by
        have h := unhide hpl
        rw [List.drop_of_length_le (by omega)] at h
        exact h
      go_wp2_with fail
      go_ret
      exact ⟨ret_int (unhide HK).symm, unhide HB⟩
end Go.Proofs.Ytdfihaabhichdaa
namespace Go.Proofs.Ytdfihaabhichdaa
open Go.RowKit
set_option linter.unusedVariables false

theorem bitsS_any (x : Nat) (w : World) :
    Calls Try.prog 61 #[.float .f64 x] w fun e w' => e = .returned (.int .u64 (fbit x)) ∧ w' = w := by
  have hb := fbits
  cases h : nanB x with
  | true =>
    have HF := hide (show fbit x = 9221120237041090560 from if_pos h)
    have h' : (FloatKind.f64.format.order x x != some Ordering.eq) = true := h
    clear h
    go_enter Try.func61, Try.ntmps61
    go_wp2
    go_ret
    exact ⟨ret_int (by rw [unhide HF]; rfl), rfl⟩
  | false =>
    have HF := hide (show fbit x = x from if_neg (by rw [h]; decide))
    have h' : (FloatKind.f64.format.order x x != some Ordering.eq) = false := h
    clear h
    go_enter Try.func61, Try.ntmps61
    go_wp2
    go_ret
    exact ⟨ret_int (by rw [unhide HF]), rfl⟩
end Go.Proofs.Ytdfihaabhichdaa
namespace Go.Proofs.Ytdfihaabhichdaa
open Go.RowKit
set_option linter.unusedVariables false

theorem l04Zero_any (x : Nat) (w : World) :
    Calls Try.prog 41 #[.float .f64 x] w fun e w' => e = .returned (.bool (decide (fbit x = 0))) ∧ w' = w := by
  have HL := hide (fun w => bitsS_any x w)
  generalize fbit x = u at *
  have hdec : decide (u = 0) = (((u : Nat) : Int) == 0) := by
    by_cases h : u = 0 <;> simp [h]
  go_enter Try.func41, Try.ntmps41
  go_wp2_with fail
  refine (unhide HL _).mono ?_
  rintro e w' ⟨rfl, rfl⟩
  have HD := hide hdec
  clear hdec
  go_wp2_with fail
  go_ret
  exact ⟨ret_bool (unhide HD).symm, rfl⟩
end Go.Proofs.Ytdfihaabhichdaa
namespace Go.Proofs.Ytdfihaabhichdaa
open Go.RowKit
set_option linter.unusedVariables false

set_option maxRecDepth 100000 in
set_option maxHeartbeats 800000 in
theorem l04Taker_any (next : Int) (a : Option Addr) (n cap : Nat) (c : Cm) (w : World) :
    Calls Try.prog 45 #[.agg #[.int .i64 next, .slice a n cap], cmV c] w fun e w' => e = .returned (.agg #[.int .i64 next, .int .i64 c.s, .int .i64 (tkS c.p), .int .i64 c.q, .int .i64 c.l, .string c.g]) ∧ Below w.heap.size w w' := by
  obtain ⟨k, s, t, l, q, i, p, g⟩ := c
  unfold cmV
  simp only
  have HT := hide (fun W => l01Ticks_any p W)
  generalize tkS p = tt at HT ⊢
  generalize tkOk p = tb at HT
  go_enter Try.func45, Try.ntmps45
  go_wp2_with fail
  refine (unhide HT _).mono ?_
  rintro e w' ⟨rfl, rfl⟩
  go_wp2_with fail
  go_returns
  exact ⟨rfl, by go_grown⟩
end Go.Proofs.Ytdfihaabhichdaa
