/-
  A new order accepted by the engine: proved by walking the method.
-/
import Derived.Test.YthmgkabpcjkieaaVj21
import Derived.Defers
namespace Go.Proofs.Ythmgkabpcjkieaa
open Go.RowKit
set_option linter.unusedVariables false

/-- The orders, and the events, behind an accepted order. -/
def accL (c : Cm) (next : Int) (F : List Od × Int × List Ev) : List Od := if 0 < F.2.1 ∧ restB c.t = true then F.1 ++ [⟨next, c.s, tk c.p, F.2.1, c.l, c.g⟩] else F.1
def accE (c : Cm) (next : Int) (F : List Od × Int × List Ev) : List Ev := ⟨1, ⟨1, c.s, c.t, c.l, c.q, 0, c.p, c.g⟩, next, 0, 0, 0, 0⟩ :: F.2.2 ++ (if 0 < F.2.1 then [⟨if restB c.t = true then 4 else 5, zCm, next, 0, F.2.1, 0, 0⟩] else [])
theorem rowE_mono {B C e sz n : Nat} {v : Value} {xs : List Value} {W : World} (h : W.ownsRow B e sz v n xs) (hC : C ≤ B) : W.ownsRow C e sz v n xs := by
  refine ⟨h.1, ?_⟩
  rcases h.2 with hn | ⟨g, cap, cur, rfl, hg, rest⟩
  · exact .inl hn
  · exact .inr ⟨g, cap, cur, rfl, Nat.le_trans hC hg, rest⟩
theorem matL_few {c : Cm} {id : Int} : ∀ (n : Nat) (l : List Od) (left : Int) (ts : List Ev), (matL c id n l left ts).2.2.length ≤ ts.length + n
  | 0, _, _, _ => Nat.le_refl _
  | n + 1, l, left, ts => by
    rw [matL]
    split
    · split
      · simp
      · split
        · refine Nat.le_trans (matL_few n _ _ _) ?_
          rw [List.length_append]; simp; omega
        · simp
    · simp
theorem row_form {B e sz n : Nat} {v : Value} {xs : List Value} {W : World} (h : W.ownsRow B e sz v n xs) : ∃ a c, v = .slice a n c := by
  rcases h.2 with ⟨e, e2⟩ | ⟨g, cap, cur, e, _⟩
  · exact ⟨none, 0, by rw [e, e2]⟩
  · exact ⟨_, _, e⟩
end Go.Proofs.Ythmgkabpcjkieaa
namespace Go.Proofs.Ythmgkabpcjkieaa
open Go.RowKit
set_option linter.unusedVariables false

end Go.Proofs.Ythmgkabpcjkieaa
namespace Go.Proofs.Ythmgkabpcjkieaa
open Go.RowKit

/-- A text cut to its first 13 bytes. -/
def cutB (s : ByteArray) : ByteArray := if 12 < s.size then s.extract 0 13 else s
theorem cutB_one (s : ByteArray) (h : s.size = 13) : cutB s = s := by
  unfold cutB; rw [if_pos (by omega), ← h]; exact ByteArray.extract_zero_size
end Go.Proofs.Ythmgkabpcjkieaa
namespace Go.Proofs.Ythmgkabpcjkieaa
open Go.RowKit
set_option linter.unusedVariables false

/-- What a command makes of a book: the next number, the orders, the group's events. -/
def stN (next : Int) (l : List Od) (c : Cm) : Int := if refR next l c = 0 ∧ c.k = 1 then next + 1 else next
def stL (next : Int) (l : List Od) (c : Cm) : List Od :=
  if refR next l c = 0 then
    if c.k = 1 then accL c next (matL c next 21 l c.q [])
    else if c.k = 2 then (match l[(plc l c.i).toNat]? with | some o => hitAt l (plc l c.i).toNat o o.left | none => l)
    else if c.k = 3 then (match l[(plc l c.i).toNat]? with | some o => l.set (plc l c.i).toNat { o with left := c.q } | none => l)
    else l.filter ndy
  else l
def stE (next : Int) (l : List Od) (c : Cm) : List Ev :=
  if refR next l c = 0 then
    if c.k = 1 then accE c next (matL c next 21 l c.q [])
    else if c.k = 2 then (match l[(plc l c.i).toNat]? with | some o => [⟨6, zCm, c.i, 0, o.left, 0, 0⟩] | none => [])
    else if c.k = 3 then [⟨7, zCm, c.i, 0, c.q, 0, 0⟩]
    else ⟨8, zCm, 0, 0, ((l.filter dyB).length : Nat), 0, 0⟩ :: (l.filter dyB).map expE
  else [⟨2, ⟨c.k, c.s, c.t, c.l, c.q, c.i, c.p, cutB c.g⟩, 0, 0, 0, 0, refR next l c⟩]
theorem ref_kind {next : Int} {l : List Od} {c : Cm} (h : refR next l c = 0) : c.k = 1 ∨ c.k = 2 ∨ c.k = 3 ∨ c.k = 4 := by
  rw [refR] at h
  split at h
  · omega
  · split at h
    · omega
    · split at h
      · omega
      · split at h
        · omega
        · cases h
theorem ref_new {next : Int} {l : List Od} {c : Cm} (h : refR next l c = 0) (hk : c.k = 1) : newR next l c = 0 := by
  rw [refR, if_pos hk] at h
  split at h
  · exact h
  · cases h
theorem ref_newq {next : Int} {l : List Od} {c : Cm} (h : refR next l c = 0) (hk : c.k = 1) : 1 ≤ c.q ∧ c.q ≤ 1000000 := by
  have h := ref_new h hk
  rw [newR] at h
  repeat (split at h; (· cases h))
  rename_i h7 _
  simp [betB] at h7
  omega
theorem ref_id {next : Int} {l : List Od} {c : Cm} (h : refR next l c = 0) (hk : c.k = 2 ∨ c.k = 3) : ∃ (k : Nat) (o : Od), plc l c.i = k ∧ l[k]? = some o := by
  rcases plc_cases l c.i with h1 | h1
  · exfalso
    rw [refR] at h
    rcases hk with hk | hk
    · rw [if_neg (by omega), if_pos hk] at h
      split at h
      · simp [idR, h1] at h
      · cases h
    · rw [if_neg (by omega), if_neg (by omega), if_pos hk] at h
      split at h
      · rw [redR] at h
        split at h
        · simp [h1] at h
        · cases h
      · cases h
  · exact h1
end Go.Proofs.Ythmgkabpcjkieaa
namespace Go.Proofs.Ythmgkabpcjkieaa
open Go.RowKit
set_option linter.unusedVariables false

/-- The whole quarters of a float within the bounds of prices, be it a price or not. -/
def tkS (x : Nat) : Int := if ((FloatKind.f64.format.order x 0 == some Ordering.gt) && ((FloatKind.f64.format.order x 4687829947429945344 == some Ordering.lt) || (FloatKind.f64.format.order x 4687829947429945344 == some Ordering.eq))) = true then tkN x else 0
theorem tkS_ok {x : Nat} (h : tkOk x = true) : tkS x = tk x := by
  unfold tk tkS
  rw [if_pos h]
  unfold tkOk at h
  rw [Bool.and_eq_true] at h
  rw [if_pos h.1]
set_option maxRecDepth 100000 in
set_option maxHeartbeats 1000000 in
theorem l01Ticks_any (x : Nat) (w : World) :
    Calls Try.prog 76 #[.float .f64 x] w fun e w' => e = .returned (.tuple #[.int .i64 (tkS x), .bool (tkOk x)]) ∧ w' = w := by
  by_cases h0 : FloatKind.f64.format.order x 0 = some Ordering.gt
  · by_cases h1 : FloatKind.f64.format.order x 4687829947429945344 = some Ordering.lt ∨ FloatKind.f64.format.order x 4687829947429945344 = some Ordering.eq
    · obtain ⟨r, n, hmul, hint, hn⟩ := price_four h0 h1
      have hn' : (n : Int) < 9007199254740992 := by omega
      have eR : tkR x = r := by unfold tkR; rw [show FloatKind.f64.format.mul x 4616189618054758400 = some r from hmul]; rfl
      have eN : tkN x = n := by unfold tkN; rw [eR, show (FloatKind.f64.decode r).toInt .zero = some (n : Int) from hint]; rfl
      have b0 : (FloatKind.f64.format.order x 0 == some Ordering.gt) = true := by rw [h0]; rfl
      have hm : ∀ W, (binOp .mul 35 (.float .f64 x) (.float .f64 4616189618054758400)).run Try.prog W = .ok (.float .f64 r) W := fun W => by
        have : FloatKind.f64.format.mul x 4616189618054758400 = some r := hmul
        simp [binOp, Op.floatArith, this]
      have hc : ∀ W, (convert 35 3 (.float .f64 r)).run Try.prog W = .ok (.int .i64 n) W := fun W => by
        have h2 : (FloatKind.f64.decode r).toInt .zero = some (n : Int) := hint
        have hb : IntKind.i64.min ≤ (n : Int) ∧ (n : Int) ≤ IntKind.i64.max := by
          rw [show IntKind.i64.min = -9223372036854775808 by decide, show IntKind.i64.max = 9223372036854775807 by decide]; omega
        simp [convert, run_underlying Try.underlying35, run_underlying Try.underlying3, Conv.floatToInt, h2, hb.1]
        intro h
        omega
      have h12 : ((FloatKind.f64.format.order x 4687829947429945344 == some Ordering.lt) || (FloatKind.f64.format.order x 4687829947429945344 == some Ordering.eq)) = true := by
        rcases h1 with h1 | h1 <;> rw [h1] <;> rfl
      have hok : tkOk x = (FloatKind.f64.format.order (floatOfInt .f64 n) r == some Ordering.eq) := by unfold tkOk; rw [eN, eR, b0, h12]; rfl
      have hS : tkS x = n := by unfold tkS; rw [b0, h12, eN]; rfl
      clear hmul hint h0 h12
      cases he : (FloatKind.f64.format.order (floatOfInt .f64 n) r == some Ordering.eq)
      all_goals
        have he2 : (FloatKind.f64.format.order (floatOfInt .f64 n) r != some Ordering.eq) = !(FloatKind.f64.format.order (floatOfInt .f64 n) r == some Ordering.eq) := rfl
        rw [he] at he2
        rw [he] at hok
      · have HT : Hid (tkS x = n ∧ tkOk x = false) := ⟨hS, hok⟩
        clear hok eN eR hS
        rcases h1 with h1 | h1
        · have b1 : (FloatKind.f64.format.order x 4687829947429945344 == some Ordering.lt) = true := by rw [h1]; rfl
          have b2 : (FloatKind.f64.format.order x 4687829947429945344 == some Ordering.eq) = false := by rw [h1]; rfl
          clear h1
          go_enter Try.func76, Try.ntmps76
          go_wp2
          go_ret2
          exact ⟨by rw [(unhide HT).1, (unhide HT).2]; rfl, rfl⟩
        · have b1 : (FloatKind.f64.format.order x 4687829947429945344 == some Ordering.lt) = false := by rw [h1]; rfl
          have b2 : (FloatKind.f64.format.order x 4687829947429945344 == some Ordering.eq) = true := by rw [h1]; rfl
          clear h1
          go_enter Try.func76, Try.ntmps76
          go_wp2
          go_ret2
          exact ⟨by rw [(unhide HT).1, (unhide HT).2]; rfl, rfl⟩
      · have HT : Hid (tkS x = n ∧ tkOk x = true) := ⟨hS, hok⟩
        clear hok eN eR hS
        rcases h1 with h1 | h1
        · have b1 : (FloatKind.f64.format.order x 4687829947429945344 == some Ordering.lt) = true := by rw [h1]; rfl
          have b2 : (FloatKind.f64.format.order x 4687829947429945344 == some Ordering.eq) = false := by rw [h1]; rfl
          clear h1
          go_enter Try.func76, Try.ntmps76
          go_wp2
          go_ret2
          exact ⟨by rw [(unhide HT).1, (unhide HT).2]; rfl, rfl⟩
        · have b1 : (FloatKind.f64.format.order x 4687829947429945344 == some Ordering.lt) = false := by rw [h1]; rfl
          have b2 : (FloatKind.f64.format.order x 4687829947429945344 == some Ordering.eq) = true := by rw [h1]; rfl
          clear h1
          go_enter Try.func76, Try.ntmps76
          go_wp2
          go_ret2
          exact ⟨by rw [(unhide HT).1, (unhide HT).2]; rfl, rfl⟩
    · have b0 : (FloatKind.f64.format.order x 0 == some Ordering.gt) = true := by rw [h0]; rfl
      have b1 : (FloatKind.f64.format.order x 4687829947429945344 == some Ordering.lt) = false := by rw [beq_eq_false_iff_ne]; exact fun h => h1 (.inl h)
      have b2 : (FloatKind.f64.format.order x 4687829947429945344 == some Ordering.eq) = false := by rw [beq_eq_false_iff_ne]; exact fun h => h1 (.inr h)
      have hok : tkOk x = false := by unfold tkOk; rw [b0, b1, b2]; rfl
      have HT : Hid (tkS x = 0 ∧ tkOk x = false) := ⟨by unfold tkS; rw [b0, b1, b2]; rfl, hok⟩
      clear h0 h1 hok
      go_enter Try.func76, Try.ntmps76
      go_wp2
      go_ret2
      exact ⟨by rw [(unhide HT).1, (unhide HT).2]; rfl, rfl⟩
  · have b0 : (FloatKind.f64.format.order x 0 == some Ordering.gt) = false := by rw [beq_eq_false_iff_ne]; exact h0
    have hok : tkOk x = false := by unfold tkOk; rw [b0]; rfl
    have HT : Hid (tkS x = 0 ∧ tkOk x = false) := ⟨by unfold tkS; rw [b0]; rfl, hok⟩
    clear h0 hok
    go_enter Try.func76, Try.ntmps76
    go_wp2
    go_ret2
    exact ⟨by rw [(unhide HT).1, (unhide HT).2]; rfl, rfl⟩
end Go.Proofs.Ythmgkabpcjkieaa
namespace Go.Proofs.Ythmgkabpcjkieaa
open Go.RowKit
set_option linter.unusedVariables false

theorem bitsS_any (x : Nat) (w : World) :
    Calls Try.prog 90 #[.float .f64 x] w fun e w' => e = .returned (.int .u64 (fbit x)) ∧ w' = w := by
  have hb := fbits
  cases h : nanB x with
  | true =>
    have HF := hide (show fbit x = 9221120237041090560 from if_pos h)
    have h' : (FloatKind.f64.format.order x x != some Ordering.eq) = true := h
    clear h
    go_enter Try.func90, Try.ntmps90
    go_wp2
    go_ret
    exact ⟨ret_int (by rw [unhide HF]; rfl), rfl⟩
  | false =>
    have HF := hide (show fbit x = x from if_neg (by rw [h]; decide))
    have h' : (FloatKind.f64.format.order x x != some Ordering.eq) = false := h
    clear h
    go_enter Try.func90, Try.ntmps90
    go_wp2
    go_ret
    exact ⟨ret_int (by rw [unhide HF]), rfl⟩
end Go.Proofs.Ythmgkabpcjkieaa
namespace Go.Proofs.Ythmgkabpcjkieaa
open Go.RowKit
set_option linter.unusedVariables false

theorem l04Zero_any (x : Nat) (w : World) :
    Calls Try.prog 86 #[.float .f64 x] w fun e w' => e = .returned (.bool (decide (fbit x = 0))) ∧ w' = w := by
  have HL := hide (fun w => bitsS_any x w)
  generalize fbit x = u at *
  have hdec : decide (u = 0) = (((u : Nat) : Int) == 0) := by
    by_cases h : u = 0 <;> simp [h]
  go_enter Try.func86, Try.ntmps86
  go_wp2_with fail
  refine (unhide HL _).mono ?_
  rintro e w' ⟨rfl, rfl⟩
  have HD := hide hdec
  clear hdec
  go_wp2_with fail
  go_ret
  exact ⟨ret_bool (unhide HD).symm, rfl⟩
end Go.Proofs.Ythmgkabpcjkieaa
namespace Go.Proofs.Ythmgkabpcjkieaa
open Go.RowKit
set_option linter.unusedVariables false

set_option maxRecDepth 100000 in
set_option maxHeartbeats 800000 in
theorem l04Taker_any (next : Int) (a : Option Addr) (n cap : Nat) (c : Cm) (w : World) :
    Calls Try.prog 50 #[.agg #[.int .i64 next, .slice a n cap], cmV c] w fun e w' => e = .returned (.agg #[.int .i64 next, .int .i64 c.s, .int .i64 (tkS c.p), .int .i64 c.q, .int .i64 c.l, .string c.g]) ∧ Below w.heap.size w w' := by
  obtain ⟨k, s, t, l, q, i, p, g⟩ := c
  unfold cmV
  simp only
  have HT := hide (fun W => l01Ticks_any p W)
  generalize tkS p = tt at HT ⊢
  generalize tkOk p = tb at HT
  go_enter Try.func50, Try.ntmps50
  go_wp2_with fail
  refine (unhide HT _).mono ?_
  rintro e w' ⟨rfl, rfl⟩
  go_wp2_with fail
  go_returns
  exact ⟨rfl, by go_grown⟩
end Go.Proofs.Ythmgkabpcjkieaa
namespace Go.Proofs.Ythmgkabpcjkieaa
open Go.RowKit
set_option linter.unusedVariables false

/-- Whether the fields that a command's kind has not are zero. -/
def formB (c : Cm) : Bool :=
  if c.k = 1 then (c.i == 0) else if c.s ≠ 0 ∨ c.t ≠ 0 ∨ c.l ≠ 0 ∨ fbit c.p ≠ 0 ∨ c.g.toList.isEmpty = false then false else ((c.k == 3) || (c.q == 0)) && ((c.k != 4) || (c.i == 0))
set_option maxRecDepth 100000 in
set_option maxHeartbeats 800000 in
theorem l04Form_any (c : Cm) (w : World) :
    Calls Try.prog 71 #[cmV c] w fun e w' => e = .returned (.bool (formB c)) ∧ Below w.heap.size w w' := by
  obtain ⟨k, s, t, l, q, i, p, g⟩ := c
  unfold cmV
  simp only
  by_cases h1 : k = 1
  · subst h1
    have HK : Hid (formB ⟨1, s, t, l, q, i, p, g⟩ = (i == 0)) := by show _ = _; simp [formB]
    go_enter Try.func71, Try.ntmps71
    go_wp2_with fail
    go_ret
    exact ⟨ret_bool (unhide HK).symm, by go_grown⟩
  have b1 : (k == 1) = false := by rw [beq_eq_false_iff_ne]; exact h1
  by_cases hs : s = 0
  · subst hs
    by_cases ht : t = 0
    · subst ht
      by_cases hl : l = 0
      · subst hl
        have HZ := hide (fun W => l04Zero_any p W)
        have HFI : Hid (∀ z : Bool, decide (fbit p = 0) = z → formB ⟨k, 0, 0, 0, q, i, p, g⟩ = if z = true then (if g.toList.isEmpty = false then false else ((k == 3) || (q == 0)) && ((k != 4) || (i == 0))) else false) := by
          intro z hz
          subst hz
          by_cases hp : fbit p = 0 <;> simp [formB, h1, hp]
        have HFJ := hide (unhide HFI _ rfl)
        generalize decide (fbit p = 0) = z at HZ HFJ
        clear HFI h1
        go_enter Try.func71, Try.ntmps71
        go_wp2_with fail
        refine (unhide HZ _).mono ?_
        rintro e w' ⟨rfl, rfl⟩
        cases z
        · have HK : Hid (formB ⟨k, 0, 0, 0, q, i, p, g⟩ = false) := unhide HFJ
          go_wp2_with fail
          go_ret
          exact ⟨ret_bool (unhide HK).symm, by go_grown⟩
        · have HFK : Hid (formB ⟨k, 0, 0, 0, q, i, p, g⟩ = if g.toList.isEmpty = false then false else ((k == 3) || (q == 0)) && ((k != 4) || (i == 0))) := by
            show _ = _
            have := unhide HFJ
            simpa using this
          clear HFJ HZ
          cases hg : g.toList.isEmpty
          · have bg : (!g.toList.isEmpty) = true := by rw [hg]; rfl
            have HK : Hid (formB ⟨k, 0, 0, 0, q, i, p, g⟩ = false) := (unhide HFK).trans (if_pos hg)
            clear hg
            go_wp2_with fail
            go_ret
            exact ⟨ret_bool (unhide HK).symm, by go_grown⟩
          have bg : (!g.toList.isEmpty) = false := by rw [hg]; rfl
          have HFL : Hid (formB ⟨k, 0, 0, 0, q, i, p, g⟩ = (((k == 3) || (q == 0)) && ((k != 4) || (i == 0)))) := (unhide HFK).trans (if_neg (by rw [hg]; simp))
          clear hg HFK
          by_cases h3 : k = 3
          · subst h3
            have HK : Hid (formB ⟨3, 0, 0, 0, q, i, p, g⟩ = true) := (unhide HFL).trans (by simp)
            go_wp2_with fail
            go_ret
            exact ⟨ret_bool (unhide HK).symm, by go_grown⟩
          have b3 : (k == 3) = false := by rw [beq_eq_false_iff_ne]; exact h3
          by_cases hq : q = 0
          · subst hq
            by_cases h4 : k = 4
            · subst h4
              have HK : Hid (formB ⟨4, 0, 0, 0, 0, i, p, g⟩ = (i == 0)) := (unhide HFL).trans (by simp)
              clear h3
              go_wp2_with fail
              go_ret
              exact ⟨ret_bool (unhide HK).symm, by go_grown⟩
            · have b4 : (k != 4) = true := by simpa using h4
              have HK : Hid (formB ⟨k, 0, 0, 0, 0, i, p, g⟩ = true) := (unhide HFL).trans (by simp [h4])
              clear h3 h4
              go_wp2_with fail
              go_ret
              exact ⟨ret_bool (unhide HK).symm, by go_grown⟩
          · have bq : (q == 0) = false := by rw [beq_eq_false_iff_ne]; exact hq
            have HK : Hid (formB ⟨k, 0, 0, 0, q, i, p, g⟩ = false) := (unhide HFL).trans (by simp [h3, hq])
            clear h3 hq
            go_wp2_with fail
            go_ret
            exact ⟨ret_bool (unhide HK).symm, by go_grown⟩
      · have HK : Hid (formB ⟨k, 0, 0, l, q, i, p, g⟩ = false) := by show _ = _; simp [formB, h1, hl]
        have bl : (l != 0) = true := by simpa using hl
        clear h1 hl
        go_enter Try.func71, Try.ntmps71
        go_wp2_with fail
        go_ret
        exact ⟨ret_bool (unhide HK).symm, by go_grown⟩
    · have HK : Hid (formB ⟨k, 0, t, l, q, i, p, g⟩ = false) := by show _ = _; simp [formB, h1, ht]
      have bl : (t != 0) = true := by simpa using ht
      clear h1 ht
      go_enter Try.func71, Try.ntmps71
      go_wp2_with fail
      go_ret
      exact ⟨ret_bool (unhide HK).symm, by go_grown⟩
  · have HK : Hid (formB ⟨k, s, t, l, q, i, p, g⟩ = false) := by show _ = _; simp [formB, h1, hs]
    have bl : (s != 0) = true := by simpa using hs
    clear h1 hs
    go_enter Try.func71, Try.ntmps71
    go_wp2_with fail
    go_ret
    exact ⟨ret_bool (unhide HK).symm, by go_grown⟩
end Go.Proofs.Ythmgkabpcjkieaa
