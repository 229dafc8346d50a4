/-
  Which floats are no numbers; a float made of a whole number is one.
-/
import Derived.Test.YtmeekcdoajbjdaaGreatDoorGj01
import Derived.Test.YtmeekcdoajbjdaaGreatDoorGj08
import Derived.WalkLawsBesides
import Derived.Laws.Externs
import Derived.WalkSpells
namespace Go.Proofs.YtmeekcdoajbjdaaGreatDoor
open Go.RowKit

/-- The float is a NaN. -/
def nanB (x : Nat) : Bool := FloatKind.f64.format.order x x != some Ordering.eq

theorem read_rung (neg : Bool) (r : Nat) (h : r ≤ Ieee.double.infRung) : ¬ (Ieee.double.read (Ieee.double.word neg r)).isNaN = true := by
  have h1 : Ieee.double.infRung = 9218868437227405312 := by decide
  have h2 : Ieee.double.signWeight = 9223372036854775808 := by decide
  have hr : Ieee.double.word neg r % Ieee.double.signWeight = r := by
    unfold Ieee.Format.word
    cases neg <;> simp only [h2, if_true, if_false, Bool.false_eq_true] <;> omega
  unfold Ieee.Format.read
  simp only [hr]
  split
  · simp [Ieee.Datum.isNaN]
  · split
    · simp [Ieee.Datum.isNaN]
    · rw [if_pos (by omega)]; simp [Ieee.Datum.isNaN]
theorem datum_self (d : Ieee.Datum) (h : ¬ d.isNaN = true) : d.order d = some Ordering.eq := by
  cases d with
  | nan s f => simp [Ieee.Datum.isNaN] at h
  | infinity s => cases s <;> rfl
  | number s m i => simp [Ieee.Datum.order, Std.ReflCmp.compare_self]
theorem ofInt_order (n : Int) : FloatKind.f64.format.order (floatOfInt .f64 n) (floatOfInt .f64 n) = some Ordering.eq := by
  refine datum_self _ ?_
  show ¬ (Ieee.double.read (Ieee.double.nearest (n < 0) n.natAbs 0)).isNaN = true
  unfold Ieee.Format.nearest
  split
  · exact read_rung _ _ (Nat.zero_le _)
  · exact read_rung _ _ (Nat.min_le_right _ _)
end Go.Proofs.YtmeekcdoajbjdaaGreatDoor
namespace Go.Proofs.YtmeekcdoajbjdaaGreatDoor
open Go.RowKit

theorem fbits (x : Nat) (w : World) : (callFunc 65 #[.float .f64 x]).run Tryz.prog w = .ok (.value (.int .u64 x)) w := by
  rw [run_callFunc_extern (e := Extern.MathFloatBits.float64bits) Tryz.func65 (by kernel_rfl) (by kernel_rfl) (by kernel_rfl) (by kernel_rfl)]
  rfl

theorem isNaN_any (x : Nat) (w : World) :
    Calls Tryz.prog 86 #[.float .f64 x] w fun e w' => e = .returned (.bool (nanB x)) ∧ w' = w := by
  go_enter Tryz.func86, Tryz.ntmps86
  go_wp2
  go_ret
  exact ⟨rfl, rfl⟩
end Go.Proofs.YtmeekcdoajbjdaaGreatDoor
namespace Go.Proofs.YtmeekcdoajbjdaaGreatDoor
open Go.RowKit
set_option linter.unusedVariables false

theorem frombits (n : Int) (w : World) : (callFunc 98 #[.int .u64 n]).run Tryz.prog w = .ok (.value (.float .f64 n.toNat)) w := by
  rw [run_callFunc_extern (e := Extern.MathFloatBits.float64frombits) Tryz.func98 (by kernel_rfl) (by kernel_rfl) (by kernel_rfl) (by kernel_rfl)]
  rfl
/-- One byte more, behind the others. -/
def shl8 (u : Nat) (c : Int) : Nat := u * 256 + c.toNat
def bits8 (l : List Int) (k i : Nat) : Nat := ((l.drop k).take i).foldl shl8 0
theorem bits8_step (l : List Int) (k i : Nat) (h : k + i < l.length) : bits8 l k (i + 1) = shl8 (bits8 l k i) (l.getD (k + i) 0) := by
  unfold bits8
  rw [List.take_succ_eq_append_getElem (by rw [List.length_drop]; omega), List.foldl_append]
  simp [h]
theorem bits8_lt (l : List Int) (k : Nat) (hb : Bts l) : ∀ i, bits8 l k i < 256 ^ i
  | 0 => by simp [bits8]
  | i + 1 => by
    have ih := bits8_lt l k hb i
    by_cases h : k + i < l.length
    · rw [bits8_step l k i h, Nat.pow_succ]
      have := bts_get hb (k + i)
      unfold shl8
      omega
    · have e : bits8 l k (i + 1) = bits8 l k i := by
        unfold bits8
        rw [List.take_of_length_le (by rw [List.length_drop]; omega), List.take_of_length_le (by rw [List.length_drop]; omega)]
      rw [e, Nat.pow_succ]; omega
theorem or8 (u : Nat) (c : Int) (hu : u < 72057594037927936) (h0 : 0 ≤ c) (h1 : c ≤ 255) : bits .or .u64 (IntKind.u64.wrap ((u : Int) * 256)) c = (shl8 u c : Int) := by
  have e2 : (u : Int) * 256 = ((u * 256 : Nat) : Int) := by omega
  obtain ⟨d, rfl⟩ := Int.eq_ofNat_of_zero_le h0
  rw [e2, IntKind.wrap_u64, Int.emod_eq_of_lt (by omega) (by omega), u64_or_nat _ _ (by omega) (by omega)]
  rw [nat_join 8 _ _ (by omega) (by omega)]
  unfold shl8
  rw [Int.toNat_natCast]

/-- The float whose bytes begin at a place, and the place behind it. -/
def floatA (l : List Int) (k : Nat) : Option (Nat × Nat) :=
  if l.length < k + 8 then none else if nanB (bits8 l k 8) = true ∧ bits8 l k 8 ≠ 9221120237041090560 then none else some (bits8 l k 8, k + 8)
theorem floatA_end {l : List Int} {k : Nat} (h : l.length < k + 8) : floatA l k = none := if_pos h
theorem floatA_bad {l : List Int} {k : Nat} (h : ¬ l.length < k + 8) (hb : nanB (bits8 l k 8) = true ∧ bits8 l k 8 ≠ 9221120237041090560) : floatA l k = none := by
  unfold floatA; rw [if_neg h, if_pos hb]
theorem floatA_yes {l : List Int} {k : Nat} (h : ¬ l.length < k + 8) (hb : ¬ (nanB (bits8 l k 8) = true ∧ bits8 l k 8 ≠ 9221120237041090560)) : floatA l k = some (bits8 l k 8, k + 8) := by
  unfold floatA; rw [if_neg h, if_neg hb]
/-- How the reading of a float ends. -/
def FltEnd (B : Nat) (v : Value) (w : World) (r : Option (Nat × Nat)) (e : Ending) (w' : World) : Prop :=
  w.grownBy w' (some B) ∧ (∀ x next, r = some (x, next) → e = .returned (.float .f64 x) ∧ Rdr B w' v next) ∧ (r = none → ∃ p, e = .panicked (fault 3 p))
theorem fltEnd_fail {B : Nat} {v : Value} {w w' : World} {r : Option (Nat × Nat)} (hg : w.grownBy w' (some B)) (hr : r = none) (p : Int) : FltEnd B v w r (.panicked (fault 3 p)) w' :=
  ⟨hg, (fun _ _ h => by rw [hr] at h; cases h), fun _ => ⟨p, rfl⟩⟩
theorem fltEnd_done {B : Nat} {v : Value} {w w' : World} {r : Option (Nat × Nat)} {u n : Nat} (hg : w.grownBy w' (some B)) (hr : r = some (u, n)) (h : Rdr B w' v n) : FltEnd B v w r (.returned (.float .f64 u)) w' :=
  ⟨hg, (fun a b h' => by rw [hr] at h'; cases h'; exact ⟨rfl, h⟩), (fun h' => by rw [hr] at h'; cases h')⟩

set_option maxRecDepth 100000 in
set_option maxHeartbeats 1000000 in
theorem float_some (B : Nat) (w0 : World) (b off cap k : Nat) (l : List Int) (hr : Rdr B w0 (.slice (some ⟨b, off, none⟩) l.length cap) k) (h8 : k + 8 ≤ l.length) (hl : l.length ≤ 65536) (hcap : l.length ≤ cap) (hbB : b ≠ B)
    (hc : ∀ i, i < l.length → w0.cell? ⟨b, off + i, none⟩ = some (.int .u8 (l.getD i 0))) (hb : Bts l) :
    Calls Tryz.prog 91 #[.pointer (some ⟨B, 0, none⟩)] w0 fun e w' => FltEnd B (.slice (some ⟨b, off, none⟩) l.length cap) w0 (floatA l k) e w' := by
  have HR := hide hr
  have HC := hide hc
  have HB := hide hb
  have hfb := frombits
  have HBad := hide (floatA_bad (l := l) (k := k) (by omega))
  have HYes := hide (floatA_yes (l := l) (k := k) (by omega))
  clear hr hc hb
  go_enter Tryz.func91, Tryz.ntmps91
  go_wp2_with fail
  refine (take_ok B 8 k b off l.length cap _ (unhide HR) (by omega) (by omega) hcap (by omega)).mono ?_
  rintro e w1 ⟨rfl, q, rfl⟩
  have HRw := hide (((unhide HR).step ((k + 8 : Nat) : Int)).drewN q)
  have HGw := hide (gr_trans (gr_set w0 ⟨B, 1, none⟩ (.int .i64 ((k + 8 : Nat) : Int))) (gr_drewN _ q _))
  go_wp2_with fail
  go_loop [3, 10] (fun uv iv => ∃ i : Nat, i ≤ 8 ∧ iv = .int .i64 i ∧ uv = .int .u64 (bits8 l k i)) (fun _ iv => 8 - (intOf iv).toNat)
  case atStart => exact ⟨0, by omega, rfl, rfl⟩
  case round =>
    obtain ⟨i, hi, rfl, rfl⟩ := hrel
    by_cases hlt : i < 8
    · have hcx := unhide HC (k + i) (by omega)
      rw [← Nat.add_assoc] at hcx
      have hbx := bts_get (unhide HB) (k + i)
      have hlt8 := bits8_lt l k (unhide HB) i
      have hp : 256 ^ i ≤ 72057594037927936 := Nat.le_trans (Nat.pow_le_pow_right (by omega) (show i ≤ 7 by omega)) (by decide)
      have hor := or8 (bits8 l k i) (l.getD (k + i) 0) (by omega) hbx.1 hbx.2
      have HS := hide (bits8_step l k i (by omega))
      rw [← unhide HS] at hor
      have hlt' : (i : Int) < 8 := by omega
      generalize l.getD (k + i) 0 = c at *
      generalize hu : bits8 l k i = u at *
      generalize hu' : bits8 l k (i + 1) = u' at *
      have HU' := hide hu'
      clear hlt8 hp hu hu'
      obtain ⟨hc0, hc1⟩ := hbx
      go_wp2_with fail
      go_round
      case rel => exact ⟨i + 1, by omega, by go_num, by rw [unhide HU']⟩
      case measure => simp [intOf]; omega
    · obtain rfl : i = 8 := by omega
      generalize bits8 l k 8 = u at *
      cases hn : nanB u with
      | true =>
        by_cases he : u = 9221120237041090560
        · have HY := hide (unhide HYes (by intro h; exact h.2 he))
          have he' : ((u : Int) != 9221120237041090560) = false := by rw [he]; rfl
          clear he
          go_wp2_with (go_at_call 86; refine (isNaN_any _ _).mono ?_; rintro e w' ⟨rfl, rfl⟩)
          go_ret
          exact fltEnd_done (unhide HGw) (unhide HY) (unhide HRw)
        · have HY := hide (unhide HBad ⟨hn, he⟩)
          have he' : ((u : Int) != 9221120237041090560) = true := by rw [bne_iff_ne]; omega
          clear he
          go_wp2_with (go_at_call 86; refine (isNaN_any _ _).mono ?_; rintro e w' ⟨rfl, rfl⟩)
          refine (fail_any B 3 _ _ _ (unhide HRw)).mono ?_
          rintro e w2 ⟨rfl, rfl⟩
          go_wp2_with fail
          exact ⟨rfl, fltEnd_fail (unhide HGw) (unhide HY) _⟩
      | false =>
        have HY := hide (unhide HYes (by intro h; rw [hn] at h; cases h.1))
        go_wp2_with (go_at_call 86; refine (isNaN_any _ _).mono ?_; rintro e w' ⟨rfl, rfl⟩)
        go_ret
        exact fltEnd_done (unhide HGw) (unhide HY) (unhide HRw)

set_option maxRecDepth 100000 in
theorem float_end (B : Nat) (w0 : World) (a : Option Addr) (cap k : Nat) (l : List Int) (hr : Rdr B w0 (.slice a l.length cap) k) (hk : k ≤ l.length) (h8 : l.length < k + 8) (hl : l.length ≤ 65536) :
    Calls Tryz.prog 91 #[.pointer (some ⟨B, 0, none⟩)] w0 fun e w' => FltEnd B (.slice a l.length cap) w0 (floatA l k) e w' := by
  have HR := hide hr
  have HY := hide (floatA_end h8)
  clear hr
  go_enter Tryz.func91, Tryz.ntmps91
  go_wp2_with fail
  refine (take_end B 8 k a l.length cap _ (unhide HR) (by omega) (by omega) (by omega) (by omega) (by omega)).mono ?_
  rintro e w1 ⟨rfl, q, rfl⟩
  go_wp2_with fail
  exact ⟨rfl, fltEnd_fail (gr_drewN _ _ _) (unhide HY) _⟩

theorem float_any (B : Nat) (v : Value) (l : List Int) (k : Nat) (w w0 : World) (hrd : Rd w v l) (hcap : CapOk v) (hBw : w.heap.size ≤ B) (hbel : Below w.heap.size w w0) (hr : Rdr B w0 v k) (hk : k ≤ l.length) (hl : l.length ≤ 65536) (hb : Bts l) :
    Calls Tryz.prog 91 #[.pointer (some ⟨B, 0, none⟩)] w0 fun e w' => FltEnd B v w0 (floatA l k) e w' := by
  obtain ⟨a, cap, rfl, _, hc⟩ := hrd
  by_cases h8 : l.length < k + 8
  · exact float_end B w0 a cap k l hr hk h8 hl
  · obtain ⟨b, off, rfl, hcell⟩ := hc (by intro h; rw [h] at h8; simp at h8)
    have hbw : b < w.heap.size := World.block_lt_of_cell? w _ (hcell 0 (by omega))
    exact float_some B w0 b off cap k l hr (by omega) hl (hcap _ _ _ rfl) (by omega) (fun i hi => (hbel.cell (p := ⟨b, off + i, none⟩) hbw).trans (hcell i hi)) hb
end Go.Proofs.YtmeekcdoajbjdaaGreatDoor
