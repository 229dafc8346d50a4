/-
  What the three helpers of the exact laws on bytes do, proved by walking them: two rows of the same bytes are found alike; a row is marked; the marks are found.
-/
import Derived.Test.YtcemaffeclknkafBase
import Derived.Deep.QuietTactic
import Derived.BigQuiet
import Derived.WalkSmall
namespace Go.Proofs.Ytcemaffeclknkaf
open Go.RowKit

/-- The slice v reads as the bytes l. -/
def Rd (w : World) (v : Value) (l : List Int) : Prop :=
  ∃ (a : Option Addr) (cap : Nat), v = .slice a l.length cap ∧ l.length ≤ 1073741824 ∧
    (l ≠ [] → ∃ b off, a = some ⟨b, off, none⟩ ∧ ∀ i, i < l.length → w.cell? ⟨b, off + i, none⟩ = some (.int .u8 (l.getD i 0)))

set_option maxHeartbeats 400000 in
theorem eqBytes_same (va vb : Value) (l : List Int) (w : World) (ha : Rd w va l) (hb : Rd w vb l) :
    Calls Try.prog 8 #[va, vb] w fun e w' => e = .returned (.bool true) ∧ ∃ n, w' = w.drewN n := by
  obtain ⟨aa, ca, rfl, hl, hca⟩ := ha
  obtain ⟨ab, cb, rfl, _, hcb⟩ := hb
  by_cases hne : l = []
  · subst hne
    clear hca hcb
    go_enter Try.func8, Try.ntmps8
    go_wp2
    refine wp_loop_rounds 1 ?_
    rw [rounds_succ]
    go_wp2
    go_ret
    exact ⟨rfl, 0, rfl⟩
  obtain ⟨b1, o1, rfl, hc1⟩ := hca hne
  obtain ⟨b2, o2, rfl, hc2⟩ := hcb hne
  have H1 := hide hc1
  have H2 := hide hc2
  clear hca hcb hc1 hc2
  go_enter Try.func8, Try.ntmps8
  go_wp2_with fail
  go_loopw [5] (fun i wr => ∃ k n : Nat, k ≤ l.length ∧ i = .int .i64 k ∧ wr = w.drewN n) (fun i _ => l.length - (intOf i).toNat)
  case atStart => exact ⟨0, 0, Nat.zero_le _, rfl, rfl⟩
  case round =>
    obtain ⟨k, n, hk, rfl, rfl⟩ := hrel
    by_cases hlt : k < l.length
    · have h1 := unhide H1 k hlt
      have h2 := unhide H2 k hlt
      generalize l.getD k 0 = x at h1 h2
      have hlt' : (k : Int) < l.length := by omega
      go_wp2_with fail
      go_quiet (fail)
      go_wp2_with fail
      go_roundw
      case rel => exact ⟨k + 1, _, by omega, by go_num, rfl⟩
      case measure => simp [intOf]; omega
    · go_wp2_with fail
      go_ret
      exact ⟨rfl, _, rfl⟩

theorem gr_trans {a b c : World} {row : Option Nat} (h : a.grownBy b row) (k : b.grownBy c row) : a.grownBy c row :=
  ⟨k.os.trans h.os, k.tape.trans h.tape, k.output.trans h.output, Nat.le_trans h.size k.size,
    fun i hi hne => (k.block i (Nat.lt_of_lt_of_le hi h.size) hne).trans (h.block i hi hne)⟩
theorem gr_set (w : World) (a : Addr) (u : Value) : w.grownBy (w.setCell a u) (some a.block) :=
  ⟨rfl, rfl, rfl, by simp [World.setCell], fun k _ hne => Below.heap_setCell _ _ _ _ (fun e => hne (by rw [e]))⟩
theorem gr_drewN (w : World) (n : Nat) (row : Option Nat) : w.grownBy (w.drewN n) row := ⟨rfl, rfl, rfl, Nat.le_refl _, fun _ _ _ => rfl⟩
theorem gr_below {w w' : World} {g B : Nat} (h : w.grownBy w' (some g)) (hB : B ≤ g) (hs : B ≤ w.heap.size) : Below B w w' :=
  ⟨h.os, h.tape, h.output, h.size, fun k hk => h.block k (by omega) (by simp; omega)⟩

/-- The byte that a number is cut to. -/
def bt (x : Int) : Int := x % 256
theorem addr_ne {g a b : Nat} (h : a ≠ b) : (⟨g, a, none⟩ : Addr) ≠ ⟨g, b, none⟩ := by
  intro e; injection e; exact h (by assumption)

theorem mark_step {w wr : World} {g o i len : Nat} {k : Int} (hi : i < len)
    (hd : ∀ j, j < i → wr.cell? ⟨g, o + j, none⟩ = some (.int .u8 (bt (k + j)))) (hc : ∀ j, j < len → ∃ v, wr.cell? ⟨g, o + j, none⟩ = some v)
    (hf : ∀ j, j < len → wr.frozen? ⟨g, o + j, none⟩ = false) (hg : w.grownBy wr (some g)) {x : Int} (hx : x = bt (k + i)) :
    (∀ j, j < i + 1 → (wr.setCell ⟨g, o + i, none⟩ (.int .u8 x)).cell? ⟨g, o + j, none⟩ = some (.int .u8 (bt (k + j)))) ∧
    (∀ j, j < len → ∃ v, (wr.setCell ⟨g, o + i, none⟩ (.int .u8 x)).cell? ⟨g, o + j, none⟩ = some v) ∧
    (∀ j, j < len → (wr.setCell ⟨g, o + i, none⟩ (.int .u8 x)).frozen? ⟨g, o + j, none⟩ = false) ∧ w.grownBy (wr.setCell ⟨g, o + i, none⟩ (.int .u8 x)) (some g) := by
  obtain ⟨v0, h0⟩ := hc i hi
  refine ⟨fun j hj => ?_, fun j hj => ?_, fun j hj => ?_, gr_trans hg (gr_set wr ⟨g, o + i, none⟩ _)⟩
  · by_cases e : j = i
    · subst e; rw [World.cell?_setCell_same _ _ _ h0, hx]
    · rw [World.cell?_setCell_other _ _ _ _ (addr_ne (by omega))]; exact hd j (by omega)
  · by_cases e : j = i
    · subst e; exact ⟨_, World.cell?_setCell_same _ _ _ h0⟩
    · rw [World.cell?_setCell_other _ _ _ _ (addr_ne (by omega))]; exact hc j hj
  · rw [World.frozen?_setCell]; exact hf j hj

set_option maxHeartbeats 400000 in
theorem markBytes_any (g o len cap : Nat) (k : Int) (w : World) (hl : len ≤ 1073741824) (hk0 : 0 ≤ k) (hk1 : k ≤ 1073741824)
    (hc : ∀ j, j < len → ∃ v, w.cell? ⟨g, o + j, none⟩ = some v) (hf : ∀ j, j < len → w.frozen? ⟨g, o + j, none⟩ = false) :
    Calls Try.prog 9 #[.slice (some ⟨g, o, none⟩) len cap, .int .i64 k] w fun e w' => e = .returned (.int .i64 (k + len)) ∧
      (∀ j, j < len → w'.cell? ⟨g, o + j, none⟩ = some (.int .u8 (bt (k + j)))) ∧ (∀ j, j < len → w'.frozen? ⟨g, o + j, none⟩ = false) ∧ w.grownBy w' (some g) := by
  have HC := hide hc
  have HF := hide hf
  clear hc hf
  go_enter Try.func9, Try.ntmps9
  go_wp2_with fail
  go_loopw [1, 5] (fun kv i wr => ∃ n : Nat, n ≤ len ∧ i = .int .i64 n ∧ kv = .int .i64 (k + n) ∧ (∀ j, j < n → wr.cell? ⟨g, o + j, none⟩ = some (.int .u8 (bt (k + j)))) ∧
      (∀ j, j < len → ∃ v, wr.cell? ⟨g, o + j, none⟩ = some v) ∧ (∀ j, j < len → wr.frozen? ⟨g, o + j, none⟩ = false) ∧ w.grownBy wr (some g)) (fun _ i _ => len - (intOf i).toNat)
  case atStart => exact ⟨0, Nat.zero_le _, rfl, by go_num, by intro j hj; omega, unhide HC, unhide HF, World.grownBy.refl _ _⟩
  case round =>
    obtain ⟨n, hn, rfl, rfl, hd, hc, hf, hg⟩ := hrel
    by_cases hlt : n < len
    · obtain ⟨v0, h0⟩ := hc n hlt
      have h1 := hf n hlt
      have R := hide (fun x => @mark_step w wr g o n len k hlt hd hc hf hg x)
      have hlt' : (n : Int) < len := by omega
      clear hd hc hf hg
      go_wp2_with fail
      go_roundw
      case rel => exact ⟨n + 1, by omega, by go_num, by go_num, (unhide R) _ (by rfl)⟩
      case measure => simp [intOf]; omega
    · go_wp2_with fail
      go_ret
      obtain rfl : n = len := by omega
      exact ⟨rfl, hd, hf, hg⟩

set_option maxHeartbeats 400000 in
theorem heldBytes_any (g o len cap : Nat) (k : Int) (w : World) (hl : len ≤ 1073741824) (hk0 : 0 ≤ k) (hk1 : k ≤ 1073741824)
    (hc : ∀ j, j < len → w.cell? ⟨g, o + j, none⟩ = some (.int .u8 (bt (k + j)))) :
    Calls Try.prog 10 #[.slice (some ⟨g, o, none⟩) len cap, .int .i64 k] w fun e w' => e = .returned (.int .i64 (k + len)) ∧ ∃ n, w' = w.drewN n := by
  have HC := hide hc
  clear hc
  go_enter Try.func10, Try.ntmps10
  go_wp2_with fail
  go_loopw [1, 5] (fun kv i wr => ∃ n q : Nat, n ≤ len ∧ i = .int .i64 n ∧ kv = .int .i64 (k + n) ∧ wr = w.drewN q) (fun _ i _ => len - (intOf i).toNat)
  case atStart => exact ⟨0, 0, Nat.zero_le _, rfl, by go_num, rfl⟩
  case round =>
    obtain ⟨n, q, hn, rfl, rfl, rfl⟩ := hrel
    by_cases hlt : n < len
    · have h0 := unhide HC n hlt
      have hlt' : (n : Int) < len := by omega
      have hbt : (bt (k + n) != (k + n) % 256) = false := by simp [bt]
      go_wp2_with fail
      go_roundw
      case rel => exact ⟨n + 1, q, by omega, by go_num, by go_num, rfl⟩
      case measure => simp [intOf]; omega
    · go_wp2_with fail
      go_ret
      obtain rfl : n = len := by omega
      exact ⟨rfl, _, rfl⟩
end Go.Proofs.Ytcemaffeclknkaf
