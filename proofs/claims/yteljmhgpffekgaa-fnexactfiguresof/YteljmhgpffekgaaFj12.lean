/-
  Rows of floats in memory, those that came in and those that the call made: what they read as, and what stays of them; no function walked.
-/
import Derived.Test.YteljmhgpffekgaaFj05
import Derived.Test.YteljmhgpffekgaaFj10
import Derived.Laws.Externs
import Derived.WalkLawsBesides
import Derived.WalkSpells
namespace Go.Proofs.Yteljmhgpffekgaa
open Go.RowKit

/-- The slice v reads as the floats l. -/
def RdF (w : World) (v : Value) (l : List Nat) : Prop :=
  ∃ (a : Option Addr) (cap : Nat), v = .slice a l.length cap ∧ l.length ≤ 1073741824 ∧
    (l ≠ [] → ∃ b off, a = some ⟨b, off, none⟩ ∧ ∀ i, i < l.length → w.cell? ⟨b, off + i, none⟩ = some (.float .f64 (l.getD i 0)))
/-- Each is a float's word. -/
def Fls (l : List Nat) : Prop := ∀ x ∈ l, x < 18446744073709551616
theorem fls_get {l : List Nat} (h : Fls l) (k : Nat) : l.getD k 0 < 18446744073709551616 := by
  by_cases hk : k < l.length
  · have e : l.getD k 0 = l[k] := by simp [hk]
    rw [e]; exact h _ (List.getElem_mem hk)
  · simp [Nat.le_of_not_lt hk]
theorem rdF_below {B : Nat} {w w' : World} {v : Value} {l : List Nat} (h : RdF w v l) (hb : Below B w w') (hB : w.heap.size ≤ B) : RdF w' v l := by
  obtain ⟨a, cap, rfl, hl, hc⟩ := h
  refine ⟨a, cap, rfl, hl, fun hne => ?_⟩
  obtain ⟨b, off, rfl, hcell⟩ := hc hne
  exact ⟨b, off, rfl, fun i hi => (hb.cell (p := ⟨b, off + i, none⟩) (Nat.lt_of_lt_of_le (World.block_lt_of_cell? w _ (hcell i hi)) hB)).trans (hcell i hi)⟩
theorem rdF_drewN {w : World} {v : Value} {l : List Nat} (h : RdF w v l) (n : Nat) : RdF (w.drewN n) v l := h
theorem rdF_len {w : World} {v : Value} {l : List Nat} (h : RdF w v l) : ∃ a cap, v = .slice a l.length cap := by
  obtain ⟨a, cap, rfl, _⟩ := h; exact ⟨a, cap, rfl⟩

theorem Try.infoFlt : (Try.prog.info? 29).map (fun i => (i.zero, i.size, i.bytes)) = some (some (.float .f64 0), 1, 8) := by kernel_rfl

/-- The array of M floats in block B, its first floats being 'done'. -/
def ArrF (M B : Nat) (w wr : World) (done : List Nat) : Prop :=
  ∃ cur t, wr.heap[B]? = some (.cells cur t (0, 0)) ∧ cur.size = M ∧ done.length ≤ M ∧ cur.toList.take done.length = done.map (Value.float .f64) ∧ Below B w wr
theorem ArrF.below {M B : Nat} {w wr : World} {done : List Nat} (h : ArrF M B w wr done) : Below B w wr := by
  obtain ⟨_, _, _, _, _, _, h⟩ := h; exact h
theorem ArrF.some {M B : Nat} {w wr : World} {done : List Nat} (h : ArrF M B w wr done) {j : Nat} (hj : j < M) : ∃ v, wr.cell? ⟨B, j, none⟩ = .some v := by
  obtain ⟨cur, t, h1, h2, _⟩ := h
  exact ⟨_, (cell_of_row wr B j cur t (0, 0) h1).trans (Array.getElem?_eq_getElem (by omega))⟩
theorem ArrF.free {M B : Nat} {w wr : World} {done : List Nat} (h : ArrF M B w wr done) (j : Nat) : wr.frozen? ⟨B, j, none⟩ = false := by
  obtain ⟨cur, t, h1, _⟩ := h
  simp [World.frozen?, h1]
theorem arrF_step {M B : Nat} {w wr : World} {done : List Nat} (x : Nat) (h : ArrF M B w wr done) (hM : done.length < M) : ArrF M B w (wr.setCell ⟨B, done.length, none⟩ (.float .f64 x)) (done ++ [x]) := by
  obtain ⟨cur, t, h1, h2, h3, h4, h5⟩ := h
  refine ⟨cur.setIfInBounds done.length (.float .f64 x), t, by simp [World.setCell, Array.getElem?_modify, h1], by simpa using h2, by simp; omega, ?_, h5.setCell (Nat.le_refl _) _⟩
  rw [List.length_append, List.length_singleton, List.take_succ_eq_append_getElem (by simp; omega)]
  simp only [Array.toList_setIfInBounds, List.map_append, List.map_cons, List.map_nil]
  rw [List.take_set_of_le (Nat.le_refl _), h4]
  simp
theorem arrF_rd {M B cap : Nat} {w wr : World} {l : List Nat} (h : ArrF M B w wr l) (hl : l.length ≤ 1073741824) : RdF wr (.slice (some ⟨B, 0, none⟩) l.length cap) l := by
  obtain ⟨cur, t, h1, h2, h3, h4, _⟩ := h
  refine ⟨_, cap, rfl, hl, fun _ => ⟨B, 0, rfl, fun i hi => ?_⟩⟩
  rw [Nat.zero_add, cell_of_row wr B i cur t (0, 0) h1]
  have h5 : (cur.toList.take l.length)[i]? = (l.map (Value.float .f64))[i]? := by rw [h4]
  rw [List.getElem?_take, if_pos hi, List.getElem?_map, List.getElem?_eq_getElem hi] at h5
  simpa [hi] using h5
theorem arrF_made {w w' : World} {n : Nat} {xs : List Value} (h : w'.ownsRow w.heap.size 29 1 (.slice (some ⟨w.heap.size, 0, none⟩) n n) n xs) (hg : w.grownBy w' none) : ArrF n w.heap.size w w' [] := by
  rcases h.2 with ⟨h0, _⟩ | ⟨g, cap, cur, hv, _, hh, _, _, hcur, _⟩
  · simp at h0
  · simp only [Value.slice.injEq, Option.some.injEq, Addr.mk.injEq, and_true, true_and] at hv
    obtain ⟨rfl, rfl⟩ := hv
    exact ⟨cur, _, hh, by omega, Nat.zero_le _, rfl, (Below.refl _ w).grown hg (Nat.le_refl _) (fun k hk => by simp at hk)⟩
theorem takeF_get (l : List Nat) (k : Nat) (h : k < l.length) : l.take (k + 1) = l.take k ++ [l.getD k 0] := by
  rw [List.take_succ_eq_append_getElem h]; simp [h]
end Go.Proofs.Yteljmhgpffekgaa
namespace Go.Proofs.Yteljmhgpffekgaa
open Go.RowKit

theorem fbits (x : Nat) (w : World) : (callFunc 61 #[.float .f64 x]).run Try.prog w = .ok (.value (.int .u64 x)) w := by
  rw [run_callFunc_extern (e := Extern.MathFloatBits.float64bits) Try.func61 (by kernel_rfl) (by kernel_rfl) (by kernel_rfl) (by kernel_rfl)]
  rfl

theorem isNaN_any (x : Nat) (w : World) :
    Calls Try.prog 35 #[.float .f64 x] w fun e w' => e = .returned (.bool (nanB x)) ∧ w' = w := by
  go_enter Try.func35, Try.ntmps35
  go_wp2
  go_ret
  exact ⟨rfl, rfl⟩
end Go.Proofs.Yteljmhgpffekgaa
namespace Go.Proofs.Yteljmhgpffekgaa
open Go.RowKit

/-- A float's bits; of every NaN the same. -/
def fbit (x : Nat) : Nat := if nanB x = true then 9221120237041090560 else x
theorem floatBits_any (x : Nat) (w : World) :
    Calls Try.prog 59 #[.float .f64 x] w fun e w' => e = .returned (.int .u64 (fbit x)) ∧ w' = w := by
  have hb := fbits
  cases h : nanB x
  case true =>
    have HX : Hid (fbit x = 9221120237041090560) := if_pos h
    go_enter Try.func59, Try.ntmps59
    go_wp2_with (go_at_call 35; refine (isNaN_any _ _).mono ?_; rintro e w' ⟨rfl, rfl⟩)
    go_ret
    exact ⟨by rw [unhide HX]; rfl, rfl⟩
  case false =>
    have HX : Hid (fbit x = x) := if_neg (by rw [h]; decide)
    go_enter Try.func59, Try.ntmps59
    go_wp2_with (go_at_call 35; refine (isNaN_any _ _).mono ?_; rintro e w' ⟨rfl, rfl⟩)
    go_ret
    exact ⟨by rw [unhide HX]; rfl, rfl⟩
end Go.Proofs.Yteljmhgpffekgaa
