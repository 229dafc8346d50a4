/-
  What the program's writer of a float's bytes returns, proved by walking it: a row of its own with the eight bytes of its bits, those of every NaN being one.
-/
import Derived.Test.YtglcppjfbkbbpaaFloatB
import Derived.Laws.Externs
import Derived.WalkLawsBesides
import Derived.WalkSpells
namespace Go.Proofs.Ytglcppjfbkbbpaa
open Go.RowKit

/-- The eight bytes of 64 bits, the highest first. -/
def fl8 (u : Nat) : List Int := [(u : Int) / 72057594037927936 % 256, (u : Int) / 281474976710656 % 256, (u : Int) / 1099511627776 % 256, (u : Int) / 4294967296 % 256,
  (u : Int) / 16777216 % 256, (u : Int) / 65536 % 256, (u : Int) / 256 % 256, (u : Int) % 256]
theorem fl8_len (u : Nat) : (fl8 u).length = 8 := rfl

theorem Try.arrayLen38 : Try.prog.arrayLen 38 = 8 := by kernel_rfl
theorem slice_all8 (B : Nat) (W : World) :
    (Instr.sliceAt 38 (.pointer (some ⟨B, 0, none⟩)) none none none).run Try.prog W = .ok (.slice (some ⟨B, 0, none⟩) 8 8) W := by
  rw [run_sliceAt_array_all W 38 _ (by kernel_rfl), Try.arrayLen38]
  have hs : (sizeOf (Try.prog.elem 38)).run Try.prog W = .ok 1 W := by kernel_rfl
  rw [hs]
  simp [slicedAt, Result.andThen, Addr.add]

set_option maxRecDepth 100000 in
set_option maxHeartbeats 800000 in
theorem implFloat_bits (x u : Nat) (w : World) (hu : fbit x = u) :
    Calls Try.prog 18 #[.float .f64 x] w fun e w' => ∃ v, e = .returned v ∧ OwnT w.heap.size w' v (fl8 u) ∧ Below w.heap.size w w' := by
  have hsl := slice_all8 w.heap.size
  have HF := hide (fun w => hu ▸ floatBits_any x w)
  clear hu
  go_enter Try.func18, Try.ntmps18
  go_wp2_with (go_at_call 26; refine (unhide HF _).mono ?_; rintro e w' ⟨rfl, rfl⟩)
  refine wp_loop_rounds 9 ?_
  repeat (rw [rounds_succ]; go_wp2_with fail)
  go_ret
  exact ⟨_, rfl, ⟨_, 8, _, _, rfl, Nat.le_refl _, heap_alloc_new _ _, by rw [fl8_len]; decide, by simp, by unfold maxLen; omega, by rw [fl8_len]; decide, by simp [fl8]⟩, (Below.refl _ _).alloc (Nat.le_refl _) _⟩
theorem implFloat_any (x : Nat) (w : World) :
    Calls Try.prog 18 #[.float .f64 x] w fun e w' => ∃ v, e = .returned v ∧ OwnT w.heap.size w' v (fl8 (fbit x)) ∧ Below w.heap.size w w' :=
  implFloat_bits x _ w rfl
end Go.Proofs.Ytglcppjfbkbbpaa
