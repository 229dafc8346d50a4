/-
  What the program's function that writes a text's bytes returns, proved by walking it: a row of its own with the number of the bytes of the cut text, and these.
-/
import Derived.Test.YthkdbjldlfahdaaGreatDoorTj20
import Derived.Test.YthkdbjldlfahdaaGreatDoorTj21
import Derived.Test.YthkdbjldlfahdaaGreatDoorTj22
import Derived.Laws.Externs
import Derived.WalkLawsBesides
import Derived.WalkSpells
namespace Go.Proofs.YthkdbjldlfahdaaGreatDoor
open Go.RowKit

/-- The bytes of a text. -/
def textL (s : ByteArray) : List Int := putU (zz (cutB s).size) ++ bl (cutB s)
theorem textL_len (s : ByteArray) : 0 < (textL s).length ∧ (textL s).length ≤ 1073741824 := by
  have h1 := putU_pos (zz (cutB s).size)
  have h2 := cutB_size s
  have h3 := putU_len10 (zz (cutB s).size) (zz_lt _ (by omega) (by omega))
  rw [textL, List.length_append, bl_len]
  omega

set_option maxHeartbeats 400000 in
theorem implText_any (s : ByteArray) (w : World) (hs : s.size ≤ maxLen) :
    Calls Tryz.prog 73 #[.string s] w fun e w' => ∃ v, e = .returned v ∧ OwnT w.heap.size w' v (textL s) ∧ Below w.heap.size w w' := by
  obtain ⟨i0, hi, hz0, hz1, hz2⟩ := info_parts Tryz.infoByte
  have hc := cutB_size s
  have HT := hide (textL_len s).2
  have HTL := hide (show textL s = putU (zz (cutB s).size) ++ bl (cutB s) from rfl)
  have HC := hide (fun w => implCut_any s w hs)
  generalize cutB s = c at *
  generalize textL s = l at *
  clear hs
  go_enter Tryz.func73, Tryz.ntmps73
  go_wp2_with fail
  refine (unhide HC _).mono ?_
  rintro e w0 ⟨rfl, rfl⟩
  go_wp2_with fail
  refine (implPut_any c.size _ (by omega) (by omega)).mono ?_
  rintro e w1 ⟨v1, rfl, ho, hb⟩
  have HO := hide ho
  have HB := hide hb
  clear ho hb
  go_wp2_with (at_builtin; go_must (refine wpList_append_text _ rfl _ _ 53 9 rfl w0.heap.size 5 i0 Tryz.underlying53 Tryz.underlying9 hi hz0 hz1 hz2 _ _ rfl (unhide HO) c rfl (by have := unhide HT; rw [unhide HTL, List.length_append, bl_len] at this; exact this) (unhide HB).size ?_); intro v2 w2 ho2 hg2)
  go_ret
  refine ⟨_, rfl, by rw [unhide HTL]; exact ho2, (unhide HB).grown hg2 (unhide HB).size (OwnT.ge (unhide HO))⟩

end Go.Proofs.YthkdbjldlfahdaaGreatDoor
namespace Go.Proofs.YthkdbjldlfahdaaGreatDoor
open Go.RowKit

/-- The eight bytes of 64 bits, the highest first. -/
def fl8 (u : Nat) : List Int := [(u : Int) / 72057594037927936 % 256, (u : Int) / 281474976710656 % 256, (u : Int) / 1099511627776 % 256, (u : Int) / 4294967296 % 256,
  (u : Int) / 16777216 % 256, (u : Int) / 65536 % 256, (u : Int) / 256 % 256, (u : Int) % 256]
theorem fl8_len (u : Nat) : (fl8 u).length = 8 := rfl

theorem Tryz.arrayLen100 : Tryz.prog.arrayLen 100 = 8 := by kernel_rfl
theorem slice_all8 (B : Nat) (W : World) :
    (Instr.sliceAt 100 (.pointer (some ⟨B, 0, none⟩)) none none none).run Tryz.prog W = .ok (.slice (some ⟨B, 0, none⟩) 8 8) W := by
  rw [run_sliceAt_array_all W 100 _ (by kernel_rfl), Tryz.arrayLen100]
  have hs : (sizeOf (Tryz.prog.elem 100)).run Tryz.prog W = .ok 1 W := by kernel_rfl
  rw [hs]
  simp [slicedAt, Result.andThen, Addr.add]

set_option maxRecDepth 100000 in
set_option maxHeartbeats 800000 in
theorem implFloat_bits (x u : Nat) (w : World) (hu : fbit x = u) :
    Calls Tryz.prog 71 #[.float .f64 x] w fun e w' => ∃ v, e = .returned v ∧ OwnT w.heap.size w' v (fl8 u) ∧ Below w.heap.size w w' := by
  have hsl := slice_all8 w.heap.size
  have HF := hide (fun w => hu ▸ floatBits_any x w)
  clear hu
  go_enter Tryz.func71, Tryz.ntmps71
  go_wp2_with (go_at_call 42; refine (unhide HF _).mono ?_; rintro e w' ⟨rfl, rfl⟩)
  refine wp_loop_rounds 9 ?_
  repeat (rw [rounds_succ]; go_wp2_with fail)
  go_ret
  exact ⟨_, rfl, ⟨_, 8, _, _, rfl, Nat.le_refl _, heap_alloc_new _ _, by rw [fl8_len]; decide, by simp, by unfold maxLen; omega, by rw [fl8_len]; decide, by simp [fl8]⟩, (Below.refl _ _).alloc (Nat.le_refl _) _⟩
theorem implFloat_any (x : Nat) (w : World) :
    Calls Tryz.prog 71 #[.float .f64 x] w fun e w' => ∃ v, e = .returned v ∧ OwnT w.heap.size w' v (fl8 (fbit x)) ∧ Below w.heap.size w w' :=
  implFloat_bits x _ w rfl
end Go.Proofs.YthkdbjldlfahdaaGreatDoor
