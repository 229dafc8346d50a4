/-
  No cell of these rows narrows 'for every input' (looked for: loops, veiled, ifaces, maps, wideKeys, modest, calm, conditions, laid).
  DERIVED. THE GIVEN ROWS OF THIS SEAT. 5 by the template 'for every input the law returns true; each argument reads behind the call as it read before'; 0 by the template 'total and deterministic' (their statements: YtadnjcgfoofjiaaTotals.lean).
  GIVEN WITH THE SEED: the statements are not yours to turn. If you find one false, say at which input.
  Laid BY PROGRAM, IN A SANDBOX (cutbox-rows.mjs): the forced cells as the released guide's own fill.sh prints them over the translation c914a8ceea640078… (all of the seat's roots in one cut). By AI agents, Wed Nov 11 2026. No macro, syntax, notation, axiom, sorry.
-/
import Derived.Test.YtadnjcgfoofjiaaChecked
import GoSem.Claim
import GoSem.ClaimJoined
import GoSem.ClaimMapViews
import Derived.JoinedTies
import Derived.KernelRfl
namespace Go.Proofs.Ytadnjcgfoofjiaa
/- THE CELL 'sum', in the pinned program and in every row, IS THE sha256 OF THE DUMP (.gsa) THAT YtadnjcgfoofjiaaProg.lean LOADS. Nothing in Lean hashes anything: it is a label: what it is worth is what the hold of that sum in a sandbox is worth. -/
noncomputable def Try.pinned : Pinned := { name := "ytadnjcgfoofjiaa", sum := "c914a8ceea64007807e46900524e8f7b68f550843907fe63aa70cd69b4efc73c", checked := Try.checked }
namespace Rows
def none {H : Type} : Left H := { results := [], args := [] }

/-- 'laws.FnLevels': WHATEVER THE INPUT: true; the input reads as it did. -/
def fnLevelsSpec : ChangeSpec := { name := "fnLevels", fn := fun _ => fun
  | [d] => { results := [.lit (.bool true)], args := [d] }
  | _ => none }
def fnLevelsRow : OpenClaim := { program := "ytadnjcgfoofjiaa", sum := "c914a8ceea64007807e46900524e8f7b68f550843907fe63aa70cd69b4efc73c", func := "loop.example/g00092/laws.FnLevels", spec := "fnLevels", unfollowed := true, recurses := true, apart := false }
def FnLevelsSaid : Prop := fnLevelsRow.holds Try.pinned (OpenSpec.ofChange fnLevelsSpec)

/-- ITS FALSE NEIGHBOUR: 'it returns false'. Refute it at one input. -/
def fnLevelsWrong : ChangeSpec := { name := "fnLevels", fn := fun _ => fun
  | [d] => { results := [.lit (.bool false)], args := [d] }
  | _ => none }
def FnLevelsWrongFalsely : Prop := fnLevelsRow.holds Try.pinned (OpenSpec.ofChange fnLevelsWrong)

/-- 'laws.FnExactBookOK': WHATEVER THE INPUT: true; the input reads as it did. -/
def fnExactBookOKSpec : ChangeSpec := { name := "fnExactBookOK", fn := fun _ => fun
  | [d] => { results := [.lit (.bool true)], args := [d] }
  | _ => none }
def fnExactBookOKRow : OpenClaim := { program := "ytadnjcgfoofjiaa", sum := "c914a8ceea64007807e46900524e8f7b68f550843907fe63aa70cd69b4efc73c", func := "loop.example/g00092/laws.FnExactBookOK", spec := "fnExactBookOK", unfollowed := true, recurses := true, apart := false }
def FnExactBookOKSaid : Prop := fnExactBookOKRow.holds Try.pinned (OpenSpec.ofChange fnExactBookOKSpec)

/-- ITS FALSE NEIGHBOUR: 'it returns false'. Refute it at one input. -/
def fnExactBookOKWrong : ChangeSpec := { name := "fnExactBookOK", fn := fun _ => fun
  | [d] => { results := [.lit (.bool false)], args := [d] }
  | _ => none }
def FnExactBookOKWrongFalsely : Prop := fnExactBookOKRow.holds Try.pinned (OpenSpec.ofChange fnExactBookOKWrong)

/-- 'laws.FnExactFront': WHATEVER THE INPUT: true; the input reads as it did. -/
def fnExactFrontSpec : ChangeSpec := { name := "fnExactFront", fn := fun _ => fun
  | [d1, d2] => { results := [.lit (.bool true)], args := [d1, d2] }
  | _ => none }
def fnExactFrontRow : OpenClaim := { program := "ytadnjcgfoofjiaa", sum := "c914a8ceea64007807e46900524e8f7b68f550843907fe63aa70cd69b4efc73c", func := "loop.example/g00092/laws.FnExactFront", spec := "fnExactFront", unfollowed := true, recurses := true, apart := false }
def FnExactFrontSaid : Prop := fnExactFrontRow.holds Try.pinned (OpenSpec.ofChange fnExactFrontSpec)

/-- ITS FALSE NEIGHBOUR: 'it returns false'. Refute it at one input. -/
def fnExactFrontWrong : ChangeSpec := { name := "fnExactFront", fn := fun _ => fun
  | [d1, d2] => { results := [.lit (.bool false)], args := [d1, d2] }
  | _ => none }
def FnExactFrontWrongFalsely : Prop := fnExactFrontRow.holds Try.pinned (OpenSpec.ofChange fnExactFrontWrong)

/-- 'laws.FnExactLevels': WHATEVER THE INPUT: true; the input reads as it did. -/
def fnExactLevelsSpec : ChangeSpec := { name := "fnExactLevels", fn := fun _ => fun
  | [d] => { results := [.lit (.bool true)], args := [d] }
  | _ => none }
def fnExactLevelsRow : OpenClaim := { program := "ytadnjcgfoofjiaa", sum := "c914a8ceea64007807e46900524e8f7b68f550843907fe63aa70cd69b4efc73c", func := "loop.example/g00092/laws.FnExactLevels", spec := "fnExactLevels", unfollowed := true, recurses := true, apart := false }
def FnExactLevelsSaid : Prop := fnExactLevelsRow.holds Try.pinned (OpenSpec.ofChange fnExactLevelsSpec)

/-- ITS FALSE NEIGHBOUR: 'it returns false'. Refute it at one input. -/
def fnExactLevelsWrong : ChangeSpec := { name := "fnExactLevels", fn := fun _ => fun
  | [d] => { results := [.lit (.bool false)], args := [d] }
  | _ => none }
def FnExactLevelsWrongFalsely : Prop := fnExactLevelsRow.holds Try.pinned (OpenSpec.ofChange fnExactLevelsWrong)

/-- 'laws.FnExactQueue': WHATEVER THE INPUT: true; the input reads as it did. -/
def fnExactQueueSpec : ChangeSpec := { name := "fnExactQueue", fn := fun _ => fun
  | [d1, d2] => { results := [.lit (.bool true)], args := [d1, d2] }
  | _ => none }
def fnExactQueueRow : OpenClaim := { program := "ytadnjcgfoofjiaa", sum := "c914a8ceea64007807e46900524e8f7b68f550843907fe63aa70cd69b4efc73c", func := "loop.example/g00092/laws.FnExactQueue", spec := "fnExactQueue", unfollowed := true, recurses := true, apart := false }
def FnExactQueueSaid : Prop := fnExactQueueRow.holds Try.pinned (OpenSpec.ofChange fnExactQueueSpec)

/-- ITS FALSE NEIGHBOUR: 'it returns false'. Refute it at one input. -/
def fnExactQueueWrong : ChangeSpec := { name := "fnExactQueue", fn := fun _ => fun
  | [d1, d2] => { results := [.lit (.bool false)], args := [d1, d2] }
  | _ => none }
def FnExactQueueWrongFalsely : Prop := fnExactQueueRow.holds Try.pinned (OpenSpec.ofChange fnExactQueueWrong)

/- THE SECOND FORM. 'bulk': how many values and letters a reading holds, each counted each time it is reached (what is shared counts as often as it is met; a slice's spare places count too). A statement '..UptoSaid' is the law's where the arguments, and the package variables that the reading takes, are together of bulk at most 1048576: NARROWER than '..Said'. Prove '..Said' where nothing that the law and all that it calls make is longer than what came in: it says more and counts as full. Else prove '..UptoSaid'. A law counts once. -/
mutual
def uptoBulk {H : Type} : DataW H → Nat
  | .lit (.string bytes) => bytes.length + 1
  | .lit _ => 1
  | .nil => 1
  | .ptr d => uptoBulk d + 1
  | .slice elems spare => uptoBulkAll elems + uptoBulkAll spare + 1
  | .agg parts => uptoBulkAll parts + 1
  | .iface _ d => uptoBulk d + 1
  | .map entries => uptoBulkEntries entries + 1
  | .held _ => 1
def uptoBulkAll {H : Type} : List (DataW H) → Nat
  | [] => 0
  | d :: r => uptoBulk d + uptoBulkAll r
def uptoBulkEntries {H : Type} : List (Lit × DataW H) → Nat
  | [] => 0
  | x :: r => uptoBulkEntry x + uptoBulkEntries r
def uptoBulkEntry {H : Type} : Lit × DataW H → Nat
  | (.string bytes, d) => bytes.length + uptoBulk d + 1
  | (_, d) => uptoBulk d + 1
 end
def uptoSmall : (H : Type) → List (DataW H) → Bool := fun _ ds => decide (uptoBulkAll ds ≤ 1048576)
def OpenSpec.upto (s : _root_.Go.ChangeSpec) : _root_.Go.OpenSpec := { _root_.Go.OpenSpec.ofChange s with cond := some uptoSmall }

/-- 'laws.FnLevels', WHERE WHAT IT READS IS OF BULK AT MOST 1048576: true; the input reads as it did. -/
def fnLevelsUptoRow : OpenClaim := { program := "ytadnjcgfoofjiaa", sum := "c914a8ceea64007807e46900524e8f7b68f550843907fe63aa70cd69b4efc73c", func := "loop.example/g00092/laws.FnLevels", spec := "fnLevels", unfollowed := true, recurses := true, apart := false, narrowed := true }
def FnLevelsUptoSaid : Prop := fnLevelsUptoRow.holds Try.pinned (OpenSpec.upto fnLevelsSpec)

/-- 'laws.FnExactBookOK', WHERE WHAT IT READS IS OF BULK AT MOST 1048576: true; the input reads as it did. -/
def fnExactBookOKUptoRow : OpenClaim := { program := "ytadnjcgfoofjiaa", sum := "c914a8ceea64007807e46900524e8f7b68f550843907fe63aa70cd69b4efc73c", func := "loop.example/g00092/laws.FnExactBookOK", spec := "fnExactBookOK", unfollowed := true, recurses := true, apart := false, narrowed := true }
def FnExactBookOKUptoSaid : Prop := fnExactBookOKUptoRow.holds Try.pinned (OpenSpec.upto fnExactBookOKSpec)

/-- 'laws.FnExactFront', WHERE WHAT IT READS IS OF BULK AT MOST 1048576: true; the input reads as it did. -/
def fnExactFrontUptoRow : OpenClaim := { program := "ytadnjcgfoofjiaa", sum := "c914a8ceea64007807e46900524e8f7b68f550843907fe63aa70cd69b4efc73c", func := "loop.example/g00092/laws.FnExactFront", spec := "fnExactFront", unfollowed := true, recurses := true, apart := false, narrowed := true }
def FnExactFrontUptoSaid : Prop := fnExactFrontUptoRow.holds Try.pinned (OpenSpec.upto fnExactFrontSpec)

/-- 'laws.FnExactLevels', WHERE WHAT IT READS IS OF BULK AT MOST 1048576: true; the input reads as it did. -/
def fnExactLevelsUptoRow : OpenClaim := { program := "ytadnjcgfoofjiaa", sum := "c914a8ceea64007807e46900524e8f7b68f550843907fe63aa70cd69b4efc73c", func := "loop.example/g00092/laws.FnExactLevels", spec := "fnExactLevels", unfollowed := true, recurses := true, apart := false, narrowed := true }
def FnExactLevelsUptoSaid : Prop := fnExactLevelsUptoRow.holds Try.pinned (OpenSpec.upto fnExactLevelsSpec)

/-- 'laws.FnExactQueue', WHERE WHAT IT READS IS OF BULK AT MOST 1048576: true; the input reads as it did. -/
def fnExactQueueUptoRow : OpenClaim := { program := "ytadnjcgfoofjiaa", sum := "c914a8ceea64007807e46900524e8f7b68f550843907fe63aa70cd69b4efc73c", func := "loop.example/g00092/laws.FnExactQueue", spec := "fnExactQueue", unfollowed := true, recurses := true, apart := false, narrowed := true }
def FnExactQueueUptoSaid : Prop := fnExactQueueUptoRow.holds Try.pinned (OpenSpec.upto fnExactQueueSpec)

end Rows
end Go.Proofs.Ytadnjcgfoofjiaa
