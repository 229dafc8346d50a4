/-
  No cell of these rows narrows 'for every input' (looked for: loops, veiled, ifaces, maps, wideKeys, modest, calm, conditions, laid).
  DERIVED. THE GIVEN ROWS OF THIS SEAT. 6 by the template 'for every input the law returns true; each argument reads behind the call as it read before'; 0 by the template 'total and deterministic' (their statements: YteljmhgpffekgaaTotals.lean).
  GIVEN WITH THE SEED: the statements are not yours to turn. If you find one false, say at which input.
  Laid BY PROGRAM, IN A SANDBOX (cutbox-rows.mjs): the forced cells as the released guide's own fill.sh prints them over the translation 70d2f3f02a9634b7… (all of the seat's roots in one cut). By AI agents, Wed Nov 11 2026. No macro, syntax, notation, axiom, sorry.
-/
import Derived.Test.YteljmhgpffekgaaChecked
import GoSem.Claim
import GoSem.ClaimJoined
import GoSem.ClaimMapViews
import Derived.JoinedTies
import Derived.KernelRfl
namespace Go.Proofs.Yteljmhgpffekgaa
/- THE CELL 'sum', in the pinned program and in every row, IS THE sha256 OF THE DUMP (.gsa) THAT YteljmhgpffekgaaProg.lean LOADS. Nothing in Lean hashes anything: it is a label: what it is worth is what the hold of that sum in a sandbox is worth. -/
noncomputable def Try.pinned : Pinned := { name := "yteljmhgpffekgaa", sum := "70d2f3f02a9634b7755b003011ceaef27b99ddd0735c643d28207811dd12e079", checked := Try.checked }
namespace Rows
def none {H : Type} : Left H := { results := [], args := [] }

/-- 'laws.FnKinds': WHATEVER THE INPUT: true; the input reads as it did. -/
def fnKindsSpec : ChangeSpec := { name := "fnKinds", fn := fun _ => fun
  | [d] => { results := [.lit (.bool true)], args := [d] }
  | _ => none }
def fnKindsRow : OpenClaim := { program := "yteljmhgpffekgaa", sum := "70d2f3f02a9634b7755b003011ceaef27b99ddd0735c643d28207811dd12e079", func := "loop.example/g00092/laws.FnKinds", spec := "fnKinds", inPlace := ["math.Float64bits", "math.Float64frombits"], apart := false }
def FnKindsSaid : Prop := fnKindsRow.holds Try.pinned (OpenSpec.ofChange fnKindsSpec)

/-- ITS FALSE NEIGHBOUR: 'it returns false'. Refute it at one input. -/
def fnKindsWrong : ChangeSpec := { name := "fnKinds", fn := fun _ => fun
  | [d] => { results := [.lit (.bool false)], args := [d] }
  | _ => none }
def FnKindsWrongFalsely : Prop := fnKindsRow.holds Try.pinned (OpenSpec.ofChange fnKindsWrong)

/-- 'laws.FnFigures': WHATEVER THE INPUT: true; the input reads as it did. -/
def fnFiguresSpec : ChangeSpec := { name := "fnFigures", fn := fun _ => fun
  | [d] => { results := [.lit (.bool true)], args := [d] }
  | _ => none }
def fnFiguresRow : OpenClaim := { program := "yteljmhgpffekgaa", sum := "70d2f3f02a9634b7755b003011ceaef27b99ddd0735c643d28207811dd12e079", func := "loop.example/g00092/laws.FnFigures", spec := "fnFigures", inPlace := ["math.Float64bits", "math.Float64frombits"], unfollowed := true, recurses := true, apart := false }
def FnFiguresSaid : Prop := fnFiguresRow.holds Try.pinned (OpenSpec.ofChange fnFiguresSpec)

/-- ITS FALSE NEIGHBOUR: 'it returns false'. Refute it at one input. -/
def fnFiguresWrong : ChangeSpec := { name := "fnFigures", fn := fun _ => fun
  | [d] => { results := [.lit (.bool false)], args := [d] }
  | _ => none }
def FnFiguresWrongFalsely : Prop := fnFiguresRow.holds Try.pinned (OpenSpec.ofChange fnFiguresWrong)

/-- 'laws.FnExactFiguresOf': WHATEVER THE INPUT: true; the input reads as it did. -/
def fnExactFiguresOfSpec : ChangeSpec := { name := "fnExactFiguresOf", fn := fun _ => fun
  | [d1, d2] => { results := [.lit (.bool true)], args := [d1, d2] }
  | _ => none }
def fnExactFiguresOfRow : OpenClaim := { program := "yteljmhgpffekgaa", sum := "70d2f3f02a9634b7755b003011ceaef27b99ddd0735c643d28207811dd12e079", func := "loop.example/g00092/laws.FnExactFiguresOf", spec := "fnExactFiguresOf", inPlace := ["math.Float64frombits", "math.Float64bits"], unfollowed := true, recurses := true, apart := false }
def FnExactFiguresOfSaid : Prop := fnExactFiguresOfRow.holds Try.pinned (OpenSpec.ofChange fnExactFiguresOfSpec)

/-- ITS FALSE NEIGHBOUR: 'it returns false'. Refute it at one input. -/
def fnExactFiguresOfWrong : ChangeSpec := { name := "fnExactFiguresOf", fn := fun _ => fun
  | [d1, d2] => { results := [.lit (.bool false)], args := [d1, d2] }
  | _ => none }
def FnExactFiguresOfWrongFalsely : Prop := fnExactFiguresOfRow.holds Try.pinned (OpenSpec.ofChange fnExactFiguresOfWrong)

/-- 'laws.FnExactKindsOf': WHATEVER THE INPUT: true; the input reads as it did. -/
def fnExactKindsOfSpec : ChangeSpec := { name := "fnExactKindsOf", fn := fun _ => fun
  | [d] => { results := [.lit (.bool true)], args := [d] }
  | _ => none }
def fnExactKindsOfRow : OpenClaim := { program := "yteljmhgpffekgaa", sum := "70d2f3f02a9634b7755b003011ceaef27b99ddd0735c643d28207811dd12e079", func := "loop.example/g00092/laws.FnExactKindsOf", spec := "fnExactKindsOf", inPlace := ["math.Float64bits"], apart := false }
def FnExactKindsOfSaid : Prop := fnExactKindsOfRow.holds Try.pinned (OpenSpec.ofChange fnExactKindsOfSpec)

/-- ITS FALSE NEIGHBOUR: 'it returns false'. Refute it at one input. -/
def fnExactKindsOfWrong : ChangeSpec := { name := "fnExactKindsOf", fn := fun _ => fun
  | [d] => { results := [.lit (.bool false)], args := [d] }
  | _ => none }
def FnExactKindsOfWrongFalsely : Prop := fnExactKindsOfRow.holds Try.pinned (OpenSpec.ofChange fnExactKindsOfWrong)

/-- 'laws.FnExactRangeOf': WHATEVER THE INPUT: true; the input reads as it did. -/
def fnExactRangeOfSpec : ChangeSpec := { name := "fnExactRangeOf", fn := fun _ => fun
  | [d] => { results := [.lit (.bool true)], args := [d] }
  | _ => none }
def fnExactRangeOfRow : OpenClaim := { program := "yteljmhgpffekgaa", sum := "70d2f3f02a9634b7755b003011ceaef27b99ddd0735c643d28207811dd12e079", func := "loop.example/g00092/laws.FnExactRangeOf", spec := "fnExactRangeOf", inPlace := ["math.Float64bits"], apart := false }
def FnExactRangeOfSaid : Prop := fnExactRangeOfRow.holds Try.pinned (OpenSpec.ofChange fnExactRangeOfSpec)

/-- ITS FALSE NEIGHBOUR: 'it returns false'. Refute it at one input. -/
def fnExactRangeOfWrong : ChangeSpec := { name := "fnExactRangeOf", fn := fun _ => fun
  | [d] => { results := [.lit (.bool false)], args := [d] }
  | _ => none }
def FnExactRangeOfWrongFalsely : Prop := fnExactRangeOfRow.holds Try.pinned (OpenSpec.ofChange fnExactRangeOfWrong)

/-- 'laws.FnExactSumOfPrices': WHATEVER THE INPUT: true; the input reads as it did. -/
def fnExactSumOfPricesSpec : ChangeSpec := { name := "fnExactSumOfPrices", fn := fun _ => fun
  | [d] => { results := [.lit (.bool true)], args := [d] }
  | _ => none }
def fnExactSumOfPricesRow : OpenClaim := { program := "yteljmhgpffekgaa", sum := "70d2f3f02a9634b7755b003011ceaef27b99ddd0735c643d28207811dd12e079", func := "loop.example/g00092/laws.FnExactSumOfPrices", spec := "fnExactSumOfPrices", inPlace := ["math.Float64bits", "math.Float64frombits"], apart := false }
def FnExactSumOfPricesSaid : Prop := fnExactSumOfPricesRow.holds Try.pinned (OpenSpec.ofChange fnExactSumOfPricesSpec)

/-- ITS FALSE NEIGHBOUR: 'it returns false'. Refute it at one input. -/
def fnExactSumOfPricesWrong : ChangeSpec := { name := "fnExactSumOfPrices", fn := fun _ => fun
  | [d] => { results := [.lit (.bool false)], args := [d] }
  | _ => none }
def FnExactSumOfPricesWrongFalsely : Prop := fnExactSumOfPricesRow.holds Try.pinned (OpenSpec.ofChange fnExactSumOfPricesWrong)

/- THE SECOND FORM. 'bulk': how many values and letters a reading holds, each counted each time it is reached (what is shared counts as often as it is met; a slice's spare places count too). A statement '..UptoSaid' is the law's where the arguments, and the package variables that the reading takes, are together of bulk at most 1048576: NARROWER than '..Said'. Prove '..Said' where nothing that the law and all that it calls make is longer than what came in: it says more and counts as full. Else prove '..UptoSaid'. A law counts once. -/
mutual
def uptoBulk {H : Type} : DataW H → Nat
  | .lit (.string bytes) => bytes.length + 1
  | .lit _ => 1
  | .nil => 1
  | .ptr d => uptoBulk d + 1
  | .slice elems spare => uptoBulkAll elems + uptoBulkAll spare + 1
  | .agg parts => uptoBulkAll parts + 1
  | .iface _ d => uptoBulk d + 1
  | .map entries => uptoBulkEntries entries + 1
  | .held _ => 1
def uptoBulkAll {H : Type} : List (DataW H) → Nat
  | [] => 0
  | d :: r => uptoBulk d + uptoBulkAll r
def uptoBulkEntries {H : Type} : List (Lit × DataW H) → Nat
  | [] => 0
  | x :: r => uptoBulkEntry x + uptoBulkEntries r
def uptoBulkEntry {H : Type} : Lit × DataW H → Nat
  | (.string bytes, d) => bytes.length + uptoBulk d + 1
  | (_, d) => uptoBulk d + 1
 end
def uptoSmall : (H : Type) → List (DataW H) → Bool := fun _ ds => decide (uptoBulkAll ds ≤ 1048576)
def OpenSpec.upto (s : _root_.Go.ChangeSpec) : _root_.Go.OpenSpec := { _root_.Go.OpenSpec.ofChange s with cond := some uptoSmall }

/-- 'laws.FnKinds', WHERE WHAT IT READS IS OF BULK AT MOST 1048576: true; the input reads as it did. -/
def fnKindsUptoRow : OpenClaim := { program := "yteljmhgpffekgaa", sum := "70d2f3f02a9634b7755b003011ceaef27b99ddd0735c643d28207811dd12e079", func := "loop.example/g00092/laws.FnKinds", spec := "fnKinds", inPlace := ["math.Float64bits", "math.Float64frombits"], apart := false, narrowed := true }
def FnKindsUptoSaid : Prop := fnKindsUptoRow.holds Try.pinned (OpenSpec.upto fnKindsSpec)

/-- 'laws.FnFigures', WHERE WHAT IT READS IS OF BULK AT MOST 1048576: true; the input reads as it did. -/
def fnFiguresUptoRow : OpenClaim := { program := "yteljmhgpffekgaa", sum := "70d2f3f02a9634b7755b003011ceaef27b99ddd0735c643d28207811dd12e079", func := "loop.example/g00092/laws.FnFigures", spec := "fnFigures", inPlace := ["math.Float64bits", "math.Float64frombits"], unfollowed := true, recurses := true, apart := false, narrowed := true }
def FnFiguresUptoSaid : Prop := fnFiguresUptoRow.holds Try.pinned (OpenSpec.upto fnFiguresSpec)

/-- 'laws.FnExactFiguresOf', WHERE WHAT IT READS IS OF BULK AT MOST 1048576: true; the input reads as it did. -/
def fnExactFiguresOfUptoRow : OpenClaim := { program := "yteljmhgpffekgaa", sum := "70d2f3f02a9634b7755b003011ceaef27b99ddd0735c643d28207811dd12e079", func := "loop.example/g00092/laws.FnExactFiguresOf", spec := "fnExactFiguresOf", inPlace := ["math.Float64frombits", "math.Float64bits"], unfollowed := true, recurses := true, apart := false, narrowed := true }
def FnExactFiguresOfUptoSaid : Prop := fnExactFiguresOfUptoRow.holds Try.pinned (OpenSpec.upto fnExactFiguresOfSpec)

/-- 'laws.FnExactKindsOf', WHERE WHAT IT READS IS OF BULK AT MOST 1048576: true; the input reads as it did. -/
def fnExactKindsOfUptoRow : OpenClaim := { program := "yteljmhgpffekgaa", sum := "70d2f3f02a9634b7755b003011ceaef27b99ddd0735c643d28207811dd12e079", func := "loop.example/g00092/laws.FnExactKindsOf", spec := "fnExactKindsOf", inPlace := ["math.Float64bits"], apart := false, narrowed := true }
def FnExactKindsOfUptoSaid : Prop := fnExactKindsOfUptoRow.holds Try.pinned (OpenSpec.upto fnExactKindsOfSpec)

/-- 'laws.FnExactRangeOf', WHERE WHAT IT READS IS OF BULK AT MOST 1048576: true; the input reads as it did. -/
def fnExactRangeOfUptoRow : OpenClaim := { program := "yteljmhgpffekgaa", sum := "70d2f3f02a9634b7755b003011ceaef27b99ddd0735c643d28207811dd12e079", func := "loop.example/g00092/laws.FnExactRangeOf", spec := "fnExactRangeOf", inPlace := ["math.Float64bits"], apart := false, narrowed := true }
def FnExactRangeOfUptoSaid : Prop := fnExactRangeOfUptoRow.holds Try.pinned (OpenSpec.upto fnExactRangeOfSpec)

/-- 'laws.FnExactSumOfPrices', WHERE WHAT IT READS IS OF BULK AT MOST 1048576: true; the input reads as it did. -/
def fnExactSumOfPricesUptoRow : OpenClaim := { program := "yteljmhgpffekgaa", sum := "70d2f3f02a9634b7755b003011ceaef27b99ddd0735c643d28207811dd12e079", func := "loop.example/g00092/laws.FnExactSumOfPrices", spec := "fnExactSumOfPrices", inPlace := ["math.Float64bits", "math.Float64frombits"], apart := false, narrowed := true }
def FnExactSumOfPricesUptoSaid : Prop := fnExactSumOfPricesUptoRow.holds Try.pinned (OpenSpec.upto fnExactSumOfPricesSpec)

end Rows
end Go.Proofs.Yteljmhgpffekgaa
