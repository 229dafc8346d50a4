/-
  No cell of these rows narrows 'for every input' (looked for: loops, veiled, ifaces, maps, wideKeys, modest, calm, conditions, laid).
  DERIVED. THE GIVEN ROWS OF THIS SEAT. 6 by the template 'for every input the law returns true; each argument reads behind the call as it read before'; 0 by the template 'total and deterministic' (their statements: YtbakanofkghmiaaGreatTotals.lean).
  GIVEN WITH THE SEED: the statements are not yours to turn. If you find one false, say at which input.
  Laid BY PROGRAM, IN A SANDBOX (cutbox-rows.mjs): the forced cells as the released guide's own fill.sh prints them over the translation 9cb7b42e247e0626… (all of the seat's roots in one cut). By AI agents, Wed Nov 11 2026. No macro, syntax, notation, axiom, sorry.
-/
import Derived.Test.YtbakanofkghmiaaGreatChecked
import GoSem.Claim
import GoSem.ClaimJoined
import GoSem.ClaimMapViews
import Derived.JoinedTies
import Derived.KernelRfl
namespace Go.Proofs.YtbakanofkghmiaaGreat
/- THE CELL 'sum', in the pinned program and in every row, IS THE sha256 OF THE DUMP (.gsa) THAT YtbakanofkghmiaaGreatProg.lean LOADS. Nothing in Lean hashes anything: it is a label: what it is worth is what the hold of that sum in a sandbox is worth. -/
noncomputable def Tryz.pinned : Pinned := { name := "ytbakanofkghmiaagreat", sum := "9cb7b42e247e0626f9836af650ed7d49107cbdb57710bff13872152336108eba", checked := Tryz.checked }
namespace Rows
def none {H : Type} : Left H := { results := [], args := [] }

/-- 'laws.FnBooks': WHATEVER THE INPUT: true; the input reads as it did. -/
def fnBooksSpec : ChangeSpec := { name := "fnBooks", fn := fun _ => fun
  | [d] => { results := [.lit (.bool true)], args := [d] }
  | _ => none }
def fnBooksRow : OpenClaim := { program := "ytbakanofkghmiaagreat", sum := "9cb7b42e247e0626f9836af650ed7d49107cbdb57710bff13872152336108eba", func := "loop.example/g00092/laws.FnBooks", spec := "fnBooks", inPlace := ["math.Float64bits", "math.Float64frombits"], unfollowed := true, recurses := true, apart := false }
def FnBooksSaid : Prop := fnBooksRow.holds Tryz.pinned (OpenSpec.ofChange fnBooksSpec)

/-- ITS FALSE NEIGHBOUR: 'it returns false'. Refute it at one input. -/
def fnBooksWrong : ChangeSpec := { name := "fnBooks", fn := fun _ => fun
  | [d] => { results := [.lit (.bool false)], args := [d] }
  | _ => none }
def FnBooksWrongFalsely : Prop := fnBooksRow.holds Tryz.pinned (OpenSpec.ofChange fnBooksWrong)

/-- 'laws.FnPriority': WHATEVER THE INPUT: true; the input reads as it did. -/
def fnPrioritySpec : ChangeSpec := { name := "fnPriority", fn := fun _ => fun
  | [d] => { results := [.lit (.bool true)], args := [d] }
  | _ => none }
def fnPriorityRow : OpenClaim := { program := "ytbakanofkghmiaagreat", sum := "9cb7b42e247e0626f9836af650ed7d49107cbdb57710bff13872152336108eba", func := "loop.example/g00092/laws.FnPriority", spec := "fnPriority", inPlace := ["math.Float64bits", "math.Float64frombits"], unfollowed := true, recurses := true, apart := false }
def FnPrioritySaid : Prop := fnPriorityRow.holds Tryz.pinned (OpenSpec.ofChange fnPrioritySpec)

/-- ITS FALSE NEIGHBOUR: 'it returns false'. Refute it at one input. -/
def fnPriorityWrong : ChangeSpec := { name := "fnPriority", fn := fun _ => fun
  | [d] => { results := [.lit (.bool false)], args := [d] }
  | _ => none }
def FnPriorityWrongFalsely : Prop := fnPriorityRow.holds Tryz.pinned (OpenSpec.ofChange fnPriorityWrong)

/-- 'laws.FnConserve': WHATEVER THE INPUT: true; the input reads as it did. -/
def fnConserveSpec : ChangeSpec := { name := "fnConserve", fn := fun _ => fun
  | [d] => { results := [.lit (.bool true)], args := [d] }
  | _ => none }
def fnConserveRow : OpenClaim := { program := "ytbakanofkghmiaagreat", sum := "9cb7b42e247e0626f9836af650ed7d49107cbdb57710bff13872152336108eba", func := "loop.example/g00092/laws.FnConserve", spec := "fnConserve", inPlace := ["math.Float64bits", "math.Float64frombits"], unfollowed := true, recurses := true, apart := false }
def FnConserveSaid : Prop := fnConserveRow.holds Tryz.pinned (OpenSpec.ofChange fnConserveSpec)

/-- ITS FALSE NEIGHBOUR: 'it returns false'. Refute it at one input. -/
def fnConserveWrong : ChangeSpec := { name := "fnConserve", fn := fun _ => fun
  | [d] => { results := [.lit (.bool false)], args := [d] }
  | _ => none }
def FnConserveWrongFalsely : Prop := fnConserveRow.holds Tryz.pinned (OpenSpec.ofChange fnConserveWrong)

/-- 'laws.FnTypes': WHATEVER THE INPUT: true; the input reads as it did. -/
def fnTypesSpec : ChangeSpec := { name := "fnTypes", fn := fun _ => fun
  | [d] => { results := [.lit (.bool true)], args := [d] }
  | _ => none }
def fnTypesRow : OpenClaim := { program := "ytbakanofkghmiaagreat", sum := "9cb7b42e247e0626f9836af650ed7d49107cbdb57710bff13872152336108eba", func := "loop.example/g00092/laws.FnTypes", spec := "fnTypes", inPlace := ["math.Float64bits", "math.Float64frombits"], unfollowed := true, recurses := true, apart := false }
def FnTypesSaid : Prop := fnTypesRow.holds Tryz.pinned (OpenSpec.ofChange fnTypesSpec)

/-- ITS FALSE NEIGHBOUR: 'it returns false'. Refute it at one input. -/
def fnTypesWrong : ChangeSpec := { name := "fnTypes", fn := fun _ => fun
  | [d] => { results := [.lit (.bool false)], args := [d] }
  | _ => none }
def FnTypesWrongFalsely : Prop := fnTypesRow.holds Tryz.pinned (OpenSpec.ofChange fnTypesWrong)

/-- 'laws.FnTotals': WHATEVER THE INPUT: true; the input reads as it did. -/
def fnTotalsSpec : ChangeSpec := { name := "fnTotals", fn := fun _ => fun
  | [d] => { results := [.lit (.bool true)], args := [d] }
  | _ => none }
def fnTotalsRow : OpenClaim := { program := "ytbakanofkghmiaagreat", sum := "9cb7b42e247e0626f9836af650ed7d49107cbdb57710bff13872152336108eba", func := "loop.example/g00092/laws.FnTotals", spec := "fnTotals", inPlace := ["math.Float64bits", "math.Float64frombits"], unfollowed := true, recurses := true, apart := false }
def FnTotalsSaid : Prop := fnTotalsRow.holds Tryz.pinned (OpenSpec.ofChange fnTotalsSpec)

/-- ITS FALSE NEIGHBOUR: 'it returns false'. Refute it at one input. -/
def fnTotalsWrong : ChangeSpec := { name := "fnTotals", fn := fun _ => fun
  | [d] => { results := [.lit (.bool false)], args := [d] }
  | _ => none }
def FnTotalsWrongFalsely : Prop := fnTotalsRow.holds Tryz.pinned (OpenSpec.ofChange fnTotalsWrong)

/-- 'laws.FnExactRunScript': WHATEVER THE INPUT: true; the input reads as it did. -/
def fnExactRunScriptSpec : ChangeSpec := { name := "fnExactRunScript", fn := fun _ => fun
  | [d] => { results := [.lit (.bool true)], args := [d] }
  | _ => none }
def fnExactRunScriptRow : OpenClaim := { program := "ytbakanofkghmiaagreat", sum := "9cb7b42e247e0626f9836af650ed7d49107cbdb57710bff13872152336108eba", func := "loop.example/g00092/laws.FnExactRunScript", spec := "fnExactRunScript", inPlace := ["math.Float64bits"], unfollowed := true, recurses := true, apart := false }
def FnExactRunScriptSaid : Prop := fnExactRunScriptRow.holds Tryz.pinned (OpenSpec.ofChange fnExactRunScriptSpec)

/-- ITS FALSE NEIGHBOUR: 'it returns false'. Refute it at one input. -/
def fnExactRunScriptWrong : ChangeSpec := { name := "fnExactRunScript", fn := fun _ => fun
  | [d] => { results := [.lit (.bool false)], args := [d] }
  | _ => none }
def FnExactRunScriptWrongFalsely : Prop := fnExactRunScriptRow.holds Tryz.pinned (OpenSpec.ofChange fnExactRunScriptWrong)

/- THE SECOND FORM. 'bulk': how many values and letters a reading holds, each counted each time it is reached (what is shared counts as often as it is met; a slice's spare places count too). A statement '..UptoSaid' is the law's where the arguments, and the package variables that the reading takes, are together of bulk at most 1048576: NARROWER than '..Said'. Prove '..Said' where nothing that the law and all that it calls make is longer than what came in: it says more and counts as full. Else prove '..UptoSaid'. A law counts once. -/
mutual
def uptoBulk {H : Type} : DataW H → Nat
  | .lit (.string bytes) => bytes.length + 1
  | .lit _ => 1
  | .nil => 1
  | .ptr d => uptoBulk d + 1
  | .slice elems spare => uptoBulkAll elems + uptoBulkAll spare + 1
  | .agg parts => uptoBulkAll parts + 1
  | .iface _ d => uptoBulk d + 1
  | .map entries => uptoBulkEntries entries + 1
  | .held _ => 1
def uptoBulkAll {H : Type} : List (DataW H) → Nat
  | [] => 0
  | d :: r => uptoBulk d + uptoBulkAll r
def uptoBulkEntries {H : Type} : List (Lit × DataW H) → Nat
  | [] => 0
  | x :: r => uptoBulkEntry x + uptoBulkEntries r
def uptoBulkEntry {H : Type} : Lit × DataW H → Nat
  | (.string bytes, d) => bytes.length + uptoBulk d + 1
  | (_, d) => uptoBulk d + 1
 end
def uptoSmall : (H : Type) → List (DataW H) → Bool := fun _ ds => decide (uptoBulkAll ds ≤ 1048576)
def OpenSpec.upto (s : _root_.Go.ChangeSpec) : _root_.Go.OpenSpec := { _root_.Go.OpenSpec.ofChange s with cond := some uptoSmall }

/-- 'laws.FnBooks', WHERE WHAT IT READS IS OF BULK AT MOST 1048576: true; the input reads as it did. -/
def fnBooksUptoRow : OpenClaim := { program := "ytbakanofkghmiaagreat", sum := "9cb7b42e247e0626f9836af650ed7d49107cbdb57710bff13872152336108eba", func := "loop.example/g00092/laws.FnBooks", spec := "fnBooks", inPlace := ["math.Float64bits", "math.Float64frombits"], unfollowed := true, recurses := true, apart := false, narrowed := true }
def FnBooksUptoSaid : Prop := fnBooksUptoRow.holds Tryz.pinned (OpenSpec.upto fnBooksSpec)

/-- 'laws.FnPriority', WHERE WHAT IT READS IS OF BULK AT MOST 1048576: true; the input reads as it did. -/
def fnPriorityUptoRow : OpenClaim := { program := "ytbakanofkghmiaagreat", sum := "9cb7b42e247e0626f9836af650ed7d49107cbdb57710bff13872152336108eba", func := "loop.example/g00092/laws.FnPriority", spec := "fnPriority", inPlace := ["math.Float64bits", "math.Float64frombits"], unfollowed := true, recurses := true, apart := false, narrowed := true }
def FnPriorityUptoSaid : Prop := fnPriorityUptoRow.holds Tryz.pinned (OpenSpec.upto fnPrioritySpec)

/-- 'laws.FnConserve', WHERE WHAT IT READS IS OF BULK AT MOST 1048576: true; the input reads as it did. -/
def fnConserveUptoRow : OpenClaim := { program := "ytbakanofkghmiaagreat", sum := "9cb7b42e247e0626f9836af650ed7d49107cbdb57710bff13872152336108eba", func := "loop.example/g00092/laws.FnConserve", spec := "fnConserve", inPlace := ["math.Float64bits", "math.Float64frombits"], unfollowed := true, recurses := true, apart := false, narrowed := true }
def FnConserveUptoSaid : Prop := fnConserveUptoRow.holds Tryz.pinned (OpenSpec.upto fnConserveSpec)

/-- 'laws.FnTypes', WHERE WHAT IT READS IS OF BULK AT MOST 1048576: true; the input reads as it did. -/
def fnTypesUptoRow : OpenClaim := { program := "ytbakanofkghmiaagreat", sum := "9cb7b42e247e0626f9836af650ed7d49107cbdb57710bff13872152336108eba", func := "loop.example/g00092/laws.FnTypes", spec := "fnTypes", inPlace := ["math.Float64bits", "math.Float64frombits"], unfollowed := true, recurses := true, apart := false, narrowed := true }
def FnTypesUptoSaid : Prop := fnTypesUptoRow.holds Tryz.pinned (OpenSpec.upto fnTypesSpec)

/-- 'laws.FnTotals', WHERE WHAT IT READS IS OF BULK AT MOST 1048576: true; the input reads as it did. -/
def fnTotalsUptoRow : OpenClaim := { program := "ytbakanofkghmiaagreat", sum := "9cb7b42e247e0626f9836af650ed7d49107cbdb57710bff13872152336108eba", func := "loop.example/g00092/laws.FnTotals", spec := "fnTotals", inPlace := ["math.Float64bits", "math.Float64frombits"], unfollowed := true, recurses := true, apart := false, narrowed := true }
def FnTotalsUptoSaid : Prop := fnTotalsUptoRow.holds Tryz.pinned (OpenSpec.upto fnTotalsSpec)

/-- 'laws.FnExactRunScript', WHERE WHAT IT READS IS OF BULK AT MOST 1048576: true; the input reads as it did. -/
def fnExactRunScriptUptoRow : OpenClaim := { program := "ytbakanofkghmiaagreat", sum := "9cb7b42e247e0626f9836af650ed7d49107cbdb57710bff13872152336108eba", func := "loop.example/g00092/laws.FnExactRunScript", spec := "fnExactRunScript", inPlace := ["math.Float64bits"], unfollowed := true, recurses := true, apart := false, narrowed := true }
def FnExactRunScriptUptoSaid : Prop := fnExactRunScriptUptoRow.holds Tryz.pinned (OpenSpec.upto fnExactRunScriptSpec)

end Rows
end Go.Proofs.YtbakanofkghmiaaGreat
