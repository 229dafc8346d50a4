/-
  NARROWER THAN 'FOR EVERY INPUT', by the rows' own cells (each row's printed sentence says how): FnExactRuleName: laid.
  DERIVED. THE GIVEN ROWS OF THIS SEAT. 1 by the template 'for every input the law returns true; each argument reads behind the call as it read before'; 0 by the template 'total and deterministic' (their statements: YtdfihaabhichdaaDoorTotals.lean).
  GIVEN WITH THE SEED: the statements are not yours to turn. If you find one false, say at which input.
  Laid BY PROGRAM, IN A SANDBOX (cutbox-rows.mjs): the forced cells as the released guide's own fill.sh prints them over the translation 2b4a475db34c539b… (all of the seat's roots in one cut). By AI agents, Wed Nov 11 2026. No macro, syntax, notation, axiom, sorry.
-/
import Derived.Test.YtdfihaabhichdaaDoorChecked
import GoSem.Claim
import GoSem.ClaimJoined
import GoSem.ClaimMapViews
import Derived.JoinedTies
import Derived.KernelRfl
namespace Go.Proofs.YtdfihaabhichdaaDoor
/- THE CELL 'sum', in the pinned program and in every row, IS THE sha256 OF THE DUMP (.gsa) THAT YtdfihaabhichdaaDoorProg.lean LOADS. Nothing in Lean hashes anything: it is a label: what it is worth is what the hold of that sum in a sandbox is worth. -/
noncomputable def Tryd.pinned : Pinned := { name := "ytdfihaabhichdaadoor", sum := "2b4a475db34c539b910ce5fb944d194fdc8779b512769f0d8321eef6966eedef", checked := Tryd.checked }
namespace Rows
def none {H : Type} : Left H := { results := [], args := [] }

/- WHAT THE LISTED PACKAGE-LEVEL VARIABLES READ AS WHEN THE CALL BEGINS. Each datum BY PROGRAM (the guide's laid-datum.mjs) off the statement by which the dump's own 'gosem.cut.vars' lays the variable. In a bare row this is a premise. The card (YtdfihaabhichdaaDoorCards.lean) ties it to the program's text. -/
def laid_loop_example_g00092_impl_ruleNames {H : Type} : DataW H := .agg [.lit (.string []), .lit (.string [102, 114, 97, 109, 101]), .lit (.string [101, 118, 101, 110, 116]), .lit (.string [115, 116, 97, 114, 116]), .lit (.string [114, 101, 97, 115, 111, 110]), .lit (.string [97, 99, 99, 101, 112, 116]), .lit (.string [105, 100]), .lit (.string [99, 111, 117, 110, 116]), .lit (.string [111, 118, 101, 114]), .lit (.string [116, 114, 97, 100, 101]), .lit (.string [109, 97, 107, 101, 114]), .lit (.string [112, 114, 105, 99, 101]), .lit (.string [113, 116, 121]), .lit (.string [114, 101, 115, 116]), .lit (.string [101, 120, 112, 105, 114, 101]), .lit (.string [115, 104, 111, 114, 116]), .lit (.string [116, 111, 116, 97, 108, 115]), .lit (.string [98, 101, 104, 105, 110, 100]), .lit (.string [109, 97, 110, 121])]

/-- 'laws.FnExactRuleName': WHATEVER THE INPUT: true; the input reads as it did. -/
def fnExactRuleNameSpec : ChangeSpec := { name := "fnExactRuleName", vars := ["loop.example/g00092/impl.ruleNames"], fn := fun _ => fun
  | [d, g1] => { results := [.lit (.bool true)], args := [d], vars := [g1] }
  | _ => none }
def fnExactRuleNameRow : OpenClaim := { program := "ytdfihaabhichdaadoor", sum := "2b4a475db34c539b910ce5fb944d194fdc8779b512769f0d8321eef6966eedef", func := "loop.example/g00092/laws.FnExactRuleName", spec := "fnExactRuleName", named := ["loop.example/g00092/impl.ruleNames"], apart := false, laid := [("loop.example/g00092/impl.ruleNames", laid_loop_example_g00092_impl_ruleNames)] }
def FnExactRuleNameSaid : Prop := fnExactRuleNameRow.holds Tryd.pinned (OpenSpec.ofChange fnExactRuleNameSpec)

/-- ITS FALSE NEIGHBOUR: 'it returns false'. Refute it at one input. -/
def fnExactRuleNameWrong : ChangeSpec := { name := "fnExactRuleName", vars := ["loop.example/g00092/impl.ruleNames"], fn := fun _ => fun
  | [d, g1] => { results := [.lit (.bool false)], args := [d], vars := [g1] }
  | _ => none }
def FnExactRuleNameWrongFalsely : Prop := fnExactRuleNameRow.holds Tryd.pinned (OpenSpec.ofChange fnExactRuleNameWrong)

/- THE SECOND FORM. 'bulk': how many values and letters a reading holds, each counted each time it is reached (what is shared counts as often as it is met; a slice's spare places count too). A statement '..UptoSaid' is the law's where the arguments, and the package variables that the reading takes, are together of bulk at most 1048576: NARROWER than '..Said'. Prove '..Said' where nothing that the law and all that it calls make is longer than what came in: it says more and counts as full. Else prove '..UptoSaid'. A law counts once. -/
mutual
def uptoBulk {H : Type} : DataW H → Nat
  | .lit (.string bytes) => bytes.length + 1
  | .lit _ => 1
  | .nil => 1
  | .ptr d => uptoBulk d + 1
  | .slice elems spare => uptoBulkAll elems + uptoBulkAll spare + 1
  | .agg parts => uptoBulkAll parts + 1
  | .iface _ d => uptoBulk d + 1
  | .map entries => uptoBulkEntries entries + 1
  | .held _ => 1
def uptoBulkAll {H : Type} : List (DataW H) → Nat
  | [] => 0
  | d :: r => uptoBulk d + uptoBulkAll r
def uptoBulkEntries {H : Type} : List (Lit × DataW H) → Nat
  | [] => 0
  | x :: r => uptoBulkEntry x + uptoBulkEntries r
def uptoBulkEntry {H : Type} : Lit × DataW H → Nat
  | (.string bytes, d) => bytes.length + uptoBulk d + 1
  | (_, d) => uptoBulk d + 1
 end
def uptoSmall : (H : Type) → List (DataW H) → Bool := fun _ ds => decide (uptoBulkAll ds ≤ 1048576)
def OpenSpec.upto (s : _root_.Go.ChangeSpec) : _root_.Go.OpenSpec := { _root_.Go.OpenSpec.ofChange s with cond := some uptoSmall }

/-- 'laws.FnExactRuleName', WHERE WHAT IT READS IS OF BULK AT MOST 1048576: true; the input reads as it did. -/
def fnExactRuleNameUptoRow : OpenClaim := { program := "ytdfihaabhichdaadoor", sum := "2b4a475db34c539b910ce5fb944d194fdc8779b512769f0d8321eef6966eedef", func := "loop.example/g00092/laws.FnExactRuleName", spec := "fnExactRuleName", named := ["loop.example/g00092/impl.ruleNames"], apart := false, laid := [("loop.example/g00092/impl.ruleNames", laid_loop_example_g00092_impl_ruleNames)], narrowed := true }
def FnExactRuleNameUptoSaid : Prop := fnExactRuleNameUptoRow.holds Tryd.pinned (OpenSpec.upto fnExactRuleNameSpec)

end Rows
end Go.Proofs.YtdfihaabhichdaaDoor
