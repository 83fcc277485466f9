/-
  NARROWER THAN 'FOR EVERY INPUT', by the rows' own cells (each row's printed sentence says how): FnShared: laid · FnReached: laid · FnExactWeightsOf: laid · FnExactShared: laid · FnExactReached: laid · FnExactEffectOf: laid.
  DERIVED. THE GIVEN ROWS OF THIS SEAT. 6 by the template 'for every input the law returns true; each argument reads behind the call as it read before'; 0 by the template 'total and deterministic' (their statements: YtekglhikojondaaDoorTotals.lean).
  GIVEN WITH THE SEED: the statements are not yours to turn. If you find one false, say at which input.
  Laid BY PROGRAM, IN A SANDBOX (cutbox-rows.mjs): the forced cells as the released guide's own fill.sh prints them over the translation 66dfce3031160eaf… (all of the seat's roots in one cut). By AI agents, Wed Nov 11 2026. No macro, syntax, notation, axiom, sorry.
-/
import Derived.Test.YtekglhikojondaaDoorChecked
import GoSem.Claim
import GoSem.ClaimJoined
import GoSem.ClaimMapViews
import Derived.JoinedTies
import Derived.KernelRfl
namespace Go.Proofs.YtekglhikojondaaDoor
/- THE CELL 'sum', in the pinned program and in every row, IS THE sha256 OF THE DUMP (.gsa) THAT YtekglhikojondaaDoorProg.lean LOADS. Nothing in Lean hashes anything: it is a label: what it is worth is what the hold of that sum in a sandbox is worth. -/
noncomputable def Tryd.pinned : Pinned := { name := "ytekglhikojondaadoor", sum := "66dfce3031160eafae82a02fcb6da015a79f085b9e0bfbdcd7cf45fc8dea1d8e", checked := Tryd.checked }
namespace Rows
def none {H : Type} : Left H := { results := [], args := [] }

/- WHAT THE LISTED PACKAGE-LEVEL VARIABLES READ AS WHEN THE CALL BEGINS. Each datum BY PROGRAM (the guide's laid-datum.mjs) off the statement by which the dump's own 'gosem.cut.vars' lays the variable. In a bare row this is a premise. The card (YtekglhikojondaaDoorCards.lean) ties it to the program's text. -/
def laid_loop_example_g00619_impl_fanWeights {H : Type} : DataW H := .agg [.agg [.lit (.int .i64 2), .lit (.int .i64 0)], .agg [.lit (.int .i64 1), .lit (.int .i64 2)], .agg [.lit (.int .i64 (-1)), .lit (.int .i64 2)], .agg [.lit (.int .i64 (-2)), .lit (.int .i64 0)], .agg [.lit (.int .i64 (-1)), .lit (.int .i64 (-2))], .agg [.lit (.int .i64 1), .lit (.int .i64 (-2))]]

/-- 'laws.FnShared': WHATEVER THE INPUT: true; the input reads as it did. -/
def fnSharedSpec : ChangeSpec := { name := "fnShared", vars := ["loop.example/g00619/impl.fanWeights"], fn := fun _ => fun
  | [d, g1] => { results := [.lit (.bool true)], args := [d], vars := [g1] }
  | _ => none }
def fnSharedRow : OpenClaim := { program := "ytekglhikojondaadoor", sum := "66dfce3031160eafae82a02fcb6da015a79f085b9e0bfbdcd7cf45fc8dea1d8e", func := "loop.example/g00619/laws.FnShared", spec := "fnShared", unfollowed := true, recurses := true, named := ["loop.example/g00619/impl.fanWeights"], plainKeys := false, apart := false, laid := [("loop.example/g00619/impl.fanWeights", laid_loop_example_g00619_impl_fanWeights)] }
def FnSharedSaid : Prop := fnSharedRow.holds Tryd.pinned (OpenSpec.ofChange fnSharedSpec)

/-- ITS FALSE NEIGHBOUR: 'it returns false'. Refute it at one input. -/
def fnSharedWrong : ChangeSpec := { name := "fnShared", vars := ["loop.example/g00619/impl.fanWeights"], fn := fun _ => fun
  | [d, g1] => { results := [.lit (.bool false)], args := [d], vars := [g1] }
  | _ => none }
def FnSharedWrongFalsely : Prop := fnSharedRow.holds Tryd.pinned (OpenSpec.ofChange fnSharedWrong)

/-- 'laws.FnReached': WHATEVER THE INPUT: true; the input reads as it did. -/
def fnReachedSpec : ChangeSpec := { name := "fnReached", vars := ["loop.example/g00619/impl.fanWeights"], fn := fun _ => fun
  | [d, g1] => { results := [.lit (.bool true)], args := [d], vars := [g1] }
  | _ => none }
def fnReachedRow : OpenClaim := { program := "ytekglhikojondaadoor", sum := "66dfce3031160eafae82a02fcb6da015a79f085b9e0bfbdcd7cf45fc8dea1d8e", func := "loop.example/g00619/laws.FnReached", spec := "fnReached", named := ["loop.example/g00619/impl.fanWeights"], plainKeys := false, apart := false, laid := [("loop.example/g00619/impl.fanWeights", laid_loop_example_g00619_impl_fanWeights)] }
def FnReachedSaid : Prop := fnReachedRow.holds Tryd.pinned (OpenSpec.ofChange fnReachedSpec)

/-- ITS FALSE NEIGHBOUR: 'it returns false'. Refute it at one input. -/
def fnReachedWrong : ChangeSpec := { name := "fnReached", vars := ["loop.example/g00619/impl.fanWeights"], fn := fun _ => fun
  | [d, g1] => { results := [.lit (.bool false)], args := [d], vars := [g1] }
  | _ => none }
def FnReachedWrongFalsely : Prop := fnReachedRow.holds Tryd.pinned (OpenSpec.ofChange fnReachedWrong)

/-- 'laws.FnExactWeightsOf': WHATEVER THE INPUT: true; the input reads as it did. -/
def fnExactWeightsOfSpec : ChangeSpec := { name := "fnExactWeightsOf", vars := ["loop.example/g00619/impl.fanWeights"], fn := fun _ => fun
  | [d, g1] => { results := [.lit (.bool true)], args := [d], vars := [g1] }
  | _ => none }
def fnExactWeightsOfRow : OpenClaim := { program := "ytekglhikojondaadoor", sum := "66dfce3031160eafae82a02fcb6da015a79f085b9e0bfbdcd7cf45fc8dea1d8e", func := "loop.example/g00619/laws.FnExactWeightsOf", spec := "fnExactWeightsOf", named := ["loop.example/g00619/impl.fanWeights"], plainKeys := false, apart := false, laid := [("loop.example/g00619/impl.fanWeights", laid_loop_example_g00619_impl_fanWeights)] }
def FnExactWeightsOfSaid : Prop := fnExactWeightsOfRow.holds Tryd.pinned (OpenSpec.ofChange fnExactWeightsOfSpec)

/-- ITS FALSE NEIGHBOUR: 'it returns false'. Refute it at one input. -/
def fnExactWeightsOfWrong : ChangeSpec := { name := "fnExactWeightsOf", vars := ["loop.example/g00619/impl.fanWeights"], fn := fun _ => fun
  | [d, g1] => { results := [.lit (.bool false)], args := [d], vars := [g1] }
  | _ => none }
def FnExactWeightsOfWrongFalsely : Prop := fnExactWeightsOfRow.holds Tryd.pinned (OpenSpec.ofChange fnExactWeightsOfWrong)

/-- 'laws.FnExactShared': WHATEVER THE INPUT: true; the input reads as it did. -/
def fnExactSharedSpec : ChangeSpec := { name := "fnExactShared", vars := ["loop.example/g00619/impl.fanWeights"], fn := fun _ => fun
  | [d1, d2, g1] => { results := [.lit (.bool true)], args := [d1, d2], vars := [g1] }
  | _ => none }
def fnExactSharedRow : OpenClaim := { program := "ytekglhikojondaadoor", sum := "66dfce3031160eafae82a02fcb6da015a79f085b9e0bfbdcd7cf45fc8dea1d8e", func := "loop.example/g00619/laws.FnExactShared", spec := "fnExactShared", unfollowed := true, recurses := true, named := ["loop.example/g00619/impl.fanWeights"], plainKeys := false, apart := false, laid := [("loop.example/g00619/impl.fanWeights", laid_loop_example_g00619_impl_fanWeights)] }
def FnExactSharedSaid : Prop := fnExactSharedRow.holds Tryd.pinned (OpenSpec.ofChange fnExactSharedSpec)

/-- ITS FALSE NEIGHBOUR: 'it returns false'. Refute it at one input. -/
def fnExactSharedWrong : ChangeSpec := { name := "fnExactShared", vars := ["loop.example/g00619/impl.fanWeights"], fn := fun _ => fun
  | [d1, d2, g1] => { results := [.lit (.bool false)], args := [d1, d2], vars := [g1] }
  | _ => none }
def FnExactSharedWrongFalsely : Prop := fnExactSharedRow.holds Tryd.pinned (OpenSpec.ofChange fnExactSharedWrong)

/-- 'laws.FnExactReached': WHATEVER THE INPUT: true; the input reads as it did. -/
def fnExactReachedSpec : ChangeSpec := { name := "fnExactReached", vars := ["loop.example/g00619/impl.fanWeights"], fn := fun _ => fun
  | [d, g1] => { results := [.lit (.bool true)], args := [d], vars := [g1] }
  | _ => none }
def fnExactReachedRow : OpenClaim := { program := "ytekglhikojondaadoor", sum := "66dfce3031160eafae82a02fcb6da015a79f085b9e0bfbdcd7cf45fc8dea1d8e", func := "loop.example/g00619/laws.FnExactReached", spec := "fnExactReached", named := ["loop.example/g00619/impl.fanWeights"], plainKeys := false, apart := false, laid := [("loop.example/g00619/impl.fanWeights", laid_loop_example_g00619_impl_fanWeights)] }
def FnExactReachedSaid : Prop := fnExactReachedRow.holds Tryd.pinned (OpenSpec.ofChange fnExactReachedSpec)

/-- ITS FALSE NEIGHBOUR: 'it returns false'. Refute it at one input. -/
def fnExactReachedWrong : ChangeSpec := { name := "fnExactReached", vars := ["loop.example/g00619/impl.fanWeights"], fn := fun _ => fun
  | [d, g1] => { results := [.lit (.bool false)], args := [d], vars := [g1] }
  | _ => none }
def FnExactReachedWrongFalsely : Prop := fnExactReachedRow.holds Tryd.pinned (OpenSpec.ofChange fnExactReachedWrong)

/-- 'laws.FnExactEffectOf': WHATEVER THE INPUT: true; the input reads as it did. -/
def fnExactEffectOfSpec : ChangeSpec := { name := "fnExactEffectOf", vars := ["loop.example/g00619/impl.fanWeights"], fn := fun _ => fun
  | [d, g1] => { results := [.lit (.bool true)], args := [d], vars := [g1] }
  | _ => none }
def fnExactEffectOfRow : OpenClaim := { program := "ytekglhikojondaadoor", sum := "66dfce3031160eafae82a02fcb6da015a79f085b9e0bfbdcd7cf45fc8dea1d8e", func := "loop.example/g00619/laws.FnExactEffectOf", spec := "fnExactEffectOf", named := ["loop.example/g00619/impl.fanWeights"], plainKeys := false, apart := false, laid := [("loop.example/g00619/impl.fanWeights", laid_loop_example_g00619_impl_fanWeights)] }
def FnExactEffectOfSaid : Prop := fnExactEffectOfRow.holds Tryd.pinned (OpenSpec.ofChange fnExactEffectOfSpec)

/-- ITS FALSE NEIGHBOUR: 'it returns false'. Refute it at one input. -/
def fnExactEffectOfWrong : ChangeSpec := { name := "fnExactEffectOf", vars := ["loop.example/g00619/impl.fanWeights"], fn := fun _ => fun
  | [d, g1] => { results := [.lit (.bool false)], args := [d], vars := [g1] }
  | _ => none }
def FnExactEffectOfWrongFalsely : Prop := fnExactEffectOfRow.holds Tryd.pinned (OpenSpec.ofChange fnExactEffectOfWrong)

/- THE SECOND FORM. 'bulk': how many values and letters a reading holds, each counted each time it is reached (what is shared counts as often as it is met; a slice's spare places count too). A statement '..UptoSaid' is the law's where the arguments, and the package variables that the reading takes, are together of bulk at most 1048576: NARROWER than '..Said'. Prove '..Said' where nothing that the law and all that it calls make is longer than what came in: it says more and counts as full. Else prove '..UptoSaid'. A law counts once. -/
mutual
def uptoBulk {H : Type} : DataW H → Nat
  | .lit (.string bytes) => bytes.length + 1
  | .lit _ => 1
  | .nil => 1
  | .ptr d => uptoBulk d + 1
  | .slice elems spare => uptoBulkAll elems + uptoBulkAll spare + 1
  | .agg parts => uptoBulkAll parts + 1
  | .iface _ d => uptoBulk d + 1
  | .map entries => uptoBulkEntries entries + 1
  | .held _ => 1
def uptoBulkAll {H : Type} : List (DataW H) → Nat
  | [] => 0
  | d :: r => uptoBulk d + uptoBulkAll r
def uptoBulkEntries {H : Type} : List (Lit × DataW H) → Nat
  | [] => 0
  | x :: r => uptoBulkEntry x + uptoBulkEntries r
def uptoBulkEntry {H : Type} : Lit × DataW H → Nat
  | (.string bytes, d) => bytes.length + uptoBulk d + 1
  | (_, d) => uptoBulk d + 1
 end
def uptoSmall : (H : Type) → List (DataW H) → Bool := fun _ ds => decide (uptoBulkAll ds ≤ 1048576)
def OpenSpec.upto (s : _root_.Go.ChangeSpec) : _root_.Go.OpenSpec := { _root_.Go.OpenSpec.ofChange s with cond := some uptoSmall }

/-- 'laws.FnShared', WHERE WHAT IT READS IS OF BULK AT MOST 1048576: true; the input reads as it did. -/
def fnSharedUptoRow : OpenClaim := { program := "ytekglhikojondaadoor", sum := "66dfce3031160eafae82a02fcb6da015a79f085b9e0bfbdcd7cf45fc8dea1d8e", func := "loop.example/g00619/laws.FnShared", spec := "fnShared", unfollowed := true, recurses := true, named := ["loop.example/g00619/impl.fanWeights"], plainKeys := false, apart := false, laid := [("loop.example/g00619/impl.fanWeights", laid_loop_example_g00619_impl_fanWeights)], narrowed := true }
def FnSharedUptoSaid : Prop := fnSharedUptoRow.holds Tryd.pinned (OpenSpec.upto fnSharedSpec)

/-- 'laws.FnReached', WHERE WHAT IT READS IS OF BULK AT MOST 1048576: true; the input reads as it did. -/
def fnReachedUptoRow : OpenClaim := { program := "ytekglhikojondaadoor", sum := "66dfce3031160eafae82a02fcb6da015a79f085b9e0bfbdcd7cf45fc8dea1d8e", func := "loop.example/g00619/laws.FnReached", spec := "fnReached", named := ["loop.example/g00619/impl.fanWeights"], plainKeys := false, apart := false, laid := [("loop.example/g00619/impl.fanWeights", laid_loop_example_g00619_impl_fanWeights)], narrowed := true }
def FnReachedUptoSaid : Prop := fnReachedUptoRow.holds Tryd.pinned (OpenSpec.upto fnReachedSpec)

/-- 'laws.FnExactWeightsOf', WHERE WHAT IT READS IS OF BULK AT MOST 1048576: true; the input reads as it did. -/
def fnExactWeightsOfUptoRow : OpenClaim := { program := "ytekglhikojondaadoor", sum := "66dfce3031160eafae82a02fcb6da015a79f085b9e0bfbdcd7cf45fc8dea1d8e", func := "loop.example/g00619/laws.FnExactWeightsOf", spec := "fnExactWeightsOf", named := ["loop.example/g00619/impl.fanWeights"], plainKeys := false, apart := false, laid := [("loop.example/g00619/impl.fanWeights", laid_loop_example_g00619_impl_fanWeights)], narrowed := true }
def FnExactWeightsOfUptoSaid : Prop := fnExactWeightsOfUptoRow.holds Tryd.pinned (OpenSpec.upto fnExactWeightsOfSpec)

/-- 'laws.FnExactShared', WHERE WHAT IT READS IS OF BULK AT MOST 1048576: true; the input reads as it did. -/
def fnExactSharedUptoRow : OpenClaim := { program := "ytekglhikojondaadoor", sum := "66dfce3031160eafae82a02fcb6da015a79f085b9e0bfbdcd7cf45fc8dea1d8e", func := "loop.example/g00619/laws.FnExactShared", spec := "fnExactShared", unfollowed := true, recurses := true, named := ["loop.example/g00619/impl.fanWeights"], plainKeys := false, apart := false, laid := [("loop.example/g00619/impl.fanWeights", laid_loop_example_g00619_impl_fanWeights)], narrowed := true }
def FnExactSharedUptoSaid : Prop := fnExactSharedUptoRow.holds Tryd.pinned (OpenSpec.upto fnExactSharedSpec)

/-- 'laws.FnExactReached', WHERE WHAT IT READS IS OF BULK AT MOST 1048576: true; the input reads as it did. -/
def fnExactReachedUptoRow : OpenClaim := { program := "ytekglhikojondaadoor", sum := "66dfce3031160eafae82a02fcb6da015a79f085b9e0bfbdcd7cf45fc8dea1d8e", func := "loop.example/g00619/laws.FnExactReached", spec := "fnExactReached", named := ["loop.example/g00619/impl.fanWeights"], plainKeys := false, apart := false, laid := [("loop.example/g00619/impl.fanWeights", laid_loop_example_g00619_impl_fanWeights)], narrowed := true }
def FnExactReachedUptoSaid : Prop := fnExactReachedUptoRow.holds Tryd.pinned (OpenSpec.upto fnExactReachedSpec)

/-- 'laws.FnExactEffectOf', WHERE WHAT IT READS IS OF BULK AT MOST 1048576: true; the input reads as it did. -/
def fnExactEffectOfUptoRow : OpenClaim := { program := "ytekglhikojondaadoor", sum := "66dfce3031160eafae82a02fcb6da015a79f085b9e0bfbdcd7cf45fc8dea1d8e", func := "loop.example/g00619/laws.FnExactEffectOf", spec := "fnExactEffectOf", named := ["loop.example/g00619/impl.fanWeights"], plainKeys := false, apart := false, laid := [("loop.example/g00619/impl.fanWeights", laid_loop_example_g00619_impl_fanWeights)], narrowed := true }
def FnExactEffectOfUptoSaid : Prop := fnExactEffectOfUptoRow.holds Tryd.pinned (OpenSpec.upto fnExactEffectOfSpec)

end Rows
end Go.Proofs.YtekglhikojondaaDoor
