/-
  No cell of these rows narrows 'for every input' (looked for: loops, veiled, ifaces, maps, wideKeys, modest, calm, conditions, laid).
  DERIVED. THE GIVEN ROWS OF THIS SEAT. 6 by the template 'for every input the law returns true; each argument reads behind the call as it read before'; 0 by the template 'total and deterministic' (their statements: YtijdggbgmpodmaaTotals.lean).
  GIVEN WITH THE SEED: the statements are not yours to turn. If you find one false, say at which input.
  Laid BY PROGRAM, IN A SANDBOX (cutbox-rows.mjs): the forced cells as the released guide's own fill.sh prints them over the translation 9c209f48da1601a0… (all of the seat's roots in one cut). By AI agents, Wed Nov 11 2026. No macro, syntax, notation, axiom, sorry.
-/
import Derived.Test.YtijdggbgmpodmaaChecked
import GoSem.Claim
import GoSem.ClaimJoined
import GoSem.ClaimMapViews
import Derived.JoinedTies
import Derived.KernelRfl
namespace Go.Proofs.Ytijdggbgmpodmaa
/- THE CELL 'sum', in the pinned program and in every row, IS THE sha256 OF THE DUMP (.gsa) THAT YtijdggbgmpodmaaProg.lean LOADS. Nothing in Lean hashes anything: it is a label: what it is worth is what the hold of that sum in a sandbox is worth. -/
noncomputable def Try.pinned : Pinned := { name := "ytijdggbgmpodmaa", sum := "9c209f48da1601a01d4eae0bb77bd60259f5af2de0429e26a417a764d30d299a", checked := Try.checked }
namespace Rows
def none {H : Type} : Left H := { results := [], args := [] }

/-- 'laws.FnFreshness': WHATEVER THE INPUT: true; the input reads as it did. -/
def fnFreshnessSpec : ChangeSpec := { name := "fnFreshness", fn := fun _ => fun
  | [d] => { results := [.lit (.bool true)], args := [d] }
  | _ => none }
def fnFreshnessRow : OpenClaim := { program := "ytijdggbgmpodmaa", sum := "9c209f48da1601a01d4eae0bb77bd60259f5af2de0429e26a417a764d30d299a", func := "loop.example/g00619/laws.FnFreshness", spec := "fnFreshness", apart := false }
def FnFreshnessSaid : Prop := fnFreshnessRow.holds Try.pinned (OpenSpec.ofChange fnFreshnessSpec)

/-- ITS FALSE NEIGHBOUR: 'it returns false'. Refute it at one input. -/
def fnFreshnessWrong : ChangeSpec := { name := "fnFreshness", fn := fun _ => fun
  | [d] => { results := [.lit (.bool false)], args := [d] }
  | _ => none }
def FnFreshnessWrongFalsely : Prop := fnFreshnessRow.holds Try.pinned (OpenSpec.ofChange fnFreshnessWrong)

/-- 'laws.FnExactReadingOk': WHATEVER THE INPUT: true; the input reads as it did. -/
def fnExactReadingOkSpec : ChangeSpec := { name := "fnExactReadingOk", fn := fun _ => fun
  | [d] => { results := [.lit (.bool true)], args := [d] }
  | _ => none }
def fnExactReadingOkRow : OpenClaim := { program := "ytijdggbgmpodmaa", sum := "9c209f48da1601a01d4eae0bb77bd60259f5af2de0429e26a417a764d30d299a", func := "loop.example/g00619/laws.FnExactReadingOk", spec := "fnExactReadingOk", apart := false }
def FnExactReadingOkSaid : Prop := fnExactReadingOkRow.holds Try.pinned (OpenSpec.ofChange fnExactReadingOkSpec)

/-- ITS FALSE NEIGHBOUR: 'it returns false'. Refute it at one input. -/
def fnExactReadingOkWrong : ChangeSpec := { name := "fnExactReadingOk", fn := fun _ => fun
  | [d] => { results := [.lit (.bool false)], args := [d] }
  | _ => none }
def FnExactReadingOkWrongFalsely : Prop := fnExactReadingOkRow.holds Try.pinned (OpenSpec.ofChange fnExactReadingOkWrong)

/-- 'laws.FnExactAged': WHATEVER THE INPUT: true; the input reads as it did. -/
def fnExactAgedSpec : ChangeSpec := { name := "fnExactAged", fn := fun _ => fun
  | [d] => { results := [.lit (.bool true)], args := [d] }
  | _ => none }
def fnExactAgedRow : OpenClaim := { program := "ytijdggbgmpodmaa", sum := "9c209f48da1601a01d4eae0bb77bd60259f5af2de0429e26a417a764d30d299a", func := "loop.example/g00619/laws.FnExactAged", spec := "fnExactAged", apart := false }
def FnExactAgedSaid : Prop := fnExactAgedRow.holds Try.pinned (OpenSpec.ofChange fnExactAgedSpec)

/-- ITS FALSE NEIGHBOUR: 'it returns false'. Refute it at one input. -/
def fnExactAgedWrong : ChangeSpec := { name := "fnExactAged", fn := fun _ => fun
  | [d] => { results := [.lit (.bool false)], args := [d] }
  | _ => none }
def FnExactAgedWrongFalsely : Prop := fnExactAgedRow.holds Try.pinned (OpenSpec.ofChange fnExactAgedWrong)

/-- 'laws.FnExactGot': WHATEVER THE INPUT: true; the input reads as it did. -/
def fnExactGotSpec : ChangeSpec := { name := "fnExactGot", fn := fun _ => fun
  | [d1, d2] => { results := [.lit (.bool true)], args := [d1, d2] }
  | _ => none }
def fnExactGotRow : OpenClaim := { program := "ytijdggbgmpodmaa", sum := "9c209f48da1601a01d4eae0bb77bd60259f5af2de0429e26a417a764d30d299a", func := "loop.example/g00619/laws.FnExactGot", spec := "fnExactGot", apart := false }
def FnExactGotSaid : Prop := fnExactGotRow.holds Try.pinned (OpenSpec.ofChange fnExactGotSpec)

/-- ITS FALSE NEIGHBOUR: 'it returns false'. Refute it at one input. -/
def fnExactGotWrong : ChangeSpec := { name := "fnExactGot", fn := fun _ => fun
  | [d1, d2] => { results := [.lit (.bool false)], args := [d1, d2] }
  | _ => none }
def FnExactGotWrongFalsely : Prop := fnExactGotRow.holds Try.pinned (OpenSpec.ofChange fnExactGotWrong)

/-- 'laws.FnExactAgedAll': WHATEVER THE INPUT: true; the input reads as it did. -/
def fnExactAgedAllSpec : ChangeSpec := { name := "fnExactAgedAll", fn := fun _ => fun
  | [d] => { results := [.lit (.bool true)], args := [d] }
  | _ => none }
def fnExactAgedAllRow : OpenClaim := { program := "ytijdggbgmpodmaa", sum := "9c209f48da1601a01d4eae0bb77bd60259f5af2de0429e26a417a764d30d299a", func := "loop.example/g00619/laws.FnExactAgedAll", spec := "fnExactAgedAll", apart := false }
def FnExactAgedAllSaid : Prop := fnExactAgedAllRow.holds Try.pinned (OpenSpec.ofChange fnExactAgedAllSpec)

/-- ITS FALSE NEIGHBOUR: 'it returns false'. Refute it at one input. -/
def fnExactAgedAllWrong : ChangeSpec := { name := "fnExactAgedAll", fn := fun _ => fun
  | [d] => { results := [.lit (.bool false)], args := [d] }
  | _ => none }
def FnExactAgedAllWrongFalsely : Prop := fnExactAgedAllRow.holds Try.pinned (OpenSpec.ofChange fnExactAgedAllWrong)

/-- 'laws.FnExactIsFresh': WHATEVER THE INPUT: true; the input reads as it did. -/
def fnExactIsFreshSpec : ChangeSpec := { name := "fnExactIsFresh", fn := fun _ => fun
  | [d1, d2] => { results := [.lit (.bool true)], args := [d1, d2] }
  | _ => none }
def fnExactIsFreshRow : OpenClaim := { program := "ytijdggbgmpodmaa", sum := "9c209f48da1601a01d4eae0bb77bd60259f5af2de0429e26a417a764d30d299a", func := "loop.example/g00619/laws.FnExactIsFresh", spec := "fnExactIsFresh", apart := false }
def FnExactIsFreshSaid : Prop := fnExactIsFreshRow.holds Try.pinned (OpenSpec.ofChange fnExactIsFreshSpec)

/-- ITS FALSE NEIGHBOUR: 'it returns false'. Refute it at one input. -/
def fnExactIsFreshWrong : ChangeSpec := { name := "fnExactIsFresh", fn := fun _ => fun
  | [d1, d2] => { results := [.lit (.bool false)], args := [d1, d2] }
  | _ => none }
def FnExactIsFreshWrongFalsely : Prop := fnExactIsFreshRow.holds Try.pinned (OpenSpec.ofChange fnExactIsFreshWrong)

/- THE SECOND FORM. 'bulk': how many values and letters a reading holds, each counted each time it is reached (what is shared counts as often as it is met; a slice's spare places count too). A statement '..UptoSaid' is the law's where the arguments, and the package variables that the reading takes, are together of bulk at most 1048576: NARROWER than '..Said'. Prove '..Said' where nothing that the law and all that it calls make is longer than what came in: it says more and counts as full. Else prove '..UptoSaid'. A law counts once. -/
mutual
def uptoBulk {H : Type} : DataW H → Nat
  | .lit (.string bytes) => bytes.length + 1
  | .lit _ => 1
  | .nil => 1
  | .ptr d => uptoBulk d + 1
  | .slice elems spare => uptoBulkAll elems + uptoBulkAll spare + 1
  | .agg parts => uptoBulkAll parts + 1
  | .iface _ d => uptoBulk d + 1
  | .map entries => uptoBulkEntries entries + 1
  | .held _ => 1
def uptoBulkAll {H : Type} : List (DataW H) → Nat
  | [] => 0
  | d :: r => uptoBulk d + uptoBulkAll r
def uptoBulkEntries {H : Type} : List (Lit × DataW H) → Nat
  | [] => 0
  | x :: r => uptoBulkEntry x + uptoBulkEntries r
def uptoBulkEntry {H : Type} : Lit × DataW H → Nat
  | (.string bytes, d) => bytes.length + uptoBulk d + 1
  | (_, d) => uptoBulk d + 1
 end
def uptoSmall : (H : Type) → List (DataW H) → Bool := fun _ ds => decide (uptoBulkAll ds ≤ 1048576)
def OpenSpec.upto (s : _root_.Go.ChangeSpec) : _root_.Go.OpenSpec := { _root_.Go.OpenSpec.ofChange s with cond := some uptoSmall }

/-- 'laws.FnFreshness', WHERE WHAT IT READS IS OF BULK AT MOST 1048576: true; the input reads as it did. -/
def fnFreshnessUptoRow : OpenClaim := { program := "ytijdggbgmpodmaa", sum := "9c209f48da1601a01d4eae0bb77bd60259f5af2de0429e26a417a764d30d299a", func := "loop.example/g00619/laws.FnFreshness", spec := "fnFreshness", apart := false, narrowed := true }
def FnFreshnessUptoSaid : Prop := fnFreshnessUptoRow.holds Try.pinned (OpenSpec.upto fnFreshnessSpec)

/-- 'laws.FnExactReadingOk', WHERE WHAT IT READS IS OF BULK AT MOST 1048576: true; the input reads as it did. -/
def fnExactReadingOkUptoRow : OpenClaim := { program := "ytijdggbgmpodmaa", sum := "9c209f48da1601a01d4eae0bb77bd60259f5af2de0429e26a417a764d30d299a", func := "loop.example/g00619/laws.FnExactReadingOk", spec := "fnExactReadingOk", apart := false, narrowed := true }
def FnExactReadingOkUptoSaid : Prop := fnExactReadingOkUptoRow.holds Try.pinned (OpenSpec.upto fnExactReadingOkSpec)

/-- 'laws.FnExactAged', WHERE WHAT IT READS IS OF BULK AT MOST 1048576: true; the input reads as it did. -/
def fnExactAgedUptoRow : OpenClaim := { program := "ytijdggbgmpodmaa", sum := "9c209f48da1601a01d4eae0bb77bd60259f5af2de0429e26a417a764d30d299a", func := "loop.example/g00619/laws.FnExactAged", spec := "fnExactAged", apart := false, narrowed := true }
def FnExactAgedUptoSaid : Prop := fnExactAgedUptoRow.holds Try.pinned (OpenSpec.upto fnExactAgedSpec)

/-- 'laws.FnExactGot', WHERE WHAT IT READS IS OF BULK AT MOST 1048576: true; the input reads as it did. -/
def fnExactGotUptoRow : OpenClaim := { program := "ytijdggbgmpodmaa", sum := "9c209f48da1601a01d4eae0bb77bd60259f5af2de0429e26a417a764d30d299a", func := "loop.example/g00619/laws.FnExactGot", spec := "fnExactGot", apart := false, narrowed := true }
def FnExactGotUptoSaid : Prop := fnExactGotUptoRow.holds Try.pinned (OpenSpec.upto fnExactGotSpec)

/-- 'laws.FnExactAgedAll', WHERE WHAT IT READS IS OF BULK AT MOST 1048576: true; the input reads as it did. -/
def fnExactAgedAllUptoRow : OpenClaim := { program := "ytijdggbgmpodmaa", sum := "9c209f48da1601a01d4eae0bb77bd60259f5af2de0429e26a417a764d30d299a", func := "loop.example/g00619/laws.FnExactAgedAll", spec := "fnExactAgedAll", apart := false, narrowed := true }
def FnExactAgedAllUptoSaid : Prop := fnExactAgedAllUptoRow.holds Try.pinned (OpenSpec.upto fnExactAgedAllSpec)

/-- 'laws.FnExactIsFresh', WHERE WHAT IT READS IS OF BULK AT MOST 1048576: true; the input reads as it did. -/
def fnExactIsFreshUptoRow : OpenClaim := { program := "ytijdggbgmpodmaa", sum := "9c209f48da1601a01d4eae0bb77bd60259f5af2de0429e26a417a764d30d299a", func := "loop.example/g00619/laws.FnExactIsFresh", spec := "fnExactIsFresh", apart := false, narrowed := true }
def FnExactIsFreshUptoSaid : Prop := fnExactIsFreshUptoRow.holds Try.pinned (OpenSpec.upto fnExactIsFreshSpec)

end Rows
end Go.Proofs.Ytijdggbgmpodmaa
