/-
  No cell of these rows narrows 'for every input' (looked for: loops, veiled, ifaces, maps, wideKeys, modest, calm, conditions, laid).
  DERIVED. THE GIVEN ROWS OF THIS SEAT. 5 by the template 'for every input the law returns true; each argument reads behind the call as it read before'; 0 by the template 'total and deterministic' (their statements: YtdpoecebjjcicaaTotals.lean).
  GIVEN WITH THE SEED: the statements are not yours to turn. If you find one false, say at which input.
  Laid BY PROGRAM, IN A SANDBOX (cutbox-rows.mjs): the forced cells as the released guide's own fill.sh prints them over the translation 2f40f4eb96cf2f44… (all of the seat's roots in one cut). By AI agents, Wed Nov 11 2026. No macro, syntax, notation, axiom, sorry.
-/
import Derived.Test.YtdpoecebjjcicaaChecked
import GoSem.Claim
import GoSem.ClaimJoined
import GoSem.ClaimMapViews
import Derived.JoinedTies
import Derived.KernelRfl
namespace Go.Proofs.Ytdpoecebjjcicaa
/- THE CELL 'sum', in the pinned program and in every row, IS THE sha256 OF THE DUMP (.gsa) THAT YtdpoecebjjcicaaProg.lean LOADS. Nothing in Lean hashes anything: it is a label: what it is worth is what the hold of that sum in a sandbox is worth. -/
noncomputable def Try.pinned : Pinned := { name := "ytdpoecebjjcicaa", sum := "2f40f4eb96cf2f44b434378451eeed5cba167c413fb191d8cea2406751fbddee", checked := Try.checked }
namespace Rows
def none {H : Type} : Left H := { results := [], args := [] }

/-- 'laws.FnFans': WHATEVER THE INPUT: true; the input reads as it did. -/
def fnFansSpec : ChangeSpec := { name := "fnFans", fn := fun _ => fun
  | [d] => { results := [.lit (.bool true)], args := [d] }
  | _ => none }
def fnFansRow : OpenClaim := { program := "ytdpoecebjjcicaa", sum := "2f40f4eb96cf2f44b434378451eeed5cba167c413fb191d8cea2406751fbddee", func := "loop.example/g00619/laws.FnFans", spec := "fnFans", apart := false }
def FnFansSaid : Prop := fnFansRow.holds Try.pinned (OpenSpec.ofChange fnFansSpec)

/-- ITS FALSE NEIGHBOUR: 'it returns false'. Refute it at one input. -/
def fnFansWrong : ChangeSpec := { name := "fnFans", fn := fun _ => fun
  | [d] => { results := [.lit (.bool false)], args := [d] }
  | _ => none }
def FnFansWrongFalsely : Prop := fnFansRow.holds Try.pinned (OpenSpec.ofChange fnFansWrong)

/-- 'laws.FnWell': WHATEVER THE INPUT: true; the input reads as it did. -/
def fnWellSpec : ChangeSpec := { name := "fnWell", fn := fun _ => fun
  | [d] => { results := [.lit (.bool true)], args := [d] }
  | _ => none }
def fnWellRow : OpenClaim := { program := "ytdpoecebjjcicaa", sum := "2f40f4eb96cf2f44b434378451eeed5cba167c413fb191d8cea2406751fbddee", func := "loop.example/g00619/laws.FnWell", spec := "fnWell", apart := false }
def FnWellSaid : Prop := fnWellRow.holds Try.pinned (OpenSpec.ofChange fnWellSpec)

/-- ITS FALSE NEIGHBOUR: 'it returns false'. Refute it at one input. -/
def fnWellWrong : ChangeSpec := { name := "fnWell", fn := fun _ => fun
  | [d] => { results := [.lit (.bool false)], args := [d] }
  | _ => none }
def FnWellWrongFalsely : Prop := fnWellRow.holds Try.pinned (OpenSpec.ofChange fnWellWrong)

/-- 'laws.FnExactFanOk': WHATEVER THE INPUT: true; the input reads as it did. -/
def fnExactFanOkSpec : ChangeSpec := { name := "fnExactFanOk", fn := fun _ => fun
  | [d] => { results := [.lit (.bool true)], args := [d] }
  | _ => none }
def fnExactFanOkRow : OpenClaim := { program := "ytdpoecebjjcicaa", sum := "2f40f4eb96cf2f44b434378451eeed5cba167c413fb191d8cea2406751fbddee", func := "loop.example/g00619/laws.FnExactFanOk", spec := "fnExactFanOk", apart := false }
def FnExactFanOkSaid : Prop := fnExactFanOkRow.holds Try.pinned (OpenSpec.ofChange fnExactFanOkSpec)

/-- ITS FALSE NEIGHBOUR: 'it returns false'. Refute it at one input. -/
def fnExactFanOkWrong : ChangeSpec := { name := "fnExactFanOk", fn := fun _ => fun
  | [d] => { results := [.lit (.bool false)], args := [d] }
  | _ => none }
def FnExactFanOkWrongFalsely : Prop := fnExactFanOkRow.holds Try.pinned (OpenSpec.ofChange fnExactFanOkWrong)

/-- 'laws.FnExactWatched': WHATEVER THE INPUT: true; the input reads as it did. -/
def fnExactWatchedSpec : ChangeSpec := { name := "fnExactWatched", fn := fun _ => fun
  | [d1, d2, d3] => { results := [.lit (.bool true)], args := [d1, d2, d3] }
  | _ => none }
def fnExactWatchedRow : OpenClaim := { program := "ytdpoecebjjcicaa", sum := "2f40f4eb96cf2f44b434378451eeed5cba167c413fb191d8cea2406751fbddee", func := "loop.example/g00619/laws.FnExactWatched", spec := "fnExactWatched", apart := false }
def FnExactWatchedSaid : Prop := fnExactWatchedRow.holds Try.pinned (OpenSpec.ofChange fnExactWatchedSpec)

/-- ITS FALSE NEIGHBOUR: 'it returns false'. Refute it at one input. -/
def fnExactWatchedWrong : ChangeSpec := { name := "fnExactWatched", fn := fun _ => fun
  | [d1, d2, d3] => { results := [.lit (.bool false)], args := [d1, d2, d3] }
  | _ => none }
def FnExactWatchedWrongFalsely : Prop := fnExactWatchedRow.holds Try.pinned (OpenSpec.ofChange fnExactWatchedWrong)

/-- 'laws.FnExactOutIn': WHATEVER THE INPUT: true; the input reads as it did. -/
def fnExactOutInSpec : ChangeSpec := { name := "fnExactOutIn", fn := fun _ => fun
  | [d] => { results := [.lit (.bool true)], args := [d] }
  | _ => none }
def fnExactOutInRow : OpenClaim := { program := "ytdpoecebjjcicaa", sum := "2f40f4eb96cf2f44b434378451eeed5cba167c413fb191d8cea2406751fbddee", func := "loop.example/g00619/laws.FnExactOutIn", spec := "fnExactOutIn", apart := false }
def FnExactOutInSaid : Prop := fnExactOutInRow.holds Try.pinned (OpenSpec.ofChange fnExactOutInSpec)

/-- ITS FALSE NEIGHBOUR: 'it returns false'. Refute it at one input. -/
def fnExactOutInWrong : ChangeSpec := { name := "fnExactOutIn", fn := fun _ => fun
  | [d] => { results := [.lit (.bool false)], args := [d] }
  | _ => none }
def FnExactOutInWrongFalsely : Prop := fnExactOutInRow.holds Try.pinned (OpenSpec.ofChange fnExactOutInWrong)

/- THE SECOND FORM. 'bulk': how many values and letters a reading holds, each counted each time it is reached (what is shared counts as often as it is met; a slice's spare places count too). A statement '..UptoSaid' is the law's where the arguments, and the package variables that the reading takes, are together of bulk at most 1048576: NARROWER than '..Said'. Prove '..Said' where nothing that the law and all that it calls make is longer than what came in: it says more and counts as full. Else prove '..UptoSaid'. A law counts once. -/
mutual
def uptoBulk {H : Type} : DataW H → Nat
  | .lit (.string bytes) => bytes.length + 1
  | .lit _ => 1
  | .nil => 1
  | .ptr d => uptoBulk d + 1
  | .slice elems spare => uptoBulkAll elems + uptoBulkAll spare + 1
  | .agg parts => uptoBulkAll parts + 1
  | .iface _ d => uptoBulk d + 1
  | .map entries => uptoBulkEntries entries + 1
  | .held _ => 1
def uptoBulkAll {H : Type} : List (DataW H) → Nat
  | [] => 0
  | d :: r => uptoBulk d + uptoBulkAll r
def uptoBulkEntries {H : Type} : List (Lit × DataW H) → Nat
  | [] => 0
  | x :: r => uptoBulkEntry x + uptoBulkEntries r
def uptoBulkEntry {H : Type} : Lit × DataW H → Nat
  | (.string bytes, d) => bytes.length + uptoBulk d + 1
  | (_, d) => uptoBulk d + 1
 end
def uptoSmall : (H : Type) → List (DataW H) → Bool := fun _ ds => decide (uptoBulkAll ds ≤ 1048576)
def OpenSpec.upto (s : _root_.Go.ChangeSpec) : _root_.Go.OpenSpec := { _root_.Go.OpenSpec.ofChange s with cond := some uptoSmall }

/-- 'laws.FnFans', WHERE WHAT IT READS IS OF BULK AT MOST 1048576: true; the input reads as it did. -/
def fnFansUptoRow : OpenClaim := { program := "ytdpoecebjjcicaa", sum := "2f40f4eb96cf2f44b434378451eeed5cba167c413fb191d8cea2406751fbddee", func := "loop.example/g00619/laws.FnFans", spec := "fnFans", apart := false, narrowed := true }
def FnFansUptoSaid : Prop := fnFansUptoRow.holds Try.pinned (OpenSpec.upto fnFansSpec)

/-- 'laws.FnWell', WHERE WHAT IT READS IS OF BULK AT MOST 1048576: true; the input reads as it did. -/
def fnWellUptoRow : OpenClaim := { program := "ytdpoecebjjcicaa", sum := "2f40f4eb96cf2f44b434378451eeed5cba167c413fb191d8cea2406751fbddee", func := "loop.example/g00619/laws.FnWell", spec := "fnWell", apart := false, narrowed := true }
def FnWellUptoSaid : Prop := fnWellUptoRow.holds Try.pinned (OpenSpec.upto fnWellSpec)

/-- 'laws.FnExactFanOk', WHERE WHAT IT READS IS OF BULK AT MOST 1048576: true; the input reads as it did. -/
def fnExactFanOkUptoRow : OpenClaim := { program := "ytdpoecebjjcicaa", sum := "2f40f4eb96cf2f44b434378451eeed5cba167c413fb191d8cea2406751fbddee", func := "loop.example/g00619/laws.FnExactFanOk", spec := "fnExactFanOk", apart := false, narrowed := true }
def FnExactFanOkUptoSaid : Prop := fnExactFanOkUptoRow.holds Try.pinned (OpenSpec.upto fnExactFanOkSpec)

/-- 'laws.FnExactWatched', WHERE WHAT IT READS IS OF BULK AT MOST 1048576: true; the input reads as it did. -/
def fnExactWatchedUptoRow : OpenClaim := { program := "ytdpoecebjjcicaa", sum := "2f40f4eb96cf2f44b434378451eeed5cba167c413fb191d8cea2406751fbddee", func := "loop.example/g00619/laws.FnExactWatched", spec := "fnExactWatched", apart := false, narrowed := true }
def FnExactWatchedUptoSaid : Prop := fnExactWatchedUptoRow.holds Try.pinned (OpenSpec.upto fnExactWatchedSpec)

/-- 'laws.FnExactOutIn', WHERE WHAT IT READS IS OF BULK AT MOST 1048576: true; the input reads as it did. -/
def fnExactOutInUptoRow : OpenClaim := { program := "ytdpoecebjjcicaa", sum := "2f40f4eb96cf2f44b434378451eeed5cba167c413fb191d8cea2406751fbddee", func := "loop.example/g00619/laws.FnExactOutIn", spec := "fnExactOutIn", apart := false, narrowed := true }
def FnExactOutInUptoSaid : Prop := fnExactOutInUptoRow.holds Try.pinned (OpenSpec.upto fnExactOutInSpec)

end Rows
end Go.Proofs.Ytdpoecebjjcicaa
