/- ShowFrame of the program: letterOf, withBlanks, ShowFrame. -/
import Derived.Test.YtdikhdfpcipdbaaGreatDoorFrCat
import Derived.Test.YtdikhdfpcipdbaaGreatDoorShelf
import Derived.Lib.AppendIntMem
namespace Go.Proofs.YtdikhdfpcipdbaaGreatDoor.frm
open Go.ChangeShapes Go.WideShapes Go.ChangeAt Go.RowKit
open Go.Proofs.YtdikhdfpcipdbaaGreatDoor.nums Go.Proofs.YtdikhdfpcipdbaaGreatDoor.mem Go.Proofs.YtdikhdfpcipdbaaGreatDoor.txt Go.Proofs.YtdikhdfpcipdbaaGreatDoor.fix
open Go.Proofs.YtdikhdfpcipdbaaGreatDoor.tab (Ret quiet_w wpList_make_has)
set_option linter.unusedVariables false

abbrev Pow (w : World) : Prop := Lib.TabIs Tryz.prog w "internal/strconv.uint64pow10" .u64 Lib.pow10Tab
theorem Pow.kept {w w' : World} (h : Pow w) (hg : w.grownBy w' none) : Pow w' := Lib.tabBelow_of_tabIs h w' (below_of_none hg)
theorem gr_grow (w : World) (k : Nat) (os : Array Obj) : w.grownBy (Go.Sort.grow (w.drewN k) os) none :=
  ⟨rfl, rfl, rfl, by simp [Go.Sort.grow, World.drewN], fun i hi _ => by simp [Go.Sort.grow, World.drewN, Array.getElem?_append, hi]⟩
theorem join_words (l : List Int) : Lib.join (l.map Lib.itoa) [32] = words l := by
  cases l with
  | nil => rfl
  | cons n ns =>
    rw [List.map_cons, Lib.join_cons]
    simp [words, blanks, Lib.joinTail, Function.comp_def]

theorem infoStr : (Tryz.prog.info? 9).map (fun i => (i.zero, i.size, i.bytes)) = some (some (.string ⟨#[]⟩), 1, 16) := by kernel_rfl

end Go.Proofs.YtdikhdfpcipdbaaGreatDoor.frm
