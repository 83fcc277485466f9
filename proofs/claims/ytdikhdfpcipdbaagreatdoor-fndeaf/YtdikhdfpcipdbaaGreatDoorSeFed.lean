/- Chapter 15 on plain senses: what is fed. -/
import Derived.Test.YtdikhdfpcipdbaaGreatDoorSe
import Derived.Test.YtdikhdfpcipdbaaGreatDoorSnSpec
import Derived.Test.YtdikhdfpcipdbaaGreatDoorStHeard
namespace Go.Proofs.YtdikhdfpcipdbaaGreatDoor.se
open Go.ChangeShapes Go.WideShapes Go.ChangeAt Go.RowKit
open Go.Proofs.YtdikhdfpcipdbaaGreatDoor.nums Go.Proofs.YtdikhdfpcipdbaaGreatDoor.mem
open Go.Proofs.YtdikhdfpcipdbaaGreatDoor.tab (Ret)
open Go.Proofs.YtdikhdfpcipdbaaGreatDoor.rd (R okR ageR zR rx ra ro rx_map getD_lt OwnR)
open Go.Proofs.YtdikhdfpcipdbaaGreatDoor.il (nth Ints Own)
open Go.Proofs.YtdikhdfpcipdbaaGreatDoor.stm (Fr heard)
set_option linter.unusedVariables false

/-- What each value makes of its reading. -/
def each (f : R → Int → R) (l : List R) (vs : List Int) : List R := (List.range l.length).map fun i => f (rx l i, ra l i, ro l i) (nth vs i)
theorem each_len (f : R → Int → R) (l : List R) (vs : List Int) : (each f l vs).length = l.length := by simp [each]
theorem each_at {f : R → Int → R} {l : List R} {vs : List Int} {k : Nat} (h : k < l.length) : (each f l vs).getD k zR = f (rx l k, ra l k, ro l k) (nth vs k) := by simp [each, List.getD, h]
def tk (lo hi rt : Int) (r : R) (x : Int) : R := sane.taken lo hi rt r.1 r.2.1 x r.2.2
def gt (r : R) (x : Int) : R := rd.got r (btw x 0 1000)
/-- A list by what was heard of it. -/
def part (f : R → Int → R) (l : List R) (o : Option Fr) : List R := match o with
  | none => l.map ageR
  | some v => each f l v.2.2
theorem part_len (f : R → Int → R) (l : List R) (o : Option Fr) : (part f l o).length = l.length := by
  cases o
  · simp [part]
  · exact each_len _ _ _
def hd (s : S) (fs : List Fr) (k : Nat) : Option Fr := heard ((k : Int) + 1) (nth s.sq k) fs
def sqOf (s : S) (fs : List Fr) (k : Nat) : Int := match hd s fs k with
  | none => nth s.sq k
  | some f => f.2.1
def wnOf (s : S) (fs : List Fr) : Int := match hd s fs 3 with
  | none => s.wn
  | some f => if inb (nth f.2.2 0) 0 2 = true then nth f.2.2 0 else s.wn
def arOf (s : S) (fs : List Fr) : Bool := match hd s fs 3 with
  | none => s.ar
  | some f => !decide (nth f.2.2 1 = 0)
/-- Where k Kinds have been heard; what is not yet heard is aged. -/
def upto (s : S) (fs : List Fr) (k : Nat) : S where
  sp := part (tk 0 400 20) s.sp (if 0 < k then hd s fs 0 else none)
  he := part (tk 0 2000 60) s.he (if 1 < k then hd s fs 1 else none)
  fa := part gt s.fa (if 2 < k then hd s fs 2 else none)
  wn := if 3 < k then wnOf s fs else s.wn
  ar := if 3 < k then arOf s fs else s.ar
  sq := [if 0 < k then sqOf s fs 0 else nth s.sq 0, if 1 < k then sqOf s fs 1 else nth s.sq 1, if 2 < k then sqOf s fs 2 else nth s.sq 2, if 3 < k then sqOf s fs 3 else nth s.sq 3]
def fed (s : S) (fs : List Fr) : S := if ok s = true then upto s fs 4 else zS
theorem fed_ok {s : S} {fs : List Fr} (h : ok s = true) : fed s fs = upto s fs 4 := if_pos h
theorem fed_no {s : S} {fs : List Fr} (h : ok s = false) : fed s fs = zS := if_neg (by rw [h]; simp)
end Go.Proofs.YtdikhdfpcipdbaaGreatDoor.se
