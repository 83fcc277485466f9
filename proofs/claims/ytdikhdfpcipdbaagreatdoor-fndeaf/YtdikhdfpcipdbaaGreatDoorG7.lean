/- slices.Grow of a nil list, slices.Concat of one number and a list: a new list of them all. /-
  DERIVED: THE SHELF's CONTRACTS AT THIS DUMP, IN PLAIN WORDS (tools/lay-plain.mjs out of 'YtdikhdfpcipdbaaGreatDoorShelf.lean', which tools/lay-shelf.mjs wrote): THE SAME DECLARATIONS UNDER THE SAME NAMES: 'import', 'namespace', 'open', 'def', 'theorem' AND NOTHING ELSE: no command of the shelf's: FOR A HAND-IN. Each laying: the table of numbers ('.._ren') and one theorem, a field a fact of the dump's own or the kernel's comparison; each contract: ONE APPLICATION.
-/
import Derived.Shelf.SortG.Plain
import Derived.Shelf.SortG.SortNone
import Derived.Ground.SlgnProg
import Derived.Test.YtdikhdfpcipdbaaGreatDoorProg
namespace Go.Proofs
open Go.Shelf
def Tryz.sort64_ren : Go.Shelf.Ren := ⟨fun | 53 => 97 | 64 => 119 | 63 => 118 | 78 => 141 | 79 => 142 | 70 => 132 | 71 => 133 | 72 => 134 | 73 => 135 | 74 => 136 | 75 => 137 | 59 => 138 | 76 => 139 | 77 => 140 | 88 => 152 | 89 => 153 | 90 => 154 | 91 => 155 | 92 => 156 | 68 => 157 | 96 => 171 | n => n, fun | 22 => 25 | 23 => 2 | 3 => 3 | 51 => 111 | 0 => 0 | 67 => 132 | 69 => 135 | 4 => 4 | 61 => 177 | 60 => 176 | 44 => 181 | 5 => 5 | 9 => 9 | 75 => 211 | 79 => 215 | 83 => 228 | 84 => 229 | n => n, fun | n => n⟩
theorem Tryz.sort64 : Go.Proofs.SlLaysN.n53 Tryz.prog Tryz.sort64_ren := {
  mixed := by kernel_rfl
  f53 := ⟨Tryz.f97.name, by decide, Tryz.func97.trans (congrArg some (by kernel_rfl))⟩
  f59 := ⟨Tryz.f138.name, by decide, Tryz.func138.trans (congrArg some (by kernel_rfl))⟩
  f63 := ⟨Tryz.f118.name, by decide, Tryz.func118.trans (congrArg some (by kernel_rfl))⟩
  f64 := Tryz.func119.trans (congrArg some (by kernel_rfl))
  f68 := ⟨Tryz.f157.name, by decide, Tryz.func157.trans (congrArg some (by kernel_rfl))⟩
  f70 := ⟨Tryz.f132.name, by decide, Tryz.func132.trans (congrArg some (by kernel_rfl))⟩
  f71 := ⟨Tryz.f133.name, by decide, Tryz.func133.trans (congrArg some (by kernel_rfl))⟩
  f72 := ⟨Tryz.f134.name, by decide, Tryz.func134.trans (congrArg some (by kernel_rfl))⟩
  f73 := ⟨Tryz.f135.name, by decide, Tryz.func135.trans (congrArg some (by kernel_rfl))⟩
  f74 := ⟨Tryz.f136.name, by decide, Tryz.func136.trans (congrArg some (by kernel_rfl))⟩
  f75 := ⟨Tryz.f137.name, by decide, Tryz.func137.trans (congrArg some (by kernel_rfl))⟩
  f76 := ⟨Tryz.f139.name, by decide, Tryz.func139.trans (congrArg some (by kernel_rfl))⟩
  f77 := ⟨Tryz.f140.name, by decide, Tryz.func140.trans (congrArg some (by kernel_rfl))⟩
  f78 := Tryz.func141.trans (congrArg some (by kernel_rfl))
  f79 := Tryz.func142.trans (congrArg some (by kernel_rfl))
  f88 := ⟨Tryz.f152.name, by decide, Tryz.func152.trans (congrArg some (by kernel_rfl))⟩
  f89 := Tryz.func153.trans (congrArg some (by kernel_rfl))
  f90 := Tryz.func154.trans (congrArg some (by kernel_rfl))
  f91 := ⟨Tryz.f155.name, by decide, Tryz.func155.trans (congrArg some (by kernel_rfl))⟩
  f92 := ⟨Tryz.f156.name, by decide, Tryz.func156.trans (congrArg some (by kernel_rfl))⟩
  f96 := ⟨Tryz.f171.name, by decide, Tryz.func171.trans (congrArg some (by kernel_rfl))⟩
  t0 := Tryz.underlying0
  a0 := Tryz.isAgg0
  z0 := Tryz.sizeOf0
  v0 := Tryz.zeroValue0
  t3 := Tryz.underlying3
  a3 := Tryz.isAgg3
  z3 := Tryz.sizeOf3
  v3 := Tryz.zeroValue3
  t4 := Tryz.underlying4
  a4 := Tryz.isAgg4
  z4 := Tryz.sizeOf4
  v4 := Tryz.zeroValue4
  t5 := Tryz.underlying5
  a5 := Tryz.isAgg5
  z5 := Tryz.sizeOf5
  v5 := Tryz.zeroValue5
  t9 := Tryz.underlying9
  a9 := Tryz.isAgg9
  z9 := Tryz.sizeOf9
  v9 := Tryz.zeroValue9
  t22 := Tryz.underlying25
  a22 := Tryz.isAgg25
  z22 := Tryz.sizeOf25
  v22 := Tryz.zeroValue25
  t23 := Tryz.underlying2
  a23 := Tryz.isAgg2
  z23 := Tryz.sizeOf2
  v23 := Tryz.zeroValue2
  t44 := Tryz.underlying181
  a44 := Tryz.isAgg181
  z44 := Tryz.sizeOf181
  v44 := Tryz.zeroValue181
  t51 := Tryz.underlying111
  a51 := Tryz.isAgg111
  z51 := Tryz.sizeOf111
  v51 := Tryz.zeroValue111
  t60 := Tryz.underlying176
  a60 := Tryz.isAgg176
  z60 := Tryz.sizeOf176
  v60 := Tryz.zeroValue176
  t61 := Tryz.underlying177
  a61 := Tryz.isAgg177
  z61 := Tryz.sizeOf177
  v61 := Tryz.zeroValue177
  t67 := Tryz.underlying132
  a67 := Tryz.isAgg132
  z67 := Tryz.sizeOf132
  v67 := Tryz.zeroValue132
  t69 := Tryz.underlying135
  a69 := Tryz.isAgg135
  z69 := Tryz.sizeOf135
  v69 := Tryz.zeroValue135
  t75 := Tryz.underlying211
  a75 := Tryz.isAgg211
  z75 := Tryz.sizeOf211
  v75 := Tryz.zeroValue211
  t79 := Tryz.underlying215
  a79 := Tryz.isAgg215
  z79 := Tryz.sizeOf215
  v79 := Tryz.zeroValue215
  t83 := Tryz.underlying228
  a83 := Tryz.isAgg228
  z83 := Tryz.sizeOf228
  v83 := Tryz.zeroValue228
  t84 := Tryz.underlying229
  a84 := Tryz.isAgg229
  z84 := Tryz.sizeOf229
  v84 := Tryz.zeroValue229 }
open Go.Sort Go.RowKit in
theorem Tryz.slices_Sort_int (blk off cap : Nat) (zs : List Int) (w : World) (hH : Holds (Value.int .i64) w blk off zs.toArray) (hblk : blk < w.heap.size) (hsz : zs.length < 4611686018427387904) :
    Calls Tryz.prog 97 #[.slice (some ⟨blk, off, none⟩) zs.length cap] w fun e w' =>
      e = .returned (.tuple #[]) ∧ ∃ n os, w' = grow (putRow (Value.int .i64) (Sort.ahead w n) blk off (zs.mergeSort fun x y => decide (x ≤ y)).toArray) os := AnyG.slices_Sort_int Tryz.sort64 blk off cap zs w hH hblk hsz
open Go.Sort Go.RowKit in
theorem Tryz.slices_Sort_int_none (p : Option Addr) (cap : Nat) (w : World) :
    Calls Tryz.prog 97 #[.slice p 0 cap] w fun e w' => e = .returned (.tuple #[]) ∧ w' = w := AnyG.slices_Sort_int_none Tryz.sort64 p cap w
end Go.Proofs
 ShowFrame of the program: letterOf, withBlanks, ShowFrame. numberAhead: labels and gotos; byteAt, isDigit. -/
import Derived.Test.YtdikhdfpcipdbaaGreatDoorG6
import Derived.Lib.AppendZeros
import Derived.Deep.AppendLies
import Derived.Deep.DeepMust
import Derived.Shelf.SortG.Plain
import Derived.Shelf.SortG.SortNone
import Derived.Ground.SlgnProg
import Derived.Test.YtdikhdfpcipdbaaGreatDoorProg
import Derived.Lib.AppendIntMem
import Derived.ScopeJumps
import Derived.WalkMore
/- slices.Grow of a nil list, slices.Concat of one number and a list: a new list of them all. -/
namespace Go.Proofs.YtdikhdfpcipdbaaGreatDoor.frm
open Go.ChangeShapes Go.WideShapes Go.ChangeAt Go.RowKit
open Go.Proofs.YtdikhdfpcipdbaaGreatDoor.nums Go.Proofs.YtdikhdfpcipdbaaGreatDoor.mem Go.Proofs.YtdikhdfpcipdbaaGreatDoor.txt Go.Proofs.YtdikhdfpcipdbaaGreatDoor.fix
open Go.Proofs.YtdikhdfpcipdbaaGreatDoor.tab (Ret quiet_w wpList_make_has)
set_option linter.unusedVariables false

abbrev vals (l : List Int) : List Value := l.map (Value.int .i64)
/-- The list l is a row of its own, in a block that is not below base. -/
abbrev Row (w : World) (base g cap : Nat) (l : List Int) : Prop := w.ownsRow base 2 1 (.slice (some ⟨g, 0, none⟩) l.length cap) l.length (vals l)
theorem Row.ints {w : World} {base g cap : Nat} {l : List Int} (h : Row w base g cap l) : Ints w (some ⟨g, 0, none⟩) l := by
  intro k hk
  refine ⟨_, rfl, (h.lt g rfl).2, ?_⟩
  refine h.cells rfl k _ ?_
  rw [nth_lt hk]; simp [hk]
theorem Ints.news {w : World} {a : Addr} {l : List Int} (h : Ints w (some a) l) : ∀ j u, (vals l)[j]? = some u → w.cell? (a.add j) = some u := by
  intro j u hj
  have hj' : j < l.length := by have := (List.getElem?_eq_some_iff.1 hj).1; simpa using this
  obtain ⟨x, e, _, hc⟩ := h j hj'
  injection e with e
  subst e
  rw [hc, nth_lt hj']
  simpa [hj'] using hj
theorem vals_one (l : List Int) : ∀ u ∈ vals l, u.oneCell' = true := by
  intro u hu
  simp only [vals, List.mem_map] at hu
  obtain ⟨n, _, rfl⟩ := hu
  rfl

/-- One number and a list, in a new list. -/
def Joined (sq : Int) (l : List Int) (w : World) (e : Ending) (w' : World) : Prop := ∃ g cap, e = .returned (.slice (some ⟨g, 0, none⟩) (sq :: l).length cap) ∧ w.grownBy w' none ∧ Ints w' (some ⟨g, 0, none⟩) (sq :: l)
/-- How many stand there, of the first k pieces. -/
def upto (l : List Int) (k : Nat) : Nat := if k = 0 then 0 else if k = 1 then 1 else 1 + l.length

end Go.Proofs.YtdikhdfpcipdbaaGreatDoor.frm

/-
  DERIVED: THE SHELF's CONTRACTS AT THIS DUMP, IN PLAIN WORDS (tools/lay-plain.mjs out of 'YtdikhdfpcipdbaaGreatDoorShelf.lean', which tools/lay-shelf.mjs wrote): THE SAME DECLARATIONS UNDER THE SAME NAMES: 'import', 'namespace', 'open', 'def', 'theorem' AND NOTHING ELSE: no command of the shelf's: FOR A HAND-IN. Each laying: the table of numbers ('.._ren') and one theorem, a field a fact of the dump's own or the kernel's comparison; each contract: ONE APPLICATION.
-/
namespace Go.Proofs
open Go.Shelf
def Tryz.sort64_ren : Go.Shelf.Ren := ⟨fun | 53 => 97 | 64 => 119 | 63 => 118 | 78 => 141 | 79 => 142 | 70 => 132 | 71 => 133 | 72 => 134 | 73 => 135 | 74 => 136 | 75 => 137 | 59 => 138 | 76 => 139 | 77 => 140 | 88 => 152 | 89 => 153 | 90 => 154 | 91 => 155 | 92 => 156 | 68 => 157 | 96 => 171 | n => n, fun | 22 => 25 | 23 => 2 | 3 => 3 | 51 => 111 | 0 => 0 | 67 => 132 | 69 => 135 | 4 => 4 | 61 => 177 | 60 => 176 | 44 => 181 | 5 => 5 | 9 => 9 | 75 => 211 | 79 => 215 | 83 => 228 | 84 => 229 | n => n, fun | n => n⟩
theorem Tryz.sort64 : Go.Proofs.SlLaysN.n53 Tryz.prog Tryz.sort64_ren := {
  mixed := by kernel_rfl
  f53 := ⟨Tryz.f97.name, by decide, Tryz.func97.trans (congrArg some (by kernel_rfl))⟩
  f59 := ⟨Tryz.f138.name, by decide, Tryz.func138.trans (congrArg some (by kernel_rfl))⟩
  f63 := ⟨Tryz.f118.name, by decide, Tryz.func118.trans (congrArg some (by kernel_rfl))⟩
  f64 := Tryz.func119.trans (congrArg some (by kernel_rfl))
  f68 := ⟨Tryz.f157.name, by decide, Tryz.func157.trans (congrArg some (by kernel_rfl))⟩
  f70 := ⟨Tryz.f132.name, by decide, Tryz.func132.trans (congrArg some (by kernel_rfl))⟩
  f71 := ⟨Tryz.f133.name, by decide, Tryz.func133.trans (congrArg some (by kernel_rfl))⟩
  f72 := ⟨Tryz.f134.name, by decide, Tryz.func134.trans (congrArg some (by kernel_rfl))⟩
  f73 := ⟨Tryz.f135.name, by decide, Tryz.func135.trans (congrArg some (by kernel_rfl))⟩
  f74 := ⟨Tryz.f136.name, by decide, Tryz.func136.trans (congrArg some (by kernel_rfl))⟩
  f75 := ⟨Tryz.f137.name, by decide, Tryz.func137.trans (congrArg some (by kernel_rfl))⟩
  f76 := ⟨Tryz.f139.name, by decide, Tryz.func139.trans (congrArg some (by kernel_rfl))⟩
  f77 := ⟨Tryz.f140.name, by decide, Tryz.func140.trans (congrArg some (by kernel_rfl))⟩
  f78 := Tryz.func141.trans (congrArg some (by kernel_rfl))
  f79 := Tryz.func142.trans (congrArg some (by kernel_rfl))
  f88 := ⟨Tryz.f152.name, by decide, Tryz.func152.trans (congrArg some (by kernel_rfl))⟩
  f89 := Tryz.func153.trans (congrArg some (by kernel_rfl))
  f90 := Tryz.func154.trans (congrArg some (by kernel_rfl))
  f91 := ⟨Tryz.f155.name, by decide, Tryz.func155.trans (congrArg some (by kernel_rfl))⟩
  f92 := ⟨Tryz.f156.name, by decide, Tryz.func156.trans (congrArg some (by kernel_rfl))⟩
  f96 := ⟨Tryz.f171.name, by decide, Tryz.func171.trans (congrArg some (by kernel_rfl))⟩
  t0 := Tryz.underlying0
  a0 := Tryz.isAgg0
  z0 := Tryz.sizeOf0
  v0 := Tryz.zeroValue0
  t3 := Tryz.underlying3
  a3 := Tryz.isAgg3
  z3 := Tryz.sizeOf3
  v3 := Tryz.zeroValue3
  t4 := Tryz.underlying4
  a4 := Tryz.isAgg4
  z4 := Tryz.sizeOf4
  v4 := Tryz.zeroValue4
  t5 := Tryz.underlying5
  a5 := Tryz.isAgg5
  z5 := Tryz.sizeOf5
  v5 := Tryz.zeroValue5
  t9 := Tryz.underlying9
  a9 := Tryz.isAgg9
  z9 := Tryz.sizeOf9
  v9 := Tryz.zeroValue9
  t22 := Tryz.underlying25
  a22 := Tryz.isAgg25
  z22 := Tryz.sizeOf25
  v22 := Tryz.zeroValue25
  t23 := Tryz.underlying2
  a23 := Tryz.isAgg2
  z23 := Tryz.sizeOf2
  v23 := Tryz.zeroValue2
  t44 := Tryz.underlying181
  a44 := Tryz.isAgg181
  z44 := Tryz.sizeOf181
  v44 := Tryz.zeroValue181
  t51 := Tryz.underlying111
  a51 := Tryz.isAgg111
  z51 := Tryz.sizeOf111
  v51 := Tryz.zeroValue111
  t60 := Tryz.underlying176
  a60 := Tryz.isAgg176
  z60 := Tryz.sizeOf176
  v60 := Tryz.zeroValue176
  t61 := Tryz.underlying177
  a61 := Tryz.isAgg177
  z61 := Tryz.sizeOf177
  v61 := Tryz.zeroValue177
  t67 := Tryz.underlying132
  a67 := Tryz.isAgg132
  z67 := Tryz.sizeOf132
  v67 := Tryz.zeroValue132
  t69 := Tryz.underlying135
  a69 := Tryz.isAgg135
  z69 := Tryz.sizeOf135
  v69 := Tryz.zeroValue135
  t75 := Tryz.underlying211
  a75 := Tryz.isAgg211
  z75 := Tryz.sizeOf211
  v75 := Tryz.zeroValue211
  t79 := Tryz.underlying215
  a79 := Tryz.isAgg215
  z79 := Tryz.sizeOf215
  v79 := Tryz.zeroValue215
  t83 := Tryz.underlying228
  a83 := Tryz.isAgg228
  z83 := Tryz.sizeOf228
  v83 := Tryz.zeroValue228
  t84 := Tryz.underlying229
  a84 := Tryz.isAgg229
  z84 := Tryz.sizeOf229
  v84 := Tryz.zeroValue229 }
open Go.Sort Go.RowKit in
theorem Tryz.slices_Sort_int (blk off cap : Nat) (zs : List Int) (w : World) (hH : Holds (Value.int .i64) w blk off zs.toArray) (hblk : blk < w.heap.size) (hsz : zs.length < 4611686018427387904) :
    Calls Tryz.prog 97 #[.slice (some ⟨blk, off, none⟩) zs.length cap] w fun e w' =>
      e = .returned (.tuple #[]) ∧ ∃ n os, w' = grow (putRow (Value.int .i64) (Sort.ahead w n) blk off (zs.mergeSort fun x y => decide (x ≤ y)).toArray) os := AnyG.slices_Sort_int Tryz.sort64 blk off cap zs w hH hblk hsz
open Go.Sort Go.RowKit in
theorem Tryz.slices_Sort_int_none (p : Option Addr) (cap : Nat) (w : World) :
    Calls Tryz.prog 97 #[.slice p 0 cap] w fun e w' => e = .returned (.tuple #[]) ∧ w' = w := AnyG.slices_Sort_int_none Tryz.sort64 p cap w
end Go.Proofs

/- ShowFrame of the program: letterOf, withBlanks, ShowFrame. -/
namespace Go.Proofs.YtdikhdfpcipdbaaGreatDoor.frm
open Go.ChangeShapes Go.WideShapes Go.ChangeAt Go.RowKit
open Go.Proofs.YtdikhdfpcipdbaaGreatDoor.nums Go.Proofs.YtdikhdfpcipdbaaGreatDoor.mem Go.Proofs.YtdikhdfpcipdbaaGreatDoor.txt Go.Proofs.YtdikhdfpcipdbaaGreatDoor.fix
open Go.Proofs.YtdikhdfpcipdbaaGreatDoor.tab (Ret quiet_w wpList_make_has)
set_option linter.unusedVariables false

abbrev Pow (w : World) : Prop := Lib.TabIs Tryz.prog w "internal/strconv.uint64pow10" .u64 Lib.pow10Tab
theorem Pow.kept {w w' : World} (h : Pow w) (hg : w.grownBy w' none) : Pow w' := Lib.tabBelow_of_tabIs h w' (below_of_none hg)
theorem infoStr : (Tryz.prog.info? 9).map (fun i => (i.zero, i.size, i.bytes)) = some (some (.string ⟨#[]⟩), 1, 16) := by kernel_rfl

end Go.Proofs.YtdikhdfpcipdbaaGreatDoor.frm

/- numberAhead: labels and gotos; byteAt, isDigit. -/
namespace Go.Proofs.YtdikhdfpcipdbaaGreatDoor.frm
open Go.ChangeShapes Go.WideShapes Go.ChangeAt Go.RowKit
open Go.Proofs.YtdikhdfpcipdbaaGreatDoor.nums Go.Proofs.YtdikhdfpcipdbaaGreatDoor.mem Go.Proofs.YtdikhdfpcipdbaaGreatDoor.txt Go.Proofs.YtdikhdfpcipdbaaGreatDoor.fix
open Go.Proofs.YtdikhdfpcipdbaaGreatDoor.tab (Ret quiet_w wpList_make_has)
set_option linter.unusedVariables false

theorem at_byt (l : List UInt8) (i : Nat) (h : i < (ByteArray.mk l.toArray).size) : (ByteArray.mk l.toArray)[i]'h = byt l i := at_str l i h
theorem byt_ge (l : List UInt8) (i : Nat) (h : l.length ≤ i) : byt l i = 0 := by simp [byt, List.getD, List.getElem?_eq_none h]

theorem byt_drop (l : List UInt8) (i j : Nat) : byt (l.drop i) j = byt l (i + j) := by simp [byt, List.getD]
theorem numAt_long (m : List UInt8) (h : ∀ j, j < 10 → isD (byt m j) = true) : numAt m = none := by
  have := long_isD m 10 h
  rw [numAt, if_pos (Or.inr (Or.inr (by omega)))]
theorem byt_lt {m : List UInt8} {d : Nat} (h : isD (byt m d) = true) : d < m.length := by
  by_cases hd : d < m.length
  · exact hd
  · rw [byt_ge m d (by omega)] at h; simp [isD] at h
theorem numAt_some (m : List UInt8) (d : Nat) (h1 : 1 ≤ d) (h2 : d ≤ 9) (h : ∀ j, j < d → isD (byt m j) = true) (hn : isD (byt m d) = false) (h0 : byt m 0 ≠ 48) : numAt m = some (val (m.take d), m.drop d) := by
  obtain ⟨e1, e2⟩ := take_isD m d h hn
  have hl : d ≤ m.length := by have := byt_lt (h (d - 1) (by omega)); omega
  rw [numAt, e1, e2, if_neg]
  rintro (h3 | h3 | h3)
  · have e := congrArg List.length h3; rw [List.length_take, List.length_nil] at e; omega
  · cases m with
    | nil => simp at hl; omega
    | cons x m =>
      cases d with
      | zero => omega
      | succ d => simp at h3; exact h0 (by simpa [byt] using h3)
  · rw [List.length_take] at h3; omega
theorem val_take (m : List UInt8) (d : Nat) (h : d < m.length) : val (m.take (d + 1)) = val (m.take d) * 10 + ((byt m d).toNat - 48) := by
  have e : m.take (d + 1) = m.take d ++ [byt m d] := by rw [List.take_add_one]; simp [byt, List.getD, h]
  rw [e, val_snoc]
theorem isD_iff (c : UInt8) : isD c = true ↔ 48 ≤ c.toNat ∧ c.toNat ≤ 57 := by simp [isD]
theorem val_lt (m : List UInt8) : ∀ d, (∀ j, j < d → isD (byt m j) = true) → val (m.take d) < 10 ^ d := by
  intro d
  induction d with
  | zero => intro _; simp [val]
  | succ d ih =>
    intro h
    have h1 := ih (fun j hj => h j (by omega))
    have h2 := h d (by omega)
    rw [val_take m d (byt_lt h2), Nat.pow_succ]
    have := (isD_iff _).1 h2
    omega
theorem val_bd (m : List UInt8) (d : Nat) (h : ∀ j, j < d → isD (byt m j) = true) (hd : d ≤ 9) : val (m.take d) < 1000000000 := by
  have h1 := val_lt m d h
  have h2 : 10 ^ d ≤ 10 ^ 9 := Nat.pow_le_pow_right (by omega) hd
  have h3 : (10 : Nat) ^ 9 = 1000000000 := rfl
  omega

/-- At a digit: so many are read, behind a sign or not. -/
structure AtDigit (l : List UInt8) (i0 d : Nat) (sg : Int) : Prop where
  le : i0 ≤ 1
  d9 : d ≤ 9
  sign : sg = 1 ∨ sg = -1
  digs : ∀ j, j < d + 1 → isD (byt l (i0 + j)) = true
  head : byt l i0 ≠ 48
  says : numF l = (numAt (l.drop i0)).map fun p => (sg * (p.1 : Int), p.2)
theorem AtDigit.long {l : List UInt8} {i0 d : Nat} {sg : Int} (h : AtDigit l i0 d sg) (hd : d = 9) : numF l = none := by
  rw [h.says, numAt_long _ (fun j hj => by rw [byt_drop]; exact h.digs j (by omega))]; rfl
theorem AtDigit.lt {l : List UInt8} {i0 d : Nat} {sg : Int} (h : AtDigit l i0 d sg) : i0 + d < l.length := byt_lt (h.digs d (by omega))
theorem AtDigit.next {l : List UInt8} {i0 d : Nat} {sg : Int} (h : AtDigit l i0 d sg) (hd : d ≠ 9) (hx : isD (byt l (i0 + (d + 1))) = true) : AtDigit l i0 (d + 1) sg :=
  ⟨h.le, by have := h.d9; omega, h.sign, fun j hj => by
    by_cases e : j = d + 1
    · subst e; exact hx
    · exact h.digs j (by omega), h.head, h.says⟩
theorem AtDigit.done {l : List UInt8} {i0 d : Nat} {sg : Int} (h : AtDigit l i0 d sg) (hd : d ≠ 9) (hx : isD (byt l (i0 + (d + 1))) = false) :
    numF l = some (sg * (val ((l.drop i0).take (d + 1)) : Int), l.drop (i0 + (d + 1))) := by
  have h9 := h.d9
  rw [h.says, numAt_some (l.drop i0) (d + 1) (by omega) (by omega) (fun j hj => by rw [byt_drop]; exact h.digs j hj) (by rw [byt_drop]; exact hx) (by rw [byt_drop]; exact h.head)]
  simp [List.drop_drop]
theorem AtDigit.val {l : List UInt8} {i0 d : Nat} {sg : Int} (h : AtDigit l i0 d sg) : txt.val ((l.drop i0).take (d + 1)) = txt.val ((l.drop i0).take d) * 10 + ((byt l (i0 + d)).toNat - 48) := by
  have := val_take (l.drop i0) d (by have := h.lt; simp; omega)
  rwa [byt_drop] at this
theorem AtDigit.bd {l : List UInt8} {i0 d : Nat} {sg : Int} (h : AtDigit l i0 d sg) : txt.val ((l.drop i0).take d) < 1000000000 :=
  val_bd _ d (fun j hj => by rw [byt_drop]; exact h.digs j (by omega)) h.d9
theorem str_drop (l : List UInt8) (m : Nat) : (ByteArray.mk l.toArray).extract m l.length = ByteArray.mk (l.drop m).toArray := by
  rw [ByteArray.extract_mk]
  rw [List.take_of_length_le (by simp)]

end Go.Proofs.YtdikhdfpcipdbaaGreatDoor.frm

