/- Bytes in memory, and appended: for l1Bend. -/
import Derived.Test.YtfobbjimcmjfkaaDoorFrLike
import Derived.Maps.AppendAt
import Derived.Deep.AppendLies
import Derived.Deep.RegionHeld3
import Derived.Deep.RegionHeldLaw
namespace Go.Proofs.YtfobbjimcmjfkaaDoor.frm
open Go.ChangeShapes Go.WideShapes Go.ChangeAt Go.RowKit
open Go.Proofs.YtfobbjimcmjfkaaDoor.nums Go.Proofs.YtfobbjimcmjfkaaDoor.mem Go.Proofs.YtfobbjimcmjfkaaDoor.txt Go.Proofs.YtfobbjimcmjfkaaDoor.fix Go.Proofs.YtfobbjimcmjfkaaDoor.cur
open Go.Proofs.YtfobbjimcmjfkaaDoor.tab (Ret quiet_w wpList_make_has)
set_option linter.unusedVariables false

/-- The first n cells of block g are bytes, and may be written. -/
def Bn (w : World) (g n : Nat) : Prop := g < w.heap.size ∧ ∀ j, j < n → ∃ c : UInt8, w.cell? ⟨g, j, none⟩ = some (.int .u8 (c.toNat : Int)) ∧ w.frozen? ⟨g, j, none⟩ = false
def AllB (xs : List Value) : Prop := ∀ u ∈ xs, ∃ c : UInt8, u = .int .u8 (c.toNat : Int)

theorem Bn.grown {w w' : World} {g n : Nat} {row : Option Nat} (h : Bn w g n) (hg : w.grownBy w' row) (hne : some g ≠ row) : Bn w' g n := by
  have hb := hg.block g h.1 hne
  refine ⟨Nat.lt_of_lt_of_le h.1 hg.size, fun j hj => ?_⟩
  obtain ⟨c, h1, h2⟩ := h.2 j hj
  exact ⟨c, (World.cell?_of_block (a := ⟨g, j, none⟩) hb).trans h1, (World.frozen?_of_block (a := ⟨g, j, none⟩) hb).trans h2⟩
theorem Bn.alloc {w : World} {g n : Nat} (h : Bn w g n) (o : Obj) : Bn (w.alloc o) g n := h.grown (World.grownBy_alloc w o none) (by simp)
theorem Bn.less {w : World} {g n m : Nat} (h : Bn w g n) (hm : m ≤ n) : Bn w g m := ⟨h.1, fun j hj => h.2 j (by omega)⟩
theorem Bn.of_own {w : World} {base g n cap : Nat} {xs : List Value} (h : w.ownsRow base 5 1 (.slice (some ⟨g, 0, none⟩) n cap) n xs) (hx : AllB xs) : Bn w g n := by
  refine ⟨(h.lt g rfl).2, fun j hj => ?_⟩
  have hl : xs.length = n := by simpa using h.1
  have hj2 : j < xs.length := by omega
  obtain ⟨c, hc⟩ := hx _ (List.getElem_mem hj2)
  exact ⟨c, by rw [h.cellAt j (by omega), List.getElem?_eq_getElem hj2, hc], h.frozenAt j⟩
theorem Bn.put {w : World} {g n : Nat} (h : Bn w g n) {k : Nat} (hk : k < n) (c : UInt8) : Bn (w.setCell ⟨g, k, none⟩ (.int .u8 (c.toNat : Int))) g n := by
  refine ⟨by simpa [World.setCell] using h.1, fun j hj => ?_⟩
  obtain ⟨d, h1, h2⟩ := h.2 j hj
  obtain ⟨d', h1', h2'⟩ := h.2 k hk
  by_cases e : j = k
  · subst e
    exact ⟨c, World.cell?_setCell_same _ _ _ h1, by rw [World.frozen?_setCell]; exact h2⟩
  · exact ⟨d, by rw [World.cell?_setCell_other _ _ _ _ (fun he => e (by injection he with _ he _; exact he.symm))]; exact h1, by rw [World.frozen?_setCell]; exact h2⟩

theorem gather {w : World} {g off : Nat} : ∀ m, (∀ j, j < m → ∃ c : UInt8, w.cell? ⟨g, off + j, none⟩ = some (.int .u8 (c.toNat : Int))) → ∃ ys : List Value, ys.length = m ∧ AllB ys ∧ ∀ j u, ys[j]? = some u → w.cell? ⟨g, off + j, none⟩ = some u := by
  intro m
  induction m with
  | zero => intro _; exact ⟨[], rfl, fun u hu => by simp at hu, fun j u hu => by simp at hu⟩
  | succ m ih =>
    intro h
    obtain ⟨ys, hl, ha, hc⟩ := ih (fun j hj => h j (by omega))
    obtain ⟨c, hm⟩ := h m (by omega)
    refine ⟨ys ++ [.int .u8 (c.toNat : Int)], by simp [hl], fun u hu => ?_, fun j u hu => ?_⟩
    · rcases List.mem_append.1 hu with h1 | h1
      · exact ha u h1
      · exact ⟨c, List.mem_singleton.1 h1⟩
    · by_cases hj : j < ys.length
      · rw [List.getElem?_append_left hj] at hu; exact hc j u hu
      · rw [List.getElem?_append_right (by omega)] at hu
        obtain rfl : j = m := by
          have := (List.getElem?_eq_some_iff.1 hu).1
          simp at this; omega
        rw [hl, Nat.sub_self] at hu
        simp at hu
        rw [hm, hu]

theorem step_app {w : World} {ops : Array Oper} {o : Oper} {a : Act} {K : Act → World → Prop} {Q : Exit → Act → World → Prop} {E : Prop} (hgd : o.guard = none) (s x : Operand)
    (ho : o.op = .call { callee := .builtin .append, args := #[s, x], argTypes := #[22, 22] })
    (base gv p cv : Nat) (xs : List Value) (hs : a.eval s = .slice (some ⟨gv, 0, none⟩) p cv) (hown : w.ownsRow base 5 1 (.slice (some ⟨gv, 0, none⟩) p cv) p xs) (hxs : AllB xs)
    (g off m c : Nat) (hx : a.eval x = .slice (some ⟨g, off, none⟩) m c) (hr : ∀ j, j < m → ∃ c : UInt8, w.cell? ⟨g, off + j, none⟩ = some (.int .u8 (c.toNat : Int))) (r : Nat) (hr' : p + m = r) (hm : r ≤ 1000000) (hbase : base ≤ w.heap.size)
    (h : ∀ g' cap' ys w', w'.ownsRow base 5 1 (.slice (some ⟨g', 0, none⟩) r cap') r ys → AllB ys → w.grownBy w' (some gv) → K (a.put o.dst (.slice (some ⟨g', 0, none⟩) r cap')) w') :
    if Region.wanted o (yielded ops a.tmps) = true then Oper.wp Tryd.prog o a w K Q else E := by
  subst hr'
  obtain ⟨i0, hi, hz0, hz1, hz2⟩ := info_parts info8
  have hw : Region.wanted o (yielded ops a.tmps) = true := by simp [Region.wanted, hgd]
  rw [if_pos hw]
  obtain ⟨ys, hl, ha, hc⟩ := gather m hr
  obtain ⟨v', w', hrun, h2, h3, h4, h5⟩ := run_append_own_at (P := Tryd.prog) w base 22 o.type 5 i0 _ 1 1 Tryd.underlying22 hi hz0 hz1 hz2 rfl (by omega) _ p xs hown ⟨g, off, none⟩ m c ys (by simpa using hl)
    (fun j u hu => by rw [show Addr.add ⟨g, off, none⟩ j = ⟨g, off + j, none⟩ by simp [Addr.add]; try (intro h; omega)]; exact hc j u hu) (fun u hu => by obtain ⟨c, rfl⟩ := ha u hu; rfl) (by unfold maxLen; omega) (by omega) hbase
  have hv : v' ≠ .slice none 0 0 := fun e => by have := (h4.1 e).1; simp at this
  rcases h2.2 with ⟨e, _⟩ | ⟨g', cap', cur, rfl, _⟩
  · exact absurd e hv
  · unfold Oper.wp execOp
    simp only [ho, resolve, invoke, builtin, Sem.run_bind, Sem.run_pure, Result.andThen_ok, List.map_toArray, List.map_cons, List.map_nil, hs, hx, hrun]
    exact h g' cap' (xs ++ ys) w' h2 (fun u hu => (List.mem_append.1 hu).elim (hxs u) (ha u)) h3

theorem own_cap {w : World} {base : Nat} {e : TypeId} {g n cap : Nat} {xs : List Value} (h : w.ownsRow base e 1 (.slice (some ⟨g, 0, none⟩) n cap) n xs) : n ≤ cap ∧ cap ≤ maxLen ∧ base ≤ g := by
  rcases h.2 with ⟨h', _⟩ | ⟨g', cap', cur, h', hb, _, h1, h2, _⟩
  · simp at h'
  · simp only [Value.slice.injEq, Option.some.injEq, Addr.mk.injEq, and_true, true_and] at h'
    obtain ⟨rfl, rfl⟩ := h'
    exact ⟨h1, h2, hb⟩
theorem allB_nil : AllB [] := fun u hu => by simp at hu

theorem Bn.of_string (w : World) (l : List UInt8) (cap : Nat) : Bn (w.drew.alloc (.cells (bytesRow ⟨l.toArray⟩ cap) 5 ((bytesRow ⟨l.toArray⟩ cap).size, (bytesRow ⟨l.toArray⟩ cap).size + 1))) w.heap.size l.length := by
  have hh : (w.drew.alloc (.cells (bytesRow ⟨l.toArray⟩ cap) 5 ((bytesRow ⟨l.toArray⟩ cap).size, (bytesRow ⟨l.toArray⟩ cap).size + 1))).heap[w.heap.size]? = some (.cells (bytesRow ⟨l.toArray⟩ cap) 5 ((bytesRow ⟨l.toArray⟩ cap).size, (bytesRow ⟨l.toArray⟩ cap).size + 1)) := heap_alloc_new w.drew _
  refine ⟨by simp, fun j hj => ⟨l[j], ?_, ?_⟩⟩
  · rw [cell_of_row _ _ _ _ _ _ hh]
    exact bytesRow_at _ _ _ (by simpa using hj)
  · have hs : j < (bytesRow ⟨l.toArray⟩ cap).size := by simp [bytesRow]; omega
    unfold World.frozen?
    rw [show ((⟨w.heap.size, j, none⟩ : Addr).block) = w.heap.size from rfl, hh]
    simp
    omega

theorem Bn.text {w : World} {g n : Nat} (h : Bn w g n) (cap : Nat) : ∃ l : List UInt8, l.length = n ∧ (convert 22 9 (.slice (some ⟨g, 0, none⟩) n cap)).run Tryd.prog w = .ok (str l) w := by
  have : ∀ m, m ≤ n → ∃ l : List UInt8, l.length = m ∧ ∀ j (hj : j < l.length), w.cell? ⟨g, j, none⟩ = some (.int .u8 (l[j].toNat : Int)) := by
    intro m
    induction m with
    | zero => intro _; exact ⟨[], rfl, fun j hj => by simp at hj⟩
    | succ m ih =>
      intro hm
      obtain ⟨l, hl, hc⟩ := ih (by omega)
      obtain ⟨c, hx, _⟩ := h.2 m (by omega)
      refine ⟨l ++ [c], by simp [hl], fun j hj => ?_⟩
      by_cases hj2 : j < l.length
      · rw [List.getElem_append_left hj2]; exact hc j hj2
      · obtain rfl : j = l.length := by simp at hj; omega
        rw [List.getElem_append_right (Nat.le_refl _)]
        simp only [Nat.sub_self, List.getElem_cons_zero]
        rw [hl]; exact hx
  obtain ⟨l, hl, hc⟩ := this n (Nat.le_refl _)
  subst hl
  exact ⟨l, rfl, run_convert_bytes_back (P := Tryd.prog) w _ _ 5 ⟨g, 0, none⟩ cap l Tryd.underlying22 Tryd.underlying5 Tryd.underlying9 (fun j hj => by rw [add0]; exact hc j hj)⟩

end Go.Proofs.YtfobbjimcmjfkaaDoor.frm
