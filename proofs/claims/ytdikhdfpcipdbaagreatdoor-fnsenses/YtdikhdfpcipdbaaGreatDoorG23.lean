/- What is read of a stream, plain; a list of frames that owns all its memory. NewSenses of both sides. A list of so many is its members. A frame's text of which one byte is another one is no frame's text. -/
import Derived.Test.YtdikhdfpcipdbaaGreatDoorG22
import Derived.Test.YtdikhdfpcipdbaaGreatDoorG19
import Derived.Test.YtdikhdfpcipdbaaGreatDoorG13
import Derived.Test.YtdikhdfpcipdbaaGreatDoorG4
import Derived.Test.YtdikhdfpcipdbaaGreatDoorG9
/- What is read of a stream, plain; a list of frames that owns all its memory. -/
namespace Go.Proofs.YtdikhdfpcipdbaaGreatDoor.stm
open Go.ChangeShapes Go.WideShapes Go.ChangeAt Go.RowKit
open Go.Proofs.YtdikhdfpcipdbaaGreatDoor.nums Go.Proofs.YtdikhdfpcipdbaaGreatDoor.mem Go.Proofs.YtdikhdfpcipdbaaGreatDoor.txt Go.Proofs.YtdikhdfpcipdbaaGreatDoor.fix Go.Proofs.YtdikhdfpcipdbaaGreatDoor.frm
open Go.Proofs.YtdikhdfpcipdbaaGreatDoor.tab (Ret quiet_w wpList_make_has add_off)
set_option linter.unusedVariables false

/-- One more, but not more than fifty. -/
def push (out : List Fr) (r : Option Fr) : List Fr := match r with
  | none => out
  | some f => if out.length < 50 then out ++ [f] else out
/-- One byte more: rd tells what is read of a piece. -/
def stp (rd : List UInt8 → Option Fr) (st : List UInt8 × List Fr) (c : UInt8) : List UInt8 × List Fr := if c = 10 then ([], push st.2 (rd (st.1 ++ [10]))) else (st.1 ++ [c], st.2)
/-- What is behind the last byte 10, and the frames ahead. -/
def run (rd : List UInt8 → Option Fr) (s : List UInt8) : List UInt8 × List Fr := s.foldl (stp rd) ([], [])
def rest (l : List UInt8) : List UInt8 := if 60 < l.length then [] else l
def frsOf (rd : List UInt8 → Option Fr) (s : List UInt8) : List Fr := if 4000 < s.length then [] else (run rd s).2
def rstOf (rd : List UInt8 → Option Fr) (s : List UInt8) : List UInt8 := if 4000 < s.length then [] else rest (run rd s).1
theorem run_nil (rd : List UInt8 → Option Fr) : run rd [] = ([], []) := rfl
theorem run_app (rd : List UInt8 → Option Fr) (s t : List UInt8) : run rd (s ++ t) = t.foldl (stp rd) (run rd s) := by unfold run; rw [List.foldl_append]
theorem run_snoc (rd : List UInt8 → Option Fr) (s : List UInt8) (c : UInt8) : run rd (s ++ [c]) = stp rd (run rd s) c := by rw [run_app]; rfl
theorem push_len {out : List Fr} {r : Option Fr} (h : out.length ≤ 50) : (push out r).length ≤ 50 := by
  unfold push
  split
  · exact h
  · split
    · simp; omega
    · exact h
theorem fold_len (rd : List UInt8 → Option Fr) : ∀ (s : List UInt8) (st : List UInt8 × List Fr), st.2.length ≤ 50 → (s.foldl (stp rd) st).2.length ≤ 50 := by
  intro s
  induction s with
  | nil => intro st h; exact h
  | cons c s ih =>
    intro st h
    rw [List.foldl_cons]
    refine ih _ ?_
    unfold stp
    split
    · exact push_len h
    · exact h
theorem run_len (rd : List UInt8 → Option Fr) (s : List UInt8) : (run rd s).2.length ≤ 50 := fold_len rd s ([], []) (by simp)
/-- All of them are right frames. -/
def AllOk (fs : List Fr) : Prop := ∀ f ∈ fs, okF f.1 f.2.1 f.2.2 = true
theorem push_ok {out : List Fr} {r : Option Fr} (h : AllOk out) (hr : ∀ f, r = some f → okF f.1 f.2.1 f.2.2 = true) : AllOk (push out r) := by
  unfold push
  split
  · exact h
  · rename_i f
    split
    · intro g hg
      rcases List.mem_append.1 hg with h1 | h1
      · exact h g h1
      · rw [List.mem_singleton.1 h1]; exact hr f rfl
    · exact h
theorem rd_ok {rd : List UInt8 → Option Fr} (hrd : ∀ s, IsRead s (rd s)) (s : List UInt8) : ∀ f, rd s = some f → okF f.1 f.2.1 f.2.2 = true := fun f e => by
  have := hrd s
  rw [e] at this
  exact this.1
theorem fold_ok {rd : List UInt8 → Option Fr} (hrd : ∀ s, IsRead s (rd s)) : ∀ (s : List UInt8) (st : List UInt8 × List Fr), AllOk st.2 → AllOk (s.foldl (stp rd) st).2 := by
  intro s
  induction s with
  | nil => intro st h; exact h
  | cons c s ih =>
    intro st h
    rw [List.foldl_cons]
    refine ih _ ?_
    unfold stp
    split
    · exact push_ok h (rd_ok hrd _)
    · exact h
theorem run_ok {rd : List UInt8 → Option Fr} (hrd : ∀ s, IsRead s (rd s)) (s : List UInt8) : AllOk (run rd s).2 := fold_ok hrd s ([], []) (fun f hf => by simp at hf)
theorem allOk_short {fs : List Fr} (h : AllOk fs) : ∀ k, k < fs.length → (fv fs k).length ≤ 6 := by
  intro k hk
  have := h fs[k] (List.getElem_mem _)
  rw [fat hk] at this
  exact okF_short this
theorem rd_ex : ∃ rd : List UInt8 → Option Fr, ∀ s, IsRead s (rd s) := Classical.skolem.1 isRead_ex

/-- The values of each frame lie in a block known whole, no two in one. -/
structure Deep (w : World) (fs : List Fr) (ps : List Pl) : Prop where
  own : ∀ k, k < fs.length → OwnV w (pa ps k) (fv fs k)
  ne : ∀ i j b, i < fs.length → j < fs.length → i ≠ j → blkV (pa ps i) (fv fs i) b → ¬ blkV (pa ps j) (fv fs j) b
theorem Deep.nil (w : World) : Deep w [] [] := ⟨fun k hk => by simp at hk, fun i j b hi => by simp at hi⟩
theorem Deep.chg {S : Nat → Prop} {w w' : World} {fs : List Fr} {ps : List Pl} (h : Deep w fs ps) (hc : Chg S w w') (h2 : ∀ k b, k < fs.length → blkV (pa ps k) (fv fs k) b → ¬ S b) : Deep w' fs ps :=
  ⟨fun k hk => hc.ownV (h.own k hk) (fun b hb => h2 k b hk hb), h.ne⟩
theorem Deep.kept {w w' : World} {fs : List Fr} {ps : List Pl} (h : Deep w fs ps) (hg : w.grownBy w' none) : Deep w' fs ps := h.chg (chg_of_gr (S := fun _ => False) hg (fun b e => by cases e)) (fun _ _ _ _ => id)
theorem Deep.snoc {w : World} {fs : List Fr} {ps : List Pl} {f : Fr} {p : Pl} (h : Deep w fs ps) (hl : ps.length = fs.length) (ho : OwnV w p.1 f.2.2) (hn : ∀ k b, k < fs.length → blkV (pa ps k) (fv fs k) b → ¬ blkV p.1 f.2.2 b) : Deep w (fs ++ [f]) (ps ++ [p]) := by
  have at_ : ∀ k, k < (fs ++ [f]).length → (k < fs.length ∧ fv (fs ++ [f]) k = fv fs k ∧ pa (ps ++ [p]) k = pa ps k) ∨ (k = fs.length ∧ fv (fs ++ [f]) k = f.2.2 ∧ pa (ps ++ [p]) k = p.1) := fun k hk => by
    by_cases e : k < fs.length
    · exact Or.inl ⟨e, (fk_lt e).2.2, (pa_lt (by omega)).1⟩
    · have e' : k = fs.length := by simp at hk; omega
      subst e'
      exact Or.inr ⟨rfl, fk_eq.2.2, by rw [← hl]; exact pa_eq.1⟩
  refine ⟨fun k hk => ?_, fun i j b hi hj hij hb hb' => ?_⟩
  · rcases at_ k hk with ⟨e, e1, e2⟩ | ⟨e, e1, e2⟩
    · rw [e1, e2]; exact h.own k e
    · rw [e1, e2]; exact ho
  · rcases at_ i hi with ⟨e, e1, e2⟩ | ⟨e, e1, e2⟩
    · rcases at_ j hj with ⟨d, d1, d2⟩ | ⟨d, d1, d2⟩
      · rw [e1, e2] at hb; rw [d1, d2] at hb'; exact h.ne i j b e d hij hb hb'
      · rw [e1, e2] at hb; rw [d1, d2] at hb'; exact hn i b e hb hb'
    · rcases at_ j hj with ⟨d, d1, d2⟩ | ⟨d, d1, d2⟩
      · rw [e1, e2] at hb; rw [d1, d2] at hb'; exact hn j b d hb' hb
      · omega
theorem Lst.up {base base' : Nat} {w : World} {v : Value} {fs : List Fr} {ps : List Pl} (h : Lst base w v fs ps) (hb : base' ≤ base) : Lst base' w v fs ps := by
  refine ⟨h.len, ⟨h.row.1, ?_⟩, h.vals, fun k b hk hbb => ⟨Nat.le_trans hb (h.off k b hk hbb).1, (h.off k b hk hbb).2⟩⟩
  rcases h.row.2 with hn | ⟨g, cap, cur, hv, hbg, rest⟩
  · exact Or.inl hn
  · exact Or.inr ⟨g, cap, cur, hv, Nat.le_trans hb hbg, rest⟩
/-- A list whose memory is its own. -/
theorem own_of {base : Nat} {w : World} {a : Option Addr} {m cap : Nat} {fs : List Fr} {ps : List Pl} (L : Lst base w (.slice a m cap) fs ps) (D : Deep w fs ps) : OwnFs w a fs ps ∧ ∀ b, blkF a fs ps b → base ≤ b := by
  by_cases hv : fs = []
  · subst hv
    exact ⟨Or.inl rfl, fun b hb => by
      rcases hb with ⟨h, _⟩ | ⟨k, hk, _⟩
      · exact absurd rfl h
      · simp at hk⟩
  · have hpos := List.length_pos_iff.2 hv
    rcases L.row.2 with ⟨_, hn⟩ | ⟨g, cap', cur, hvv, hb, hc, _, _, _, htk⟩
    · omega
    · injection hvv with h1 h2 h3
      subst h1
      refine ⟨Or.inr ⟨g, cur, rfl, hc, fun k hk => ?_, D.ne⟩, fun b hbb => ?_⟩
      · obtain ⟨r0, r1, r2⟩ := rowF_at fs ps k L.len hk
        have key : ∀ j, j < fs.length * 3 → cur[j]? = (rowF fs ps)[j]? := fun j hj => by
          rw [← htk, List.getElem?_take, if_pos hj, Array.getElem?_toList]
        exact ⟨(key _ (by omega)).trans r0, (key _ (by omega)).trans r1, (key _ (by omega)).trans r2, D.own k hk⟩
      · rcases hbb with ⟨_, x, e, rfl⟩ | ⟨k, hk, hbb⟩
        · injection e with e; subst e; exact hb
        · exact (L.off k b hk hbb).1
/-- One more is appended, of memory that was not there. -/
theorem both_snoc {base N : Nat} {w w' : World} {o : Obj} {v : Value} {fs : List Fr} {ps : List Pl} {f : Fr} {p : Pl} {g cap : Nat} (L : Lst base w v fs ps) (D : Deep w fs ps) (hO : OwnV w p.1 f.2.2) (hN : base ≤ N) (hge : ∀ b, blkV p.1 f.2.2 b → N ≤ b)
    (hlow : (∀ b, v.ownBlock = some b → b < N) ∧ ∀ k b, k < fs.length → blkV (pa ps k) (fv fs k) b → b < N)
    (hown : w'.ownsRow base 50 3 (.slice (some ⟨g, 0, none⟩) (fs.length + 1) cap) (fs.length + 1) (rowF fs ps ++ cel f p)) (hg : (w.alloc o).grownBy w' v.ownBlock) (hat : v.ownBlock = some g ∨ g = w.heap.size + 1) :
    Lst base w' (.slice (some ⟨g, 0, none⟩) (fs.length + 1) cap) (fs ++ [f]) (ps ++ [p]) ∧ Deep w' (fs ++ [f]) (ps ++ [p]) := by
  have hc := chg_of_gr (S := fun b => some b = v.ownBlock) hg (fun b e => e)
  have hoff : ∀ b, blkV p.1 f.2.2 b → base ≤ b ∧ v.ownBlock ≠ some b := fun b hb => ⟨by have := hge b hb; omega, fun e => by have := hlow.1 b e; have := hge b hb; omega⟩
  refine ⟨L.snoc hO.ints hoff hown hg hat, Deep.snoc ((D.kept (World.grownBy_alloc w o none)).chg hc (fun k b hk hb e => (L.off k b hk hb).2 e.symm)) L.len (hc.ownV (hO.kept (World.grownBy_alloc w o none)) (fun b hb e => (hoff b hb).2 e.symm)) (fun k b hk hb hb' => ?_)⟩
  have := hlow.2 k b hk hb
  have := hge b hb'
  omega
theorem own_ge {base : Nat} {w : World} {a : Option Addr} {vs : List Int} (h : Own base w a vs) : ∀ b, blkV a vs b → base ≤ b := fun b hb => by
  obtain ⟨hne, x, e, rfl⟩ := hb
  obtain ⟨g', o', cs', ha', hb', _⟩ := h
  have := ha' hne
  rw [e] at this
  injection this with this
  subst this
  exact hb'
/-- What FramesIn answers. -/
def InOut (fs : List Fr) (r : List UInt8) (w : World) (e : Ending) (w' : World) : Prop := ∃ (a : Option Addr) (cap : Nat) (ps : List Pl), e = .returned (.tuple #[.slice a fs.length cap, str r]) ∧ w.grownBy w' none ∧ OwnFs w' a fs ps ∧ (∀ b, blkF a fs ps b → w.heap.size ≤ b) ∧ Lst w.heap.size w' (.slice a fs.length cap) fs ps ∧ Deep w' fs ps
end Go.Proofs.YtdikhdfpcipdbaaGreatDoor.stm

/- NewSenses of both sides. -/
namespace Go.Proofs.YtdikhdfpcipdbaaGreatDoor.se
open Go.ChangeShapes Go.WideShapes Go.ChangeAt Go.RowKit
open Go.Proofs.YtdikhdfpcipdbaaGreatDoor.nums Go.Proofs.YtdikhdfpcipdbaaGreatDoor.mem
open Go.Proofs.YtdikhdfpcipdbaaGreatDoor.tab (Ret)
open Go.Proofs.YtdikhdfpcipdbaaGreatDoor.rd (R okR zR OwnR rx ra ro)
open Go.Proofs.YtdikhdfpcipdbaaGreatDoor.il (nth Ints Own)
set_option linter.unusedVariables false

def zr (n : Nat) : List R := List.replicate n zR
def newS : S := ⟨zr 3, zr 2, zr 6, 0, false, [-1, -1, -1, -1]⟩

/-- So many zero readings in a block. -/
def zrow (n : Nat) : Array Value := madeCells (Value.cells (.agg #[.int .i64 0, .int .i64 0, .bool false])) (n * 3)
theorem run_mk (n : Nat) (hn : n ≤ 100) (W : World) : (Instr.makeSlice 24 (.int .i64 n) (.int .i64 n)).run Tryz.prog W = .ok (.slice (some ⟨W.heap.size, 0, none⟩) n n) (W.alloc (.cells (zrow n) 42)) := by
  obtain ⟨i0, hi, hz0, hz1, hz2⟩ := info_parts rd.infoReading
  have h := run_make (P := Tryz.prog) W 24 42 i0 _ Tryz.underlying24 hi hz0 .i64 .i64 n n (by omega) (by omega) (by rw [hz2]; omega) (by omega)
  rw [h, hz1]; rfl

theorem Has.freshAt (X : World) (t : TypeId) (cs : Array Value) (n : Nat) (h : X.heap.size = n) : Has (X.alloc (.cells cs t)) n t cs := h ▸ Has.fresh X t cs
theorem Has.drew1 {w : World} {g : Nat} {t : TypeId} {cs : Array Value} (h : Has w g t cs) : Has w.drew g t cs := h
theorem gr_drew1 {a w : World} {row : Option Nat} (h : a.grownBy w row) : a.grownBy w.drew row := gr_drewN h 1
theorem rx_zr {n k : Nat} (h : k < n) : (zr n).getD k zR = zR := by simp [zr, List.getD, h]
theorem zrow_at {n k : Nat} (h : k < n) : (zrow n)[k * 3]? = some (.int .i64 0) ∧ (zrow n)[k * 3 + 1]? = some (.int .i64 0) ∧ (zrow n)[k * 3 + 2]? = some (.bool false) := by
  unfold zrow madeCells
  refine ⟨?_, ?_, ?_⟩
  · rw [Array.getElem?_map, Array.getElem?_range]
    simp [Value.cells, show k * 3 < n * 3 by omega]
  · rw [Array.getElem?_map, Array.getElem?_range]
    have : (k * 3 + 1) % 3 = 1 := by omega
    simp [Value.cells, show k * 3 + 1 < n * 3 by omega, this]
  · rw [Array.getElem?_map, Array.getElem?_range]
    have : (k * 3 + 2) % 3 = 2 := by omega
    simp [Value.cells, show k * 3 + 2 < n * 3 by omega, this]
theorem own_zr {W : World} {b n : Nat} (h : Has W b 42 (zrow n)) : OwnR W (some ⟨b, 0, none⟩) (zr n) :=
  Or.inr ⟨b, _, rfl, h, fun k hk => by
    have hk' : k < n := by simpa [zr] using hk
    have e := rx_zr hk'
    have e1 : rd.rx (zr n) k = 0 := by unfold rd.rx; rw [e]; rfl
    have e2 : rd.ra (zr n) k = 0 := by unfold rd.ra; rw [e]; rfl
    have e3 : rd.ro (zr n) k = false := by unfold rd.ro; rw [e]; rfl
    rw [e1, e2, e3]
    exact zrow_at hk'⟩
theorem own_q {W : World} {b : Nat} {cs : Array Value} (h : Has W b 2 cs) (hc : cs = #[.int .i64 (-1), .int .i64 (-1), .int .i64 (-1), .int .i64 (-1)]) : Own W (some ⟨b, 0, none⟩) [-1, -1, -1, -1] := by
  subst hc
  refine Or.inr ⟨b, 0, _, rfl, h, fun k hk => ?_⟩
  have : k = 0 ∨ k = 1 ∨ k = 2 ∨ k = 3 := by simp at hk; omega
  rcases this with rfl | rfl | rfl | rfl <;> rfl
theorem own_new (w W : World) (b1 b2 b3 b4 c1 c2 c3 c4 : Nat) (H1 : Has W b1 42 (zrow 3)) (H2 : Has W b2 42 (zrow 2)) (H3 : Has W b3 42 (zrow 6)) (H4 : Own W (some ⟨b4, 0, none⟩) [-1, -1, -1, -1])
    (n : (b1 ≠ b2 ∧ b1 ≠ b3 ∧ b2 ≠ b3) ∧ w.heap.size ≤ b1 ∧ w.heap.size ≤ b2 ∧ w.heap.size ≤ b3 ∧ w.heap.size ≤ b4) : OwnS w.heap.size W newS ⟨some ⟨b1, 0, none⟩, c1, some ⟨b2, 0, none⟩, c2, some ⟨b3, 0, none⟩, c3, some ⟨b4, 0, none⟩, c4⟩ := by
  obtain ⟨⟨n1, n2, n3⟩, l1, l2, l3, l4⟩ := n
  exact ⟨own_zr H1, own_zr H2, own_zr H3, H4, (fun x e => by cases e; exact l1), (fun x e => by cases e; exact l2), (fun x e => by cases e; exact l3), (fun x e => by cases e; exact l4), (fun x y ex ey => by cases ex; cases ey; exact n1), (fun x y ex ey => by cases ex; cases ey; exact n2), (fun x y ex ey => by cases ex; cases ey; exact n3)⟩
theorem spec_end (w W : World) (b1 b2 b3 b4 : Nat) (v : Value) (K : Has W w.heap.size 27 #[.slice (some ⟨b1, 0, none⟩) 3 3, .slice (some ⟨b2, 0, none⟩) 2 2, .slice (some ⟨b3, 0, none⟩) 6 6, .int .i64 0, .bool false, .slice (some ⟨b4, 0, none⟩) 4 4])
    (H1 : Has W b1 42 (zrow 3)) (H2 : Has W b2 42 (zrow 2)) (H3 : Has W b3 42 (zrow 6)) (H4 : Has W b4 2 #[.int .i64 (-1), .int .i64 (-1), .int .i64 (-1), .int .i64 (-1)])
    (n : (b1 ≠ b2 ∧ b1 ≠ b3 ∧ b2 ≠ b3) ∧ w.heap.size ≤ b1 ∧ w.heap.size ≤ b2 ∧ w.heap.size ≤ b3 ∧ w.heap.size ≤ b4) (hg : w.grownBy W none) :
    bodyPost Tryz.prog Tryz.f16 (RetS newS w) Exit.ret { tmps := #[.pointer (some ⟨w.heap.size, 0, none⟩), .slice (some ⟨b1, 0, none⟩) 3 3, .slice (some ⟨b2, 0, none⟩) 2 2, .slice (some ⟨b3, 0, none⟩) 6 6, .slice (some ⟨b4, 0, none⟩) 4 4, v], defers := [] } W := by
  obtain ⟨⟨u0, u1, u2⟩, u3, u4, u5⟩ := six K
  exact bodyPost_ret (v := sv newS ⟨some ⟨b1, 0, none⟩, 3, some ⟨b2, 0, none⟩, 2, some ⟨b3, 0, none⟩, 6, some ⟨b4, 0, none⟩, 4⟩) (by simp [results, Tryz.results16, go_sem, u0, u1, u2, u3, u4, u5, newS, zr]) rfl ⟨_, rfl, hg, own_new w W b1 b2 b3 b4 3 2 6 4 H1 H2 H3 (own_q H4 rfl) n⟩

set_option maxHeartbeats 4000000 in
theorem specNew (w : World) : Calls Tryz.prog 16 #[] w (RetS newS w) := by
  have k0 := Has.fresh w 27 #[.slice none 0 0, .slice none 0 0, .slice none 0 0, .int .i64 0, .bool false, .slice none 0 0]
  obtain ⟨⟨f0, f1, f2⟩, f3, f4, f5⟩ := free6 k0
  obtain ⟨⟨d0, d1, d2⟩, d3, d4, d5⟩ := six k0
  have m3 : ∀ W, (Instr.makeSlice 24 (.int .i64 3) (.int .i64 3)).run Tryz.prog W = .ok (.slice (some ⟨W.heap.size, 0, none⟩) 3 3) (W.alloc (.cells (zrow 3) 42)) := run_mk 3 (by omega)
  have m2 : ∀ W, (Instr.makeSlice 24 (.int .i64 2) (.int .i64 2)).run Tryz.prog W = .ok (.slice (some ⟨W.heap.size, 0, none⟩) 2 2) (W.alloc (.cells (zrow 2) 42)) := run_mk 2 (by omega)
  have m6 : ∀ W, (Instr.makeSlice 24 (.int .i64 6) (.int .i64 6)).run Tryz.prog W = .ok (.slice (some ⟨W.heap.size, 0, none⟩) 6 6) (W.alloc (.cells (zrow 6) 42)) := run_mk 6 (by omega)
  go_enter Tryz.func16, Tryz.ntmps16
  go_wp2_with fail
  clear k0 f0 f1 f2 f3 f4 f5 d0 d1 d2 d3 d4 d5
  go_big_region
  all_goals go_wp2_with fail
  all_goals refine spec_end w _ _ _ _ _ _ ?_ ?_ ?_ ?_ ?_ ?_ ?_
  all_goals first | (refine Has.drew1 ?_; repeat (first | exact Has.freshAt _ _ _ _ (by simp) | refine Has.alloc ?_ _)) | (refine gr_drew1 ?_; repeat (first | exact World.grownBy_alloc _ _ _ | refine gr_alloc ?_ _)) | omega
end Go.Proofs.YtdikhdfpcipdbaaGreatDoor.se

/- A list of so many is its members. -/
namespace Go.Proofs.YtdikhdfpcipdbaaGreatDoor.se
open Go
theorem cons_of {α : Type} {n : Nat} {l : List α} (h : l.length = n + 1) : ∃ x t, l = x :: t ∧ t.length = n := by
  cases l with
  | nil => cases h
  | cons x t => exact ⟨x, t, rfl, Nat.succ.inj h⟩
theorem lit46 (tl : List Value) (h : tl.length = 46) : ∃ x0 x1 x2 x3 x4 x5 x6 x7 x8 x9 x10 x11 x12 x13 x14 x15 x16 x17 x18 x19 x20 x21 x22 x23 x24 x25 x26 x27 x28 x29 x30 x31 x32 x33 x34 x35 x36 x37 x38 x39 x40 x41 x42 x43 x44 x45 : Value, tl = [x0, x1, x2, x3, x4, x5, x6, x7, x8, x9, x10, x11, x12, x13, x14, x15, x16, x17, x18, x19, x20, x21, x22, x23, x24, x25, x26, x27, x28, x29, x30, x31, x32, x33, x34, x35, x36, x37, x38, x39, x40, x41, x42, x43, x44, x45] := by
  obtain ⟨x0, t0, e0, h0⟩ := cons_of h
  obtain ⟨x1, t1, e1, h1⟩ := cons_of h0
  obtain ⟨x2, t2, e2, h2⟩ := cons_of h1
  obtain ⟨x3, t3, e3, h3⟩ := cons_of h2
  obtain ⟨x4, t4, e4, h4⟩ := cons_of h3
  obtain ⟨x5, t5, e5, h5⟩ := cons_of h4
  obtain ⟨x6, t6, e6, h6⟩ := cons_of h5
  obtain ⟨x7, t7, e7, h7⟩ := cons_of h6
  obtain ⟨x8, t8, e8, h8⟩ := cons_of h7
  obtain ⟨x9, t9, e9, h9⟩ := cons_of h8
  obtain ⟨x10, t10, e10, h10⟩ := cons_of h9
  obtain ⟨x11, t11, e11, h11⟩ := cons_of h10
  obtain ⟨x12, t12, e12, h12⟩ := cons_of h11
  obtain ⟨x13, t13, e13, h13⟩ := cons_of h12
  obtain ⟨x14, t14, e14, h14⟩ := cons_of h13
  obtain ⟨x15, t15, e15, h15⟩ := cons_of h14
  obtain ⟨x16, t16, e16, h16⟩ := cons_of h15
  obtain ⟨x17, t17, e17, h17⟩ := cons_of h16
  obtain ⟨x18, t18, e18, h18⟩ := cons_of h17
  obtain ⟨x19, t19, e19, h19⟩ := cons_of h18
  obtain ⟨x20, t20, e20, h20⟩ := cons_of h19
  obtain ⟨x21, t21, e21, h21⟩ := cons_of h20
  obtain ⟨x22, t22, e22, h22⟩ := cons_of h21
  obtain ⟨x23, t23, e23, h23⟩ := cons_of h22
  obtain ⟨x24, t24, e24, h24⟩ := cons_of h23
  obtain ⟨x25, t25, e25, h25⟩ := cons_of h24
  obtain ⟨x26, t26, e26, h26⟩ := cons_of h25
  obtain ⟨x27, t27, e27, h27⟩ := cons_of h26
  obtain ⟨x28, t28, e28, h28⟩ := cons_of h27
  obtain ⟨x29, t29, e29, h29⟩ := cons_of h28
  obtain ⟨x30, t30, e30, h30⟩ := cons_of h29
  obtain ⟨x31, t31, e31, h31⟩ := cons_of h30
  obtain ⟨x32, t32, e32, h32⟩ := cons_of h31
  obtain ⟨x33, t33, e33, h33⟩ := cons_of h32
  obtain ⟨x34, t34, e34, h34⟩ := cons_of h33
  obtain ⟨x35, t35, e35, h35⟩ := cons_of h34
  obtain ⟨x36, t36, e36, h36⟩ := cons_of h35
  obtain ⟨x37, t37, e37, h37⟩ := cons_of h36
  obtain ⟨x38, t38, e38, h38⟩ := cons_of h37
  obtain ⟨x39, t39, e39, h39⟩ := cons_of h38
  obtain ⟨x40, t40, e40, h40⟩ := cons_of h39
  obtain ⟨x41, t41, e41, h41⟩ := cons_of h40
  obtain ⟨x42, t42, e42, h42⟩ := cons_of h41
  obtain ⟨x43, t43, e43, h43⟩ := cons_of h42
  obtain ⟨x44, t44, e44, h44⟩ := cons_of h43
  obtain ⟨x45, t45, e45, h45⟩ := cons_of h44
  have e46 := List.eq_nil_of_length_eq_zero h45
  exact ⟨x0, x1, x2, x3, x4, x5, x6, x7, x8, x9, x10, x11, x12, x13, x14, x15, x16, x17, x18, x19, x20, x21, x22, x23, x24, x25, x26, x27, x28, x29, x30, x31, x32, x33, x34, x35, x36, x37, x38, x39, x40, x41, x42, x43, x44, x45, by rw [e0, e1, e2, e3, e4, e5, e6, e7, e8, e9, e10, e11, e12, e13, e14, e15, e16, e17, e18, e19, e20, e21, e22, e23, e24, e25, e26, e27, e28, e29, e30, e31, e32, e33, e34, e35, e36, e37, e38, e39, e40, e41, e42, e43, e44, e45, e46]⟩
end Go.Proofs.YtdikhdfpcipdbaaGreatDoor.se

/- A frame's text of which one byte is another one is no frame's text. -/
namespace Go.Proofs.YtdikhdfpcipdbaaGreatDoor.frm
open Go.Proofs.YtdikhdfpcipdbaaGreatDoor.txt
set_option linter.unusedVariables false

/-- The bytes that may stand ahead of the star. -/
def Plain (c : UInt8) : Prop := c ≠ 42 ∧ c.toNat < 100
theorem sumL_small (a : List UInt8) : -1000000000 < sumL a ∧ sumL a < 1000000000 := by
  have h1 := sumL_ge a
  have h2 := sumL_le a
  omega
end Go.Proofs.YtdikhdfpcipdbaaGreatDoor.frm

