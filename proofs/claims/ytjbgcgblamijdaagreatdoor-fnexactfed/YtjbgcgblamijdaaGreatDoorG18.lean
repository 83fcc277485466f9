/- A list of frames in memory: read; what came in; alike. A list of frames of one's own: marked, and held; the bulk of one that came in; its copy. -/
import Derived.Test.YtjbgcgblamijdaaGreatDoorG17
import Derived.Deep.Slices
import Derived.StillTailTactics
/- A list of frames in memory: read; what came in; alike. -/
namespace Go.Proofs.YtjbgcgblamijdaaGreatDoor.stm
open Go.ChangeShapes Go.WideShapes Go.ChangeAt Go.RowKit
open Go.Proofs.YtjbgcgblamijdaaGreatDoor.nums Go.Proofs.YtjbgcgblamijdaaGreatDoor.mem Go.Proofs.YtjbgcgblamijdaaGreatDoor.txt Go.Proofs.YtjbgcgblamijdaaGreatDoor.fix Go.Proofs.YtjbgcgblamijdaaGreatDoor.frm
open Go.Proofs.YtjbgcgblamijdaaGreatDoor.tab (Ret quiet_w wpList_make_has add_off)
set_option linter.unusedVariables false

/-- A frame: its kind, its number, its values. -/
abbrev Fr := Int × Int × List Int
/-- Where the values of a frame lie, and how much room there is. -/
abbrev Pl := Option Addr × Nat
def fk (fs : List Fr) (i : Nat) : Int := (fs.getD i (0, 0, [])).1
def fq (fs : List Fr) (i : Nat) : Int := (fs.getD i (0, 0, [])).2.1
def fv (fs : List Fr) (i : Nat) : List Int := (fs.getD i (0, 0, [])).2.2
def pa (ps : List Pl) (i : Nat) : Option Addr := (ps.getD i (none, 0)).1
def pc (ps : List Pl) (i : Nat) : Nat := (ps.getD i (none, 0)).2
theorem fat {fs : List Fr} {i : Nat} (h : i < fs.length) : fs[i] = (fk fs i, fq fs i, fv fs i) := by simp [fk, fq, fv, List.getD, h]

/-- The slice at a holds these frames. -/
def Frs (w : World) (a : Option Addr) (fs : List Fr) (ps : List Pl) : Prop :=
  ∀ k, k < fs.length → ∃ x : Addr, a = some x ∧ x.block < w.heap.size ∧ w.cell? (x.add (k * 3)) = some (.int .i64 (fk fs k)) ∧ w.cell? ⟨(x.add (k * 3)).block, (x.add (k * 3)).off + 1, none⟩ = some (.int .i64 (fq fs k)) ∧
    w.cell? ⟨(x.add (k * 3)).block, (x.add (k * 3)).off + 2, none⟩ = some (.slice (pa ps k) (fv fs k).length (pc ps k)) ∧ Ints w (pa ps k) (fv fs k)
theorem Frs.nil (w : World) (a : Option Addr) (ps : List Pl) : Frs w a [] ps := fun k hk => by simp at hk

/-- Of what was there, only blocks of S are another. -/
structure Chg (S : Nat → Prop) (w w' : World) : Prop where
  os : w'.os = w.os
  tape : w'.tape = w.tape
  output : w'.output = w.output
  size : w.heap.size ≤ w'.heap.size
  block : ∀ b, b < w.heap.size → ¬ S b → w'.heap[b]? = w.heap[b]?
theorem chg_of_gr {w w' : World} {row : Option Nat} {S : Nat → Prop} (h : w.grownBy w' row) (hS : ∀ b, some b = row → S b) : Chg S w w' := ⟨h.os, h.tape, h.output, h.size, fun b hb hn => h.block b hb (fun e => hn (hS b e))⟩
theorem Chg.refl (S : Nat → Prop) (w : World) : Chg S w w := ⟨rfl, rfl, rfl, Nat.le_refl _, fun _ _ _ => rfl⟩
theorem Chg.trans {S : Nat → Prop} {a b c : World} (h : Chg S a b) (k : Chg S b c) : Chg S a c :=
  ⟨k.os.trans h.os, k.tape.trans h.tape, k.output.trans h.output, Nat.le_trans h.size k.size, fun i hi hn => (k.block i (Nat.lt_of_lt_of_le hi h.size) hn).trans (h.block i hi hn)⟩
theorem Chg.mono {S T : Nat → Prop} {a b : World} (h : Chg S a b) (hs : ∀ i, S i → T i) : Chg T a b := ⟨h.os, h.tape, h.output, h.size, fun i hi hn => h.block i hi (fun k => hn (hs i k))⟩
theorem Chg.gr {S : Nat → Prop} {a b c : World} (h : a.grownBy b none) (k : Chg S b c) (hS : ∀ i, S i → a.heap.size ≤ i) : a.grownBy c none :=
  ⟨k.os.trans h.os, k.tape.trans h.tape, k.output.trans h.output, Nat.le_trans h.size k.size, fun i hi hn => (k.block i (Nat.lt_of_lt_of_le hi h.size) (fun s => by have := hS i s; omega)).trans (h.block i hi hn)⟩
theorem Chg.has {S : Nat → Prop} {w w' : World} {g : Nat} {t : TypeId} {cs : Array Value} (h : Chg S w w') (H : Has w g t cs) (hn : ¬ S g) : Has w' g t cs := H.same (h.block g H.lt hn)
theorem Chg.ints {S : Nat → Prop} {w w' : World} {a : Option Addr} {l : List Int} (h : Chg S w w') (H : Ints w a l) (hn : ∀ x : Addr, a = some x → 0 < l.length → ¬ S x.block) : Ints w' a l := by
  intro k hk
  obtain ⟨x, e, hb, h1⟩ := H k hk
  refine ⟨x, e, Nat.lt_of_lt_of_le hb h.size, ?_⟩
  rw [← h1]; exact World.cell?_of_block (h.block _ (by rw [block_add]; omega) (by rw [block_add]; exact hn x e (by omega)))
theorem Chg.frs {S : Nat → Prop} {w w' : World} {a : Option Addr} {fs : List Fr} {ps : List Pl} (h : Chg S w w') (H : Frs w a fs ps) (hn : ∀ x : Addr, a = some x → 0 < fs.length → ¬ S x.block)
    (hv : ∀ k (x : Addr), k < fs.length → pa ps k = some x → 0 < (fv fs k).length → ¬ S x.block) : Frs w' a fs ps := by
  intro k hk
  obtain ⟨x, e, hb, h1, h2, h3, h4⟩ := H k hk
  have hx := hn x e (by omega)
  refine ⟨x, e, Nat.lt_of_lt_of_le hb h.size, ?_, ?_, ?_, h.ints h4 (fun y ey hl => hv k y hk ey hl)⟩
  · rw [← h1]; exact World.cell?_of_block (h.block _ (by rw [block_add]; omega) (by rw [block_add]; exact hx))
  · rw [← h2]; exact World.cell?_of_block (h.block _ (by show (x.add (k * 3)).block < _; rw [block_add]; omega) (by show ¬ S (x.add (k * 3)).block; rw [block_add]; exact hx))
  · rw [← h3]; exact World.cell?_of_block (h.block _ (by show (x.add (k * 3)).block < _; rw [block_add]; omega) (by show ¬ S (x.add (k * 3)).block; rw [block_add]; exact hx))
theorem Frs.kept {w w' : World} {a : Option Addr} {fs : List Fr} {ps : List Pl} (h : Frs w a fs ps) (hg : w.grownBy w' none) : Frs w' a fs ps :=
  (chg_of_gr (S := fun _ => False) hg (fun b e => by cases e)).frs h (fun _ _ _ => id) (fun _ _ _ _ _ => id)

theorem choose_pl {n : Nat} {Q : Nat → Fr × Pl → Prop} (h : ∀ i, i < n → ∃ q, Q i q) : ∃ (fs : List Fr) (ps : List Pl), fs.length = n ∧ ∀ i, i < n → Q i ((fk fs i, fq fs i, fv fs i), (pa ps i, pc ps i)) := by
  obtain ⟨q, hq⟩ := Go.Deep.choose_lt h
  refine ⟨(List.range n).map fun i => (q i).1, (List.range n).map fun i => (q i).2, by simp, fun i hi => ?_⟩
  have e1 : ((List.range n).map fun i => (q i).1).getD i (0, 0, []) = (q i).1 := by simp [List.getD, hi]
  have e2 : ((List.range n).map fun i => (q i).2).getD i (none, 0) = (q i).2 := by simp [List.getD, hi]
  unfold fk fq fv pa pc
  rw [e1, e2]
  exact hq i hi

set_option maxRecDepth 100000 in
theorem open_frames {H : Type} {enc : TypeId × Value → H} {w : World} {base : Nat} {held : Bool} {a : Option Addr} {len cap : Nat} {d : DataW H} {p : List MemPlace}
    (h : DataW.Trod enc Tryz.prog w base (fun _ => true) held 48 (.slice a len cap) d p) : ∃ (fs : List Fr) (ps : List Pl), fs.length = len ∧ fs.length ≤ maxLen ∧ Frs w a fs ps ∧ ∀ k, k < fs.length → (fv fs k).length ≤ maxLen := by
  obtain ⟨fuel, hf⟩ := h
  rcases Go.Deep.open_slice Tryz.underlying48 hf with ⟨hcs, _⟩ | ⟨x, l, c, m, n, D, Pq, hcs, hb, hl, hm, hmm, _, hx⟩
  · simp [Value.cells] at hcs
    obtain ⟨rfl, rfl, rfl⟩ := hcs
    exact ⟨[], [], rfl, Nat.zero_le _, Frs.nil _ _ _, fun k hk => by simp at hk⟩
  · simp [Value.cells] at hcs
    obtain ⟨rfl, rfl, rfl⟩ := hcs
    have hlm : len ≤ m := by rw [hmm]; split <;> omega
    have ce : Tryz.prog.cellsOf 97 = 3 := by kernel_rfl
    have c1 : Tryz.prog.cellsOf 2 = 1 := by kernel_rfl
    have c2 : Tryz.prog.cellsOf 25 = 1 := by kernel_rfl
    obtain ⟨fs, ps, hfl, hq⟩ := choose_pl (n := len) (Q := fun k q => x.block < w.heap.size ∧ w.cell? (x.add (k * 3)) = some (.int .i64 q.1.1) ∧ w.cell? ⟨(x.add (k * 3)).block, (x.add (k * 3)).off + 1, none⟩ = some (.int .i64 q.1.2.1) ∧
      w.cell? ⟨(x.add (k * 3)).block, (x.add (k * 3)).off + 2, none⟩ = some (.slice q.2.1 q.1.2.2.length q.2.2) ∧ Ints w q.2.1 q.1.2.2 ∧ q.1.2.2.length ≤ maxLen) (by
      intro k hk
      obtain ⟨cs', h1, h2⟩ := hx k (by omega)
      rw [ce] at h1
      obtain ⟨_, hlen, hcell⟩ := World.cells?_some h1
      obtain ⟨y0, y1, y2, n', _, hl3, t0, t1, t2⟩ := Go.Deep.trod_struct3 Tryz.underlying97 h2
      obtain ⟨z0, e0, _, hw0⟩ := DataW.trod_int Tryz.underlying2 t0
      obtain ⟨z1, e1, _, hw1⟩ := DataW.trod_int Tryz.underlying2 t1
      obtain ⟨a2, len2, cap2, l2, e2, rfl, hlm2, hI, hwf⟩ := ints_of_trod t2
      match cs', hlen with
      | [v0, v1, v2], _ =>
        simp [c1, c2] at e0 e1 e2
        have d0 := hcell 0 (by omega)
        have d1 := hcell 1 (by omega)
        have d2 := hcell 2 (by omega)
        rw [Go.Deep.add_add] at d0 d1 d2
        have d0' : w.cell? (x.add (k * 3)) = some (.int .i64 z0) := by simpa [e0] using d0
        have d1' : w.cell? (x.add (k * 3 + (0 + 1))) = some (.int .i64 z1) := by simpa [e1] using d1
        have d2' : w.cell? (x.add (k * 3 + (1 + 1))) = some (.slice a2 l2.length cap2) := by simpa [e2] using d2
        rw [add_off] at d1' d2'
        refine ⟨((z0, z1, l2), (a2, cap2)), ?_, d0', d1', d2', hI, hlm2⟩
        by_cases hbk : x.block < w.heap.size
        · exact hbk
        · have hn : w.heap[(x.add (k * 3)).block]? = none := by rw [block_add]; exact Array.getElem?_eq_none (by omega)
          simp [World.cell?, hn] at d0')
    refine ⟨fs, ps, hfl, by omega, fun k hk => ?_, fun k hk => (hq k (by omega)).2.2.2.2.2⟩
    obtain ⟨h1, h2, h3, h4, h5, _⟩ := hq k (by omega)
    exact ⟨x, rfl, h1, h2, h3, h4, h5⟩

set_option maxRecDepth 100000 in
set_option maxHeartbeats 1000000 in
theorem eqFrames (a a' : Option Addr) (cap cap' : Nat) (fs : List Fr) (ps ps' : List Pl) (w : World) (h : Frs w a fs ps) (h' : Frs w a' fs ps') (hl : fs.length ≤ 1048576) (hv : ∀ k, k < fs.length → (fv fs k).length ≤ 1048576) :
    Calls Tryz.prog 26 #[.slice a fs.length cap, .slice a' fs.length cap'] w (Ret (.bool true) w) := by
  go_enter Tryz.func26, Tryz.ntmps26
  go_wp2
  go_loopw [5] (fun i wr => ∃ k : Nat, k ≤ fs.length ∧ i = .int .i64 k ∧ w.grownBy wr none) (fun i _ => fs.length - (intOf i).toNat)
  case atStart => exact ⟨0, Nat.zero_le _, rfl, gr_refl _ _⟩
  case round =>
    obtain ⟨k, hk, rfl, hg⟩ := hrel
    by_cases hlt : k < fs.length
    · have h6 := hv k hlt
      obtain ⟨x, rfl, _, cx, cy, cz, hI⟩ := (h.kept hg) k hlt
      obtain ⟨x', rfl, _, dx, dy, dz, hI'⟩ := (h'.kept hg) k hlt
      generalize fk fs k = K at *
      generalize fq fs k = Q at *
      generalize fv fs k = V at *
      go_wp2_with fail
      go_still_tail 8, (by kernel_rfl)
      change wpList _ _ _ _ _ wr.drew
      go_wp2_with fail
      refine (eqFrame K Q _ _ _ _ V wr.drew hI hI' (by unfold maxLen; omega)).mono ?_
      rintro e w1 ⟨rfl, hg1⟩
      go_wp2_with fail
      go_roundw
      case rel => exact ⟨k + 1, by omega, by go_num, gr_trans (gr_drewN hg 1) hg1⟩
      case measure => simp [intOf]; omega
    · obtain rfl : k = fs.length := by omega
      go_wp2_with fail
      go_ret
      exact ⟨rfl, hg⟩
end Go.Proofs.YtjbgcgblamijdaaGreatDoor.stm

/- A list of frames of one's own: marked, and held; the bulk of one that came in; its copy. -/
namespace Go.Proofs.YtjbgcgblamijdaaGreatDoor.stm
open Go.ChangeShapes Go.WideShapes Go.ChangeAt Go.RowKit
open Go.Proofs.YtjbgcgblamijdaaGreatDoor.nums Go.Proofs.YtjbgcgblamijdaaGreatDoor.mem Go.Proofs.YtjbgcgblamijdaaGreatDoor.txt Go.Proofs.YtjbgcgblamijdaaGreatDoor.fix Go.Proofs.YtjbgcgblamijdaaGreatDoor.frm
open Go.Proofs.YtjbgcgblamijdaaGreatDoor.tab (Ret quiet_w wpList_make_has add_off)
set_option linter.unusedVariables false

def mks (m n : Nat) : List Int := (List.range n).map fun (j : Nat) => ((m + j : Nat) : Int)
theorem mks_len (m n : Nat) : (mks m n).length = n := by simp [mks]
theorem mks_at {m n j : Nat} (h : j < n) : nth (mks m n) j = ((m + j : Nat) : Int) := by rw [nth_lt (by rw [mks_len]; exact h)]; simp [mks]

/-- The values lie in a block of numbers that is known whole. -/
def OwnV (w : World) (a : Option Addr) (vs : List Int) : Prop := vs = [] ∨ ∃ (g o : Nat) (cs : Array Value), a = some ⟨g, o, none⟩ ∧ Has w g 2 cs ∧ ∀ j, j < vs.length → cs[o + j]? = some (.int .i64 (nth vs j))
theorem OwnV.of {base : Nat} {w : World} {a : Option Addr} {vs : List Int} (h : Own base w a vs) : OwnV w a vs := by
  by_cases hv : vs = []
  · exact Or.inl hv
  · obtain ⟨g, o, cs, ha, hb, hc, hj⟩ := h
    exact Or.inr ⟨g, o, cs, ha hv, hc, hj⟩
theorem OwnV.ints {w : World} {a : Option Addr} {vs : List Int} (h : OwnV w a vs) : Ints w a vs := by
  rcases h with rfl | ⟨g, o, cs, rfl, hc, hj⟩
  · exact Ints.nil _ _
  · intro k hk
    refine ⟨_, rfl, hc.lt, ?_⟩
    rw [addo, hc.cell]; exact hj k hk
/-- The block of the values, where there are any. -/
def blkV (a : Option Addr) (vs : List Int) (b : Nat) : Prop := vs ≠ [] ∧ ∃ x : Addr, a = some x ∧ x.block = b
theorem Chg.ownV {S : Nat → Prop} {w w' : World} {a : Option Addr} {vs : List Int} (h : Chg S w w') (H : OwnV w a vs) (hn : ∀ b, blkV a vs b → ¬ S b) : OwnV w' a vs := by
  rcases H with rfl | ⟨g, o, cs, rfl, hc, hj⟩
  · exact Or.inl rfl
  · by_cases hv : vs = []
    · exact Or.inl hv
    · exact Or.inr ⟨g, o, cs, rfl, h.has hc (hn g ⟨hv, _, rfl, rfl⟩), hj⟩
theorem OwnV.lt {w : World} {a : Option Addr} {vs : List Int} (h : OwnV w a vs) {b : Nat} (hb : blkV a vs b) : b < w.heap.size := by
  obtain ⟨hne, x, rfl, rfl⟩ := hb
  rcases h with rfl | ⟨g, o, cs, e, hc, hj⟩
  · exact absurd rfl hne
  · injection e with e; subst e; exact hc.lt
/-- A block of something else is not the values'. -/
theorem OwnV.ne {w : World} {a : Option Addr} {vs : List Int} (h : OwnV w a vs) {g : Nat} {t : TypeId} {cs : Array Value} (H : Has w g t cs) (ht : t ≠ 2) : ¬ blkV a vs g := by
  rintro ⟨hne, x, rfl, rfl⟩
  rcases h with rfl | ⟨g, o, cs', e, hc, hj⟩
  · exact hne rfl
  · injection e with e
    subst e
    have h4 := H.symm.trans hc
    simp at h4
    exact ht h4.2

/-- The marks are laid, from m on. -/
def MarkedV (m : Nat) (vs : List Int) (a : Option Addr) (w : World) (e : Ending) (w' : World) : Prop := e = .returned (.int .i64 ((m : Int) + vs.length)) ∧ Chg (blkV a vs) w w' ∧ Ints w' a (mks m vs.length)

set_option maxRecDepth 100000 in
set_option maxHeartbeats 1000000 in
theorem markV (m : Nat) (a : Option Addr) (cap : Nat) (vs : List Int) (w : World) (h : OwnV w a vs) (hl : vs.length ≤ 10000000) (hm : m ≤ 10000000) : Calls Tryz.prog 79 #[.slice a vs.length cap, .int .i64 m] w (MarkedV m vs a w) := by
  by_cases hv : vs = []
  · subst hv
    go_enter Tryz.func79, Tryz.ntmps79
    go_wp2_with fail
    go_loopw [1, 5] (fun p i wr => w = wr ∧ p = .int .i64 m ∧ i = .int .i64 0) (fun _ _ _ => 0)
    case atStart => exact ⟨rfl, rfl, rfl⟩
    case round =>
      obtain ⟨rfl, rfl, rfl⟩ := hrel
      go_wp2_with fail
      go_ret
      exact ⟨by simp, Chg.refl _ _, Ints.nil _ _⟩
  · obtain ⟨g, o, cs, rfl, hc, hj⟩ := h.resolve_left hv
    have HV := Lib.hid hv
    clear hv h
    go_enter Tryz.func79, Tryz.ntmps79
    go_wp2_with fail
    go_loopw [1, 5] (fun p i wr => ∃ (k : Nat) (A : Array Value), k ≤ vs.length ∧ i = .int .i64 k ∧ p = .int .i64 ((m : Int) + k) ∧ Has wr g 2 A ∧ Hid (∀ j, j < vs.length → ∃ u, A[o + j]? = some u) ∧ Hid (∀ j, j < k → A[o + j]? = some (.int .i64 ((m + j : Nat) : Int))) ∧ w.grownBy wr (some g)) (fun _ i _ => vs.length - (intOf i).toNat)
    case atStart => exact ⟨0, cs, Nat.zero_le _, rfl, by simp, hc, Lib.hid (fun j hj' => ⟨_, hj j hj'⟩), Lib.hid (fun j hj' => by omega), gr_refl _ _⟩
    case round =>
      obtain ⟨k, A, hk, rfl, rfl, hA, hs, hr, hg⟩ := hrel
      by_cases hlt : k < vs.length
      · obtain ⟨u, hu⟩ := hs.out k hlt
        have d0 := (hA.cell (o + k)).trans hu
        have f0 := hA.frozen (o + k)
        have hsz : o + k < A.size := (Array.getElem?_eq_some_iff.1 hu).1
        clear hu
        go_wp2_with fail
        go_roundw
        case rel => exact ⟨k + 1, _, by omega, by go_num, by go_num, hA.set _ _, Lib.hid (fun j hj' => by
            by_cases e : j = k
            · subst e; exact ⟨_, Array.getElem?_setIfInBounds_self_of_lt hsz⟩
            · rw [Array.getElem?_setIfInBounds_ne (by omega)]; exact hs.out j hj'), Lib.hid (fun j hj' => by
            by_cases e : j = k
            · subst e; rw [Array.getElem?_setIfInBounds_self_of_lt hsz]; simp
            · rw [Array.getElem?_setIfInBounds_ne (by omega)]; exact hr.out j (by omega)), gr_set hg _ _⟩
        case measure => simp [intOf]; omega
      · obtain rfl : k = vs.length := by omega
        go_wp2_with fail
        go_ret
        refine ⟨rfl, ?_, fun j hj' => ⟨_, rfl, hA.lt, ?_⟩⟩
        · exact chg_of_gr hg (fun b e => by injection e with e; subst e; exact ⟨HV.out, _, rfl, rfl⟩)
        · rw [mks_len] at hj'
          rw [addo, hA.cell, hr.out j hj', mks_at hj']

set_option maxRecDepth 100000 in
set_option maxHeartbeats 1000000 in
theorem heldV (m : Nat) (a : Option Addr) (cap n : Nat) (w : World) (h : Ints w a (mks m n)) (hl : n ≤ 10000000) (hm : m ≤ 10000000) : Calls Tryz.prog 81 #[.slice a n cap, .int .i64 m] w (Ret (.int .i64 ((m : Int) + n)) w) := by
  go_enter Tryz.func81, Tryz.ntmps81
  go_wp2_with fail
  go_loopw [1, 5] (fun p i wr => ∃ k : Nat, k ≤ n ∧ i = .int .i64 k ∧ p = .int .i64 ((m : Int) + k) ∧ w.grownBy wr none) (fun _ i _ => n - (intOf i).toNat)
  case atStart => exact ⟨0, Nat.zero_le _, rfl, by simp, gr_refl _ _⟩
  case round =>
    obtain ⟨k, hk, rfl, rfl, hg⟩ := hrel
    by_cases hlt : k < n
    · obtain ⟨x, rfl, _, cx⟩ := (h.kept hg) k (by rw [mks_len]; exact hlt)
      rw [mks_at hlt, Int.natCast_add] at cx
      go_wp2_with fail
      go_roundw
      case rel => exact ⟨k + 1, by omega, by go_num, by go_num, hg⟩
      case measure => simp [intOf]; omega
    · obtain rfl : k = n := by omega
      go_wp2_with fail
      go_ret
      exact ⟨rfl, hg⟩
end Go.Proofs.YtjbgcgblamijdaaGreatDoor.stm

