/- Two lists of frames, alike or not; one behind the other. -/
import Derived.Test.YtfobbjimcmjfkaaDoorStRun
import Derived.Test.YtfobbjimcmjfkaaDoorFrLike
import Derived.Maps.AppendAt
import Derived.Laws.AppendOwnNone
namespace Go.Proofs.YtfobbjimcmjfkaaDoor.stm
open Go.ChangeShapes Go.WideShapes Go.ChangeAt Go.RowKit
open Go.Proofs.YtfobbjimcmjfkaaDoor.nums Go.Proofs.YtfobbjimcmjfkaaDoor.mem Go.Proofs.YtfobbjimcmjfkaaDoor.txt Go.Proofs.YtfobbjimcmjfkaaDoor.fix Go.Proofs.YtfobbjimcmjfkaaDoor.frm
open Go.Proofs.YtfobbjimcmjfkaaDoor.tab (Ret quiet_w wpList_make_has add_off)
set_option linter.unusedVariables false

/-- Some answer: true where p. -/
def Tells (p : Prop) (w : World) (e : Ending) (w' : World) : Prop := ∃ v : Bool, e = .returned (.bool v) ∧ w.grownBy w' none ∧ (p → v = true)

set_option maxRecDepth 100000 in
set_option maxHeartbeats 1000000 in
theorem likeIntsAny (a a' : Option Addr) (cap cap' : Nat) (l l' : List Int) (w : World) (h : Ints w a l) (h' : Ints w a' l') (hl : l.length ≤ 1000) (hl' : l'.length ≤ 1000) :
    Calls Tryd.prog 46 #[.slice a l.length cap, .slice a' l'.length cap'] w (Tells (l = l') w) := by
  by_cases he : l.length = l'.length
  · have hb : ((l.length : Int) == (l'.length : Int)) = true := by simp [he]
    rw [← he]
    go_enter Tryd.func46, Tryd.ntmps46
    go_wp2_with fail
    go_loopw [5] (fun i wr => ∃ k : Nat, k ≤ l.length ∧ i = .int .i64 k ∧ w.grownBy wr none) (fun i _ => l.length - (intOf i).toNat)
    case atStart => exact ⟨0, Nat.zero_le _, rfl, gr_refl _ _⟩
    case round =>
      obtain ⟨k, hk, rfl, hg⟩ := hrel
      by_cases hlt : k < l.length
      · obtain ⟨x, rfl, _, cx⟩ := (h.kept hg) k hlt
        obtain ⟨x', rfl, _, dx⟩ := (h'.kept hg) k (by omega)
        by_cases hn : nth l k = nth l' k
        · rw [← hn] at dx
          clear hn
          go_wp2_with fail
          go_quiet (fail)
          go_wp2_with fail
          go_roundw
          case rel => exact ⟨k + 1, by omega, by go_num, gr_drewN hg _⟩
          case measure => simp [intOf]; omega
        · have hn' : (nth l k == nth l' k) = false := by rw [beq_eq_false_iff_ne]; exact hn
          have hne : Hid (l ≠ l') := Lib.hid (fun e => hn (by rw [e]))
          clear hn
          generalize nth l k = A at *
          generalize nth l' k = B at *
          go_wp2_with fail
          go_quiet (fail)
          go_wp2_with fail
          go_ret
          exact ⟨false, rfl, gr_drewN hg _, fun e => absurd e hne.out⟩
      · obtain rfl : k = l.length := by omega
        go_wp2_with fail
        go_ret
        exact ⟨true, rfl, hg, fun _ => rfl⟩
  · have hb : ((l.length : Int) == (l'.length : Int)) = false := by rw [beq_eq_false_iff_ne]; omega
    go_enter Tryd.func46, Tryd.ntmps46
    go_wp2_with fail
    go_ret
    exact ⟨false, rfl, gr_refl _ _, fun e => absurd (by rw [e]) he⟩

set_option maxRecDepth 100000 in
set_option maxHeartbeats 1000000 in
theorem likeFrameAny (k k' sq sq' : Int) (a a' : Option Addr) (cap cap' : Nat) (l l' : List Int) (w : World) (h : Ints w a l) (h' : Ints w a' l') (hl : l.length ≤ 1000) (hl' : l'.length ≤ 1000) :
    Calls Tryd.prog 19 #[fr k sq a l.length cap, fr k' sq' a' l'.length cap'] w (Tells ((k, sq, l) = (k', sq', l')) w) := by
  have g0 := gr_alloc (World.grownBy_alloc w (Obj.cells #[.int .i64 k, .int .i64 sq, .slice a l.length cap] 37) none) (Obj.cells #[.int .i64 k', .int .i64 sq', .slice a' l'.length cap'] 37)
  have cL := likeIntsAny a a' cap cap' l l' _ (h.kept g0) (h'.kept g0) hl hl'
  by_cases hk : k = k'
  · subst hk
    by_cases hs : sq = sq'
    · subst hs
      go_enter Tryd.func19, Tryd.ntmps19
      go_wp2_with fail
      refine cL.mono ?_
      rintro e w' ⟨v, rfl, hg, hv⟩
      go_wp2_with fail
      go_ret
      exact ⟨v, rfl, gr_trans g0 hg, fun e => hv (by injection e with _ e; injection e)⟩
    · have hs' : (sq == sq') = false := by rw [beq_eq_false_iff_ne]; exact hs
      have hne : Hid ((k, sq, l) ≠ (k, sq', l')) := Lib.hid (fun e => hs (by injection e with _ e; injection e))
      clear hs
      go_enter Tryd.func19, Tryd.ntmps19
      go_wp2_with fail
      go_ret
      exact ⟨false, rfl, g0, fun e => absurd e hne.out⟩
  · have hk' : (k == k') = false := by rw [beq_eq_false_iff_ne]; exact hk
    have hne : Hid ((k, sq, l) ≠ (k', sq', l')) := Lib.hid (fun e => hk (by injection e))
    clear hk
    go_enter Tryd.func19, Tryd.ntmps19
    go_wp2_with fail
    go_ret
    exact ⟨false, rfl, g0, fun e => absurd e hne.out⟩

set_option maxRecDepth 100000 in
set_option maxHeartbeats 1000000 in
theorem likeFrames (a a' : Option Addr) (cap cap' : Nat) (fs fs' : List Fr) (ps ps' : List Pl) (w : World) (h : Frs w a fs ps) (h' : Frs w a' fs' ps') (hl : fs.length ≤ 1000) (hl' : fs'.length ≤ 1000) (hv : ∀ k, k < fs.length → (fv fs k).length ≤ 1000) (hv' : ∀ k, k < fs'.length → (fv fs' k).length ≤ 1000) :
    Calls Tryd.prog 11 #[.slice a fs.length cap, .slice a' fs'.length cap'] w (Tells (fs = fs') w) := by
  by_cases he : fs.length = fs'.length
  · rw [← he]
    have HE := Lib.hid he
    clear he
    go_enter Tryd.func11, Tryd.ntmps11
    go_wp2_with fail
    go_loopw [5] (fun i wr => ∃ k : Nat, k ≤ fs.length ∧ i = .int .i64 k ∧ w.grownBy wr none) (fun i _ => fs.length - (intOf i).toNat)
    case atStart => exact ⟨0, Nat.zero_le _, rfl, gr_refl _ _⟩
    case round =>
      obtain ⟨k, hk, rfl, hg⟩ := hrel
      by_cases hlt : k < fs.length
      · have h6 := hv k hlt
        have hlt' : k < fs'.length := by have := HE.out; omega
        have h6' := hv' k hlt'
        obtain ⟨x, rfl, _, cx, cy, cz, hI⟩ := (h.kept hg) k hlt
        obtain ⟨x', rfl, _, dx, dy, dz, hI'⟩ := (h'.kept hg) k hlt'
        clear hlt'
        have hall : fs = fs' → (fk fs k, fq fs k, fv fs k) = (fk fs' k, fq fs' k, fv fs' k) := fun e => by rw [e]
        have cF := likeFrameAny (fk fs k) (fk fs' k) (fq fs k) (fq fs' k) (pa ps k) (pa ps' k) (pc ps k) (pc ps' k) (fv fs k) (fv fs' k) wr.drew hI hI' h6 h6'
        have HA := Lib.hid hall
        clear hall
        generalize fk fs k = K at *
        generalize fq fs k = Q at *
        generalize fv fs k = V at *
        generalize fk fs' k = K' at *
        generalize fq fs' k = Q' at *
        generalize fv fs' k = V' at *
        go_wp2_with fail
        go_still_tail 8, (by kernel_rfl)
        change wpList _ _ _ _ _ wr.drew
        go_wp2_with fail
        refine cF.mono ?_
        rintro e w1 ⟨v, rfl, hg1, hvv⟩
        cases v
        · have hne : Hid (fs ≠ fs') := Lib.hid (fun e => by have := hvv (HA.out e); cases this)
          clear hvv HA
          go_wp2_with fail
          go_ret
          exact ⟨false, rfl, gr_trans (gr_drewN hg 1) hg1, fun e => absurd e hne.out⟩
        · go_wp2_with fail
          go_roundw
          case rel => exact ⟨k + 1, by omega, by go_num, gr_trans (gr_drewN hg 1) hg1⟩
          case measure => simp [intOf]; omega
      · obtain rfl : k = fs.length := by omega
        go_wp2_with fail
        go_ret
        exact ⟨true, rfl, hg, fun _ => rfl⟩
  · have hb : ((fs.length : Int) == (fs'.length : Int)) = false := by rw [beq_eq_false_iff_ne]; omega
    go_enter Tryd.func11, Tryd.ntmps11
    go_wp2_with fail
    go_ret
    exact ⟨false, rfl, gr_refl _ _, fun e => absurd (by rw [e]) he⟩

theorem rowF_app : ∀ (fs fs' : List Fr) (ps ps' : List Pl), ps.length = fs.length → rowF (fs ++ fs') (ps ++ ps') = rowF fs ps ++ rowF fs' ps' := by
  intro fs
  induction fs with
  | nil => intro fs' ps ps' h; have : ps = [] := List.length_eq_zero_iff.1 h
           subst this; rfl
  | cons x fs ih =>
    intro fs' ps ps' h
    cases ps with
    | nil => simp at h
    | cons y ps =>
      have := ih fs' ps ps' (by simpa using h)
      simp only [List.cons_append, rowF, this]
theorem rowF_one : ∀ (fs : List Fr) (ps : List Pl), ∀ u ∈ rowF fs ps, u.oneCell' = true := by
  intro fs
  induction fs with
  | nil => intro ps u hu; cases ps <;> simp [rowF] at hu
  | cons x fs ih =>
    intro ps u hu
    cases ps with
    | nil => simp [rowF] at hu
    | cons y ps =>
      simp only [rowF, List.mem_cons] at hu
      rcases hu with rfl | rfl | rfl | hu
      · rfl
      · rfl
      · rfl
      · exact ih ps u hu
theorem fk_app (fs fs' : List Fr) (k : Nat) : fv (fs ++ fs') k = if k < fs.length then fv fs k else fv fs' (k - fs.length) := by
  unfold fv
  by_cases h : k < fs.length
  · rw [if_pos h]; simp [List.getD, List.getElem?_append_left h]
  · rw [if_neg h]; simp [List.getD, List.getElem?_append_right (show fs.length ≤ k by omega)]
theorem pa_app (ps ps' : List Pl) (k : Nat) : pa (ps ++ ps') k = if k < ps.length then pa ps k else pa ps' (k - ps.length) := by
  unfold pa
  by_cases h : k < ps.length
  · rw [if_pos h]; simp [List.getD, List.getElem?_append_left h]
  · rw [if_neg h]; simp [List.getD, List.getElem?_append_right (show ps.length ≤ k by omega)]
/-- What a row of cells reads as. -/
theorem frs_of {base m cap : Nat} {w : World} {a : Option Addr} {fs : List Fr} {ps : List Pl} (hl : ps.length = fs.length) (hr : w.ownsRow base 37 3 (.slice a m cap) fs.length (rowF fs ps)) (hv : ∀ k, k < fs.length → Ints w (pa ps k) (fv fs k)) : Frs w a fs ps := by
  intro k hk
  rcases hr.2 with ⟨_, hn⟩ | ⟨g, cap', cur, hv', _, hc, _⟩
  · omega
  · injection hv' with hv1 hv2 hv3
    subst hv1
    obtain ⟨h0, h1, h2⟩ := rowF_at fs ps k hl hk
    rw [hv2] at hr
    refine ⟨_, rfl, Has.lt hc, ?_, ?_, ?_, hv k hk⟩
    · rw [add0, hr.cellAt (k * 3) (by omega)]; exact h0
    · rw [add0]; show w.cell? ⟨g, k * 3 + 1, none⟩ = _; rw [hr.cellAt (k * 3 + 1) (by omega)]; exact h1
    · rw [add0]; show w.cell? ⟨g, k * 3 + 2, none⟩ = _; rw [hr.cellAt (k * 3 + 2) (by omega)]; exact h2

/-- 'append(a, b...)': both lists, one behind the other. -/
theorem wpList_cat {w : World} {ops : Array Oper} {rest : List Oper} {o : Oper} {a : Act} {Q : Exit → Act → World → Prop} (hgd : o.guard = none) (s x : Operand)
    (ho : o.op = .call { callee := .builtin .append, args := #[s, x], argTypes := #[25, 25] })
    {base base' : Nat} {va vb : Value} {fs fs' : List Fr} {ps ps' : List Pl} (hs : a.eval s = va) (hx : a.eval x = vb) (LA : Lst base w va fs ps) (LB : Lst base' w vb fs' ps') (hb : base ≤ w.heap.size)
    (hoff : ∀ k b, k < fs'.length → blkV (pa ps' k) (fv fs' k) b → va.ownBlock ≠ some b) (hl : fs.length + fs'.length ≤ 1000)
    (h : ∀ a' cap' w', Frs w' a' (fs ++ fs') (ps ++ ps') → Chg (fun b => va.ownBlock = some b) w w' → wpList Tryd.prog ops Q rest (a.put o.dst (.slice a' (fs ++ fs').length cap')) w') : wpList Tryd.prog ops Q (o :: rest) a w := by
  obtain ⟨i0, hi, hz0, hz1, hz2⟩ := info_parts infoFrame
  rcases LB.row.2 with ⟨e, hn⟩ | ⟨g, cb, cur, e, _⟩
  · have hn' : fs' = [] := List.length_eq_zero_iff.1 hn
    have hp' : ps' = [] := List.length_eq_zero_iff.1 (by rw [LB.len, hn])
    subst hn' hp'
    obtain ⟨a', cap', e'⟩ := LA.form
    refine wpList_append_own_none hgd s x 25 ho base 37 i0 3 Tryd.underlying25 hi va _ _ hs LA.row (hx.trans e) ?_
    subst e'
    have := h a' cap' w (by rw [List.append_nil, List.append_nil]; exact LA.frs) (Chg.refl _ _)
    rw [List.append_nil] at this
    exact this
  · refine wpList_plain hgd fun K hK => ?_
    obtain ⟨v', w', hrun, h2, h3, h4, h5⟩ := run_append_own_at (P := Tryd.prog) w base 25 o.type 37 i0 _ 3 40 Tryd.underlying25 hi hz0 hz1 hz2 rfl (by omega) va fs.length (rowF fs ps) LA.row ⟨g, 0, none⟩ fs'.length cb (rowF fs' ps') LB.row.1
      (LB.row.cells (by rw [e]; rfl)) (rowF_one _ _) (by unfold maxLen; omega) (by omega) hb
    have hlen : (fs ++ fs').length = fs.length + fs'.length := by simp
    have hpl : (ps ++ ps').length = (fs ++ fs').length := by simp [LA.len, LB.len]
    rw [← rowF_app fs fs' ps ps' LA.len, ← hlen] at h2
    have hc : Chg (fun b => va.ownBlock = some b) w w' := chg_of_gr h3 (fun b e => e.symm)
    have hvv : ∀ k, k < (fs ++ fs').length → Ints w' (pa (ps ++ ps') k) (fv (fs ++ fs') k) := fun k hk => by
      rw [fk_app, pa_app, LA.len]
      by_cases hlt : k < fs.length
      · rw [if_pos hlt, if_pos hlt]
        exact hc.ints (LA.vals k hlt) (fun y ey hl hS => (LA.off k y.block hlt ⟨fun e => by rw [e] at hl; simp at hl, y, ey, rfl⟩).2 hS)
      · rw [if_neg hlt, if_neg hlt]
        have hk' : k - fs.length < fs'.length := by rw [hlen] at hk; omega
        exact hc.ints (LB.vals _ hk') (fun y ey hl hS => hoff _ y.block hk' ⟨fun e => by rw [e] at hl; simp at hl, y, ey, rfl⟩ hS)
    obtain ⟨a', cap', e'⟩ : ∃ a' cap', v' = .slice a' (fs ++ fs').length cap' := by
      rcases h2.2 with ⟨e1, e2⟩ | ⟨g', cap', _, e1, _⟩
      · exact ⟨none, 0, by rw [e1, e2]⟩
      · exact ⟨_, _, e1⟩
    subst e'
    have hk := h a' cap' w' (frs_of hpl h2 hvv) hc
    have hx' := hx.trans e
    unfold Oper.wp execOp
    simp only [ho, resolve, invoke, builtin, Sem.run_bind, Sem.run_pure, Result.andThen_ok, List.map_toArray, List.map_cons, List.map_nil, hs, hx', hrun]
    exact hK _ _ hk
end Go.Proofs.YtfobbjimcmjfkaaDoor.stm
