/- FramesIn of the program. -/
import Derived.Test.YtfobbjimcmjfkaaDoorStWith
namespace Go.Proofs.YtfobbjimcmjfkaaDoor.stm
open Go.ChangeShapes Go.WideShapes Go.ChangeAt Go.RowKit Go.Shelf
open Go.Proofs.YtfobbjimcmjfkaaDoor.nums Go.Proofs.YtfobbjimcmjfkaaDoor.mem Go.Proofs.YtfobbjimcmjfkaaDoor.txt Go.Proofs.YtfobbjimcmjfkaaDoor.fix Go.Proofs.YtfobbjimcmjfkaaDoor.frm
open Go.Proofs.YtfobbjimcmjfkaaDoor.tab (Ret quiet_w wpList_make_has add_off)
set_option linter.unusedVariables false
attribute [local go_sem] Oper.semAt_some

abbrev listT : TypeId := 54

/-- What holds between the rounds: the box Bf holds the list of what was told. -/
def Inv (rd : List UInt8 → Option Fr) (w : World) (Bf B : Nat) (pre : List Piece) (W : World) : Prop := ∃ (a : Option Addr) (cap : Nat) (ps : List Pl), Boxed W Bf listT (.slice a (told rd (pre.map (·.1))).length cap) ∧
  Lst B W (.slice a (told rd (pre.map (·.1))).length cap) (told rd (pre.map (·.1))) ps ∧ Deep W (told rd (pre.map (·.1))) ps ∧ Below w.heap.size w W ∧ B ≤ W.heap.size
theorem Inv.chg {rd : List UInt8 → Option Fr} {w : World} {Bf B : Nat} {pre : List Piece} {W W' : World} {S : Nat → Prop} (h : Inv rd w Bf B pre W) (hc : Chg S W W') (h1 : ¬ S Bf) (h2 : ∀ b t cs, Has W b t cs → B ≤ b → ¬ S b) (h3 : ∀ b, b < w.heap.size → ¬ S b) : Inv rd w Bf B pre W' := by
  obtain ⟨a, cap, ps, hb, L, D, hB, hs⟩ := h
  have hown : ∀ b, (Value.slice a (told rd (pre.map (·.1))).length cap).ownBlock = some b → ¬ S b := fun b e => by
    rcases L.row.2 with ⟨hv, _⟩ | ⟨g, cap', cur, hv, hbg, hcur, _⟩
    · rw [hv] at e; cases e
    · rw [hv] at e
      injection e with e
      subst e
      exact h2 g _ _ hcur hbg
  have hval : ∀ k b, k < (told rd (pre.map (·.1))).length → blkV (pa ps k) (fv (told rd (pre.map (·.1))) k) b → ¬ S b := fun k b hk hbb => by
    have hge := (L.off k b hk hbb).1
    have ho := D.own k hk
    obtain ⟨hne, x, ex, rfl⟩ := hbb
    obtain ⟨g, o, cs, e, hcs, _⟩ := ho.resolve_left hne
    rw [ex] at e
    injection e with e
    subst e
    exact h2 _ _ _ hcs hge
  exact ⟨a, cap, ps, hc.has hb h1, L.chg hc hown hval, D.chg hc hval, hB.trans ⟨hc.os, hc.tape, hc.output, hc.size, fun k hk => hc.block k (Nat.lt_of_lt_of_le hk hB.size) (h3 k hk)⟩, Nat.le_trans hs hc.size⟩

theorem keeps_chg {S : Nat → Prop} {W W' : World} (h : Chg S W W') (hc : ∀ b o, S b → W.heap[b]? = some o → o.isCells = true) : KeepsOthers W W' :=
  ⟨h.size, fun k o hk ho => by
    by_cases hs : S k
    · rw [hc k o hs hk] at ho; cases ho
    · exact (h.block k (Array.getElem?_eq_some_iff.1 hk).1 hs).trans hk⟩
theorem row_cells {base n : Nat} {W : World} {v : Value} {xs : List Value} {b : Nat} {o : Obj} (h : W.ownsRow base 37 3 v n xs) (hv : v.ownBlock = some b) (ho : W.heap[b]? = some o) : o.isCells = true := by
  rcases h.2 with ⟨e, _⟩ | ⟨g, cap, cur, e, _, hc, _⟩
  · rw [e] at hv; cases hv
  · rw [e] at hv
    injection hv with hv
    have hv' : g = b := hv
    subst hv'
    rw [hc] at ho
    injection ho with ho
    rw [← ho]; rfl
theorem told_more (rd : List UInt8 → Option Fr) (pre : List Piece) (x : Piece) : told rd ((pre ++ [x]).map (·.1)) = push (told rd (pre.map (·.1))) (rd x.1) := by
  rw [List.map_append, List.map_cons, List.map_nil, told_snoc]
theorem told_le (rd : List UInt8 → Option Fr) (xs : List (List UInt8)) : (told rd xs).length ≤ 50 := by
  have : ∀ (xs : List (List UInt8)) (o : List Fr), o.length ≤ 50 → (xs.foldl (fun o x => push o (rd x)) o).length ≤ 50 := by
    intro xs
    induction xs with
    | nil => intro o h; exact h
    | cons x xs ih => intro o h; rw [List.foldl_cons]; exact ih _ (push_len h)
  exact this xs [] (by simp)

set_option maxRecDepth 100000 in
set_option maxHeartbeats 4000000 in
theorem implIn_in (rd : List UInt8 → Option Fr) (hrd : ∀ s, IsRead s (rd s)) (F : Fence) (n : Nat) (hro : F.round = none) (hF : Hid (F = Fence.wide)) (hn : 3 ≤ n) (f1 : F.fn 9) (f2 : F.fn 33) (f3 : F.fn 58) (f4 : F.fn 59) (f5 : F.fn 34) (f6 : F.fn 35) (f7 : F.fn 36)
    (hLe : ∀ (l : List UInt8) (W : World), l.length ≤ 4000 → Calls Tryd.prog 36 #[str l] W fun e w' => e = .returned (str (rest (run rd l).1)) ∧ w' = W)
    (hIB : ∀ (m : Nat) (r : List UInt8) (W : World), CallsIn F m Tryd.prog 59 #[str r, .int .u8 10] W fun e w' => e = .returned (.int .i64 (Lib.indexByte r 10)) ∧ w' = W)
    (hRF : ∀ (m : Nat) (x : List UInt8) (W : World), x.length ≤ 1048576 → Vals W → Pow W → CallsIn F m Tryd.prog 34 #[str x] W (ReadOut (rd x) W))
    (hWi : ∀ (m base N : Nat) (a : Option Addr) (cap : Nat) (fs : List Fr) (ps : List Pl) (K Q : Int) (V : List Int) (a1 : Option Addr) (c1 : Nat) (W : World), Lst base W (.slice a fs.length cap) fs ps → Deep W fs ps → fs.length ≤ 50 → OwnV W a1 V → base ≤ N → N ≤ W.heap.size → (∀ b, blkV a1 V b → N ≤ b) →
      ((∀ b, (Value.slice a fs.length cap).ownBlock = some b → b < N) ∧ ∀ k b, k < fs.length → blkV (pa ps k) (fv fs k) b → b < N) → CallsIn F m Tryd.prog 35 #[.slice a fs.length cap, fr K Q a1 V.length c1, .int .i64 50] W (WithOut base a cap fs (K, Q, V) W))
    (s : List UInt8) (w : World) (hl : s.length ≤ 4000) (hv : Vals w) (hp : Pow w) :
    CallsIn F n Tryd.prog 9 #[str s] w (InOut (run rd s).2 (rest (run rd s).1) w) := by
  have h1 : 1 ≤ n := by omega
  have hd1 : decide (4000 < (s.length : Int)) = false := by simp; omega
  refine callsIn_of_wp_marks Tryd.func9 rfl f1 ?_ hro
  simp only [Tryd.ntmps9, List.size_toArray, List.length_cons, List.length_nil, Nat.reduceAdd, Nat.reduceSub, Array.replicate_succ, Array.replicate_zero, List.push_toArray, List.append_toArray, List.nil_append, List.cons_append]
  gi_wp2_with fail
  refine (lines_in F _ f2 hro _ _).mono ?_
  rintro e w2 ⟨rfl, rfl⟩
  gi_wp2_with fail
  have bF : Boxed ((w.alloc (.cells #[.slice none 0 0] listT)).alloc (.cells #[str s] 9)) w.heap.size listT (.slice none 0 0) := (Boxed.new w listT (.slice none 0 0)).alloc _
  have bS : Boxed ((w.alloc (.cells #[.slice none 0 0] listT)).alloc (.cells #[str s] 9)) (w.heap.size + 1) 9 (str s) := by have := Boxed.new (w.alloc (.cells #[.slice none 0 0] listT)) 9 (str s); simpa using this
  have hB0 : Below w.heap.size w ((w.alloc (.cells #[.slice none 0 0] listT)).alloc (.cells #[str s] 9)) := below_of_none (gr_alloc (World.grownBy_alloc _ _ _) _)
  have hsz : ((w.alloc (.cells #[.slice none 0 0] listT)).alloc (.cells #[str s] 9)).heap.size = w.heap.size + 2 := by simp
  have hI0 : Inv rd w w.heap.size (w.heap.size + 2) [] ((w.alloc (.cells #[.slice none 0 0] listT)).alloc (.cells #[str s] 9)) := ⟨none, 0, [], bF, Lst.nil _ _, Deep.nil _, hB0, by rw [hsz]; exact Nat.le_refl _⟩
  generalize (w.alloc (.cells #[.slice none 0 0] listT)).alloc (.cells #[str s] 9) = w2 at *
  refine rbox.range hro h1 (gf := 58) (lb := #[.pointer (some ⟨w.heap.size + 1, 0, none⟩)]) rfl f3 (enters_of Tryd.func58 (by kernel_rfl) rfl) (by omega)
    (lines_seq F (n - 1) f3 f4 hro hF (by omega) hIB (w.heap.size + 1) s (by omega) w2 bS) (fun _ => rfl)
    (Inv rd w w.heap.size (w.heap.size + 2)) ?own ?box hI0
    (fun x => { tmps := #[str s, undef, .slice none 0 0, .string ⟨#[]⟩, .pointer (some ⟨w.heap.size, 0, none⟩), str x.1, undef, undef, str s, .int .i64 (s.length : Int), .bool false, str s, .func (.func 58) #[] #[.pointer (some ⟨w.heap.size + 1, 0, none⟩)], str x.1, undef, undef, undef, undef, undef, undef, undef, undef, undef, undef, undef, undef], defers := [] })
    ?assign ?body ?done
  case own =>
    rw [hsz]
    intro q W W' row hs hg hr
    refine hs.chg (chg_of_gr (S := fun b => some b = row) hg (fun b e => e)) (fun e => ?_) (fun b t cs hc hb e => ?_) (fun b hb e => ?_)
    · have := (hr _ e.symm).1; omega
    · obtain ⟨_, o, ho, hc2⟩ := hr _ e.symm
      rw [show W.heap[b]? = _ from hc] at ho
      injection ho with ho
      rw [← ho] at hc2; cases hc2
    · have := (hr _ e.symm).1; omega
  case box =>
    intro q W W' hs hg
    exact hs.chg (chg_of_gr (S := fun b => b = w.heap.size + 1) hg (fun b e => by injection e)) (by omega) (fun b t cs hc hb e => by omega) (fun b hb e => by omega)
  case assign =>
    intro l x W K hK
    gi_wp2
    exact hK
  case body =>
    rintro l pre x W ⟨a, cap, ps, hbx, L, D, hB, hs⟩
    have h1' : 1 ≤ n - 1 - 1 := by omega
    have hVW := hv.kept (gr_of_below hB none)
    have hPW := Pow.kept hp (gr_of_below hB none)
    have cR := hRF
    obtain ⟨r, hr⟩ : ∃ r, rd x.1 = r := ⟨_, rfl⟩
    have hmore := told_more rd pre x
    rw [hr] at hmore
    have cR : ∀ m, CallsIn F m Tryd.prog 34 #[str x.1] W (ReadOut r W) := fun m => hr ▸ hRF m x.1 W x.2 hVW hPW
    have hlow := L.lt
    have h50 := told_le rd (pre.map (·.1))
    replace hmore := Lib.hid hmore
    clear hr hRF hVW hPW
    generalize told rd (pre.map (·.1)) = fs at *
    gi_wp2_with fail
    refine (CallsIn.inRound l (cR _)).mono ?_
    cases r with
    | none =>
      rintro e W1 ⟨g1, rfl⟩
      have g2 := gr_alloc g1 (Obj.cells #[.int .i64 0, .int .i64 0, .slice none 0 0] 37)
      have hT : Chg (fun _ => False) W (W1.alloc (Obj.cells #[.int .i64 0, .int .i64 0, .slice none 0 0] 37)) := chg_of_gr g2 (fun b e => by cases e)
      have hlt := hbx.lt
      gi_wp2_with fail
      refine ⟨(keeps_chg hT (fun b o e => e.elim)).from _, hT.block _ (by omega) id, a, cap, ps, ?_⟩
      rw [hmore.out]
      exact ⟨hT.has hbx id, L.kept g2, D.kept g2, hB.trans ((below_of_none g2).mono hB.size), Nat.le_trans hs hT.size⟩
    | some q =>
      obtain ⟨K, Q, V⟩ := q
      rintro e W1 ⟨g1, a1, c1, rfl, hO1⟩
      have g2 := gr_alloc g1 (Obj.cells #[.int .i64 K, .int .i64 Q, .slice a1 V.length c1] 37)
      have HX := Has.fresh W1 37 #[.int .i64 K, .int .i64 Q, .slice a1 V.length c1]
      have hO2 := hO1.kept (World.grownBy_alloc W1 (Obj.cells #[.int .i64 K, .int .i64 Q, .slice a1 V.length c1] 37) none)
      have L2 := L.kept g2
      have D2 := D.kept g2
      have hb2 : Boxed (W1.alloc (Obj.cells #[.int .i64 K, .int .i64 Q, .slice a1 V.length c1] 37)) w.heap.size listT (.slice a fs.length cap) := hbx.kept g2 (by simp)
      have cW := fun m => hWi m (w.heap.size + 2) W.heap.size a cap fs ps K Q V a1 c1 _ L2 D2 h50 (OwnV.of hO2) hs g2.size (own_ge hO2) hlow
      have cX := three HX
      obtain ⟨x0, x1, x2, _, _, _⟩ := cX
      have cB := hb2.cell
      clear g1 hO1 HX cR hWi
      gi_wp2_with fail
      refine (CallsIn.inRound l (cW _)).mono ?_
      rintro e W3 ⟨a', cap', ps', rfl, L3, D3, hc3⟩
      have hown : ∀ d, (Value.slice a fs.length cap).ownBlock = some d → w.heap.size + 2 ≤ d := fun d e => (L.row.lt d e).1
      have hb3 : Boxed W3 w.heap.size listT (.slice a fs.length cap) := hc3.has hb2 (fun e => by have := hown _ e; omega)
      have cB3 := hb3.cell
      have fB3 := hb3.frozen
      have hT : Chg (fun d => (Value.slice a fs.length cap).ownBlock = some d ∨ d = w.heap.size) W (W3.setCell ⟨w.heap.size, 0, none⟩ (.slice a' (push fs (some (K, Q, V))).length cap')) :=
        (chg_of_gr g2 (fun b e => by cases e)).trans ((hc3.mono (fun d e => Or.inl e)).trans (chg_of_gr (gr_set (gr_refl W3 (some w.heap.size)) 0 _) (fun d e => Or.inr (by injection e))))
      have hset := gr_set (gr_refl W3 (some w.heap.size)) 0 (.slice a' (push fs (some (K, Q, V))).length cap')
      have hnew : Boxed (W3.setCell ⟨w.heap.size, 0, none⟩ (.slice a' (push fs (some (K, Q, V))).length cap')) w.heap.size listT (.slice a' (push fs (some (K, Q, V))).length cap') := hb3.set _
      have hlt := hbx.lt
      clear cB x0 x1 x2 cW
      gi_wp2_with fail
      refine ⟨(keeps_chg hT (fun d o e ho => ?_)).from _, hT.block _ (by omega) (fun e => ?_), a', cap', ps', ?_⟩
      · rcases e with e | e
        · exact row_cells L.row e ho
        · subst e; rw [show W.heap[w.heap.size]? = _ from hbx] at ho; injection ho with ho; rw [← ho]; rfl
      · rcases e with e | e
        · have := hown _ e; omega
        · omega
      · rw [hmore.out]
        refine ⟨hnew, L3.grown hset (fun d e => by injection e with e; omega), D3.chg (chg_of_gr (S := fun d => d = w.heap.size) hset (fun d e => by injection e)) (fun k d hk hd e => by have := (L3.off k d hk hd).1; omega), hB.trans ⟨hT.os, hT.tape, hT.output, hT.size, fun k hk => hT.block k (Nat.lt_of_lt_of_le hk hB.size) (fun e => ?_)⟩, Nat.le_trans hs hT.size⟩
        rcases e with e | e
        · have := hown _ e; omega
        · omega
  case done =>
    rintro DD xs W hD hS ⟨a, cap, ps, hbx, L, D, hB, hs⟩ hK
    rw [hS, told_run hrd] at hbx L D
    have cB := hbx.cell
    have cL := hLe s W.drew hl
    have hmx : Tryd.prog.follows .mixedOrders = true := by kernel_rfl
    gi_wp2_with fail
    refine wide.region_tail hF 4 hmx (by kernel_rfl) ?_
    simp only [List.take_succ_cons, List.take_zero, List.drop_succ_cons, List.drop_zero]
    still_step
    still_step
    still_call cL
    still_step
    refine wpStill_nil ?_
    gi_wp2_with fail
    have hK' : W.drew.heap[DD]? = some (.deferred (some [])) := hK
    refine ⟨by simp, .inl ⟨_, _, rfl, run_takeDeferred hK', ?_⟩⟩
    have hc : Chg (fun d => d = DD) W (W.drew.putObj DD (.deferred none)) := (chg_of_gr (gr_drewN (gr_refl W none) 1) (fun d e => by cases e)).trans (chg_of_gr (grownBy_putObj' W.drew DD (.deferred none)) (fun d e => by injection e))
    have hne : ∀ b t cs, Has W b t cs → b ≠ DD := fun b t cs h e => by
      subst e
      rw [show W.heap[b]? = _ from h] at hK
      cases hK
    have hown : ∀ d, (Value.slice a (run rd s).2.length cap).ownBlock = some d → ¬ d = DD := fun d e e2 => by
      subst e2
      have := row_cells L.row e hK
      cases this
    have hval : ∀ k b, k < (run rd s).2.length → blkV (pa ps k) (fv (run rd s).2 k) b → ¬ b = DD := fun k b hk hbb => by
      have ho := D.own k hk
      obtain ⟨hne2, x, ex, rfl⟩ := hbb
      obtain ⟨g, o, cs, e, hcs, _⟩ := ho.resolve_left hne2
      rw [ex] at e
      injection e with e
      subst e
      exact hne _ _ _ hcs
    obtain ⟨o1, o2⟩ := own_of (L.chg hc hown hval) (D.chg hc hval)
    refine ⟨.tuple #[.slice a (run rd s).2.length cap, str (rest (run rd s).1)], by simp [results, Tryd.f9, go_sem], a, cap, ps, rfl, gr_of_below (hB.trans ⟨hc.os, hc.tape, hc.output, hc.size, fun k hk => hc.block k (Nat.lt_of_lt_of_le hk hB.size) (fun e => by omega)⟩) none, o1, fun b hb => by have := o2 b hb; omega, (L.chg hc hown hval).up (by omega), D.chg hc hval⟩

/-- FramesIn of the program, whatever the text. -/
theorem implIn (rd : List UInt8 → Option Fr) (hrd : ∀ s, IsRead s (rd s)) (s : List UInt8) (w : World) (hl : s.length ≤ 1048576) (hv : Vals w) (hp : Pow w) : Calls Tryd.prog 9 #[str s] w (InOut (frsOf rd s) (rstOf rd s) w) := by
  by_cases hbig : 4000 < s.length
  · have hO : InOut (frsOf rd s) (rstOf rd s) w (.returned (.tuple #[.slice none 0 0, str []])) w := by
      rw [frsOf, rstOf, if_pos hbig, if_pos hbig]
      obtain ⟨h1, h2⟩ := own_of (Lst.nil w.heap.size w) (Deep.nil w)
      exact ⟨none, 0, [], rfl, gr_refl _ _, h1, h2, Lst.nil _ _, Deep.nil _⟩
    have hbig' : decide (4000 < (s.length : Int)) = true := by simp; omega
    replace hO := Lib.hid hO
    clear hrd hv hp
    go_enter Tryd.func9, Tryd.ntmps9
    go_wp2_with fail
    go_ret2
    exact hO.out
  · rw [frsOf, rstOf, if_neg hbig, if_neg hbig]
    refine callsIn_wide.1 (implIn_in rd hrd Fence.wide 3 rfl (Lib.hid rfl) (by omega) trivial trivial trivial trivial trivial trivial trivial (fun l W h => (implLeft rd l W h).mono fun e w' ⟨h1, h2⟩ => ⟨h1, h2.symm⟩) (fun m r W => callsIn_wide.2 ?_) (fun m x W hx hV hP => callsIn_wide.2 (implRead x (rd x) W hx (hrd x) hV hP)) (fun m base N a cap fs ps K Q V a1 c1 W h1 h2 h3 h4 h5 h6 h7 h8 => callsIn_wide.2 (implWith base N a cap fs ps K Q V a1 c1 W h1 h2 h3 h4 h5 h6 h7 h8)) s w (by omega) hv hp)
    have := Tryd.strings_IndexByte (ByteArray.mk r.toArray) 10 W
    exact this
end Go.Proofs.YtfobbjimcmjfkaaDoor.stm
