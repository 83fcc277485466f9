/- AgedAll, the model's and the program's. -/
import Derived.Test.YtnkimjmpjnhlnaaDoorRdLst
namespace Go.Proofs.YtnkimjmpjnhlnaaDoor.rd
open Go.ChangeShapes Go.WideShapes Go.ChangeAt Go.RowKit
open Go.Proofs.YtnkimjmpjnhlnaaDoor.nums Go.Proofs.YtnkimjmpjnhlnaaDoor.mem
open Go.Proofs.YtnkimjmpjnhlnaaDoor.tab (Ret quiet_w wpList_make_has add_off)
set_option linter.unusedVariables false

def agedAll (l : List R) : List R := if l.all okR = true then l.map ageR else []
theorem agedAll_ok {l : List R} (h : l.all okR = true) : agedAll l = l.map ageR := if_pos h
theorem agedAll_no {l : List R} (h : l.all okR = false) : agedAll l = [] := if_neg (by rw [h]; simp)
theorem all_at {l : List R} (h : l.all okR = true) {k : Nat} (hk : k < l.length) : okR (rx l k, ra l k, ro l k) = true := by
  rw [← rr, getD_lt hk]
  exact List.all_eq_true.1 h _ (List.getElem_mem _)
theorem all_no {l : List R} {k : Nat} (hk : k < l.length) (h : okR (rx l k, ra l k, ro l k) = false) : l.all okR = false := by
  cases ha : l.all okR with
  | false => rfl
  | true => rw [all_at ha hk] at h; cases h
theorem all_yes {l : List R} (h : ∀ k, k < l.length → okR (rx l k, ra l k, ro l k) = true) : l.all okR = true := by
  rw [List.all_eq_true]
  intro r hr
  obtain ⟨k, hk, rfl⟩ := List.getElem_of_mem hr
  have := h k hk
  rwa [← rr, getD_lt hk] at this

theorem specRight (a : Option Addr) (cap : Nat) (l : List R) (w : World) (h : Arg w a l) (hl : l.length ≤ 1048576) : Calls Tryd.prog 44 #[.slice a l.length cap] w (Ret (.bool (l.all okR)) w) := by
  go_enter Tryd.func44, Tryd.ntmps44
  go_wp2_with fail
  go_loopw [3] (fun i wr => ∃ k : Nat, k ≤ l.length ∧ i = .int .i64 k ∧ Hid (∀ j, j < k → okR (rx l j, ra l j, ro l j) = true) ∧ w.grownBy wr none) (fun i _ => l.length - (intOf i).toNat)
  case atStart => exact ⟨0, Nat.zero_le _, rfl, Lib.hid (fun j hj => by omega), gr_refl _ _⟩
  case round =>
    obtain ⟨k, hk, rfl, hr, hg⟩ := hrel
    by_cases hlt : k < l.length
    · obtain ⟨x, rfl, hb, cx, cy, cz⟩ := (h.kept hg) k hlt
      by_cases ho : okR (rx l k, ra l k, ro l k) = true
      · go_wp2_with fail
        refine (specReadingOk _ _ _ _).mono ?_
        rintro e w1 ⟨rfl, hg1⟩
        have HO := Lib.hid ho
        go_wp2_with fail
        go_roundw
        case rel => exact ⟨k + 1, by omega, by go_num, Lib.hid (fun j hj => by
          by_cases e : j = k
          · subst e; exact HO.out
          · exact hr.out j (by omega)), gr_trans hg hg1⟩
        case measure => simp [intOf]; omega
      · have ho' : okR (rx l k, ra l k, ro l k) = false := by simpa using ho
        clear ho
        have HA := Lib.hid (all_no hlt ho')
        go_wp2_with fail
        refine (specReadingOk _ _ _ _).mono ?_
        rintro e w1 ⟨rfl, hg1⟩
        go_wp2_with fail
        go_ret
        exact ⟨fix.ret_bool HA.out.symm, gr_trans hg hg1⟩
    · obtain rfl : k = l.length := by omega
      have HA := Lib.hid (all_yes hr.out)
      go_wp2_with fail
      go_ret
      exact ⟨fix.ret_bool HA.out.symm, hg⟩

/-- A list comes back that can be read: of what was there nothing is another. -/
def RetL (l : List R) (w : World) (e : Ending) (w' : World) : Prop := ∃ a cap, e = .returned (.slice a l.length cap) ∧ w.grownBy w' none ∧ Arg w' a l

theorem map_take_snoc {l : List R} {k : Nat} (h : k < l.length) : (l.map ageR).take (k + 1) = (l.map ageR).take k ++ [ageR (rx l k, ra l k, ro l k)] := by
  have hk : k < (l.map ageR).length := by simpa using h
  rw [List.take_succ_eq_append_getElem hk, List.getElem_map, ← rr, getD_lt h]

theorem map_age {l : List R} {k : Nat} (h : k < l.length) : (l.map ageR).getD k zR = (rx l k, min 1000 (ra l k + 1), ro l k) := by rw [rx_map h, ageR]

end Go.Proofs.YtnkimjmpjnhlnaaDoor.rd
