/- GoodMsg of the program: what its helpers answer. -/
import Derived.Test.YtabbicfakkehpaaDoorF6
import Derived.Test.YtabbicfakkehpaaDoorA5
namespace Go.Proofs.YtabbicfakkehpaaDoor
open Go.RowKit
set_option linter.unusedVariables false
set_option linter.unusedSimpArgs false
def vf (x4 x5 x6 x7 f : Int) : Int := if f = 1 then x4 else if f = 2 then x5 else if f = 3 then x6 else x7
def fo (f : Int) : Nat := if f = 1 then 4 else if f = 2 then 5 else if f = 3 then 6 else 7
def mo (b d f : Int) : Int := if f = 3 then b / d else if f = 4 then 1000 else sz b - 1
theorem vf_cell (x0 x1 x2 x3 x4 x5 x6 x7 f : Int) (s : Value) : (#[.int .i64 x0, .int .i64 x1, .int .i64 x2, .int .i64 x3, .int .i64 x4, .int .i64 x5, .int .i64 x6, .int .i64 x7, s] : Array Value)[fo f]? = some (.int .i64 (vf x4 x5 x6 x7 f)) := by
  unfold fo vf
  by_cases h1 : f = 1
  · simp [h1]
  by_cases h2 : f = 2
  · simp [h2]
  by_cases h3 : f = 3
  · simp [h3]
  · simp [h1, h2, h3]
set_option maxHeartbeats 800000 in
theorem numberAt_any (g : Nat) (f : Int) (w : World) :
    Calls Tryd.prog 46 #[.pointer (some ⟨g, 0, none⟩), .int .i64 f] w fun e w' => e = .returned (.pointer (some ⟨g, fo f, none⟩)) ∧ w' = w := by
  by_cases h1 : f = 1
  · have hv : Hid (fo f = 4) := by subst h1; rfl
    rw [hv.out]
    subst h1
    go_enter Tryd.func46, Tryd.ntmps46
    go_wp2
    go_ret
    exact ⟨rfl, rfl⟩
  by_cases h2 : f = 2
  · have hv : Hid (fo f = 5) := by subst h2; rfl
    rw [hv.out]
    subst h2
    go_enter Tryd.func46, Tryd.ntmps46
    go_wp2
    go_ret
    exact ⟨rfl, rfl⟩
  by_cases h3 : f = 3
  · have hv : Hid (fo f = 6) := by subst h3; rfl
    rw [hv.out]
    subst h3
    go_enter Tryd.func46, Tryd.ntmps46
    go_wp2
    go_ret
    exact ⟨rfl, rfl⟩
  have hv : Hid (fo f = 7) := by unfold Hid fo; rw [if_neg h1, if_neg h2, if_neg h3]
  have g1 : (f == 1) = false := beq_eq_false_iff_ne.2 h1
  have g2 : (f == 2) = false := beq_eq_false_iff_ne.2 h2
  have g3 : (f == 3) = false := beq_eq_false_iff_ne.2 h3
  clear h1 h2 h3
  rw [hv.out]
  go_enter Tryd.func46, Tryd.ntmps46
  go_wp2
  go_ret
  exact ⟨rfl, rfl⟩
set_option maxHeartbeats 800000 in
theorem mostOf_any (b d f : Int) (w : World) (hg : gsB b d = true) :
    Calls Tryd.prog 45 #[.agg #[.int .i64 b, .int .i64 d], .int .i64 f] w fun e w' => e = .returned (.int .i64 (mo b d f)) ∧ Below w.heap.size w w' := by
  obtain ⟨hb1, hb2, hd1, hd2, _⟩ := gsB_true hg
  obtain ⟨hs1, hs2⟩ := sz_bd hb1 hb2
  by_cases h3 : f = 3
  · have hv : Hid (mo b d f = b / d) := by subst h3; rfl
    subst h3
    go_enter Tryd.func45, Tryd.ntmps45
    go_wp2_with (go_at_call 50; refine (count_any _ _ _ hb1 hb2 hd1 hd2).mono ?_; rintro e w1 ⟨rfl, hw1⟩)
    go_ret
    exact ⟨ret_int hv.out.symm, bel1 hw1 (by simp)⟩
  by_cases h4 : f = 4
  · have hv : Hid (mo b d f = 1000) := by subst h4; rfl
    subst h4
    go_enter Tryd.func45, Tryd.ntmps45
    go_wp2
    go_ret
    exact ⟨ret_int hv.out.symm, (Below.refl _ _).alloc (Nat.le_refl _) _⟩
  have hv : Hid (mo b d f = sz b - 1) := by unfold Hid mo; rw [if_neg h3, if_neg h4]
  have g3 : (f == 3) = false := beq_eq_false_iff_ne.2 h3
  have g4 : (f == 4) = false := beq_eq_false_iff_ne.2 h4
  clear h3 h4
  go_enter Tryd.func45, Tryd.ntmps45
  go_wp2_with (go_at_call 43; refine (size_any _ _ _ hb1 hb2).mono ?_; rintro e w1 ⟨rfl, hw1⟩)
  go_ret
  exact ⟨ret_int hv.out.symm, bel1 hw1 (by simp)⟩
def toldB (b : Int) (l : List Int) : Bool := decide (l.length ≤ 4) && allB l 0 (sz b - 1)
theorem hasB_take {F : List Int} {j : Nat} (hj : j < F.length) (g : Int) : hasB (F.take (j + 1)) g = (hasB (F.take j) g || decide (F.getD j 0 = g)) := by
  unfold hasB
  rw [Bool.eq_iff_iff]
  simp only [Bool.or_eq_true, decide_eq_true_eq, List.length_take]
  have e : ∀ i n, i < n → i < F.length → (F.take n).getD i 0 = F.getD i 0 := fun i n h1 h2 => by
    simp [List.getD_eq_getElem?_getD, List.getElem?_take_of_lt h1]
  constructor
  · rintro ⟨i, hi, h⟩
    by_cases hij : i = j
    · subst hij; right; rw [← e i (i + 1) (by omega) hj]; exact h
    · left; exact ⟨i, by omega, by rw [e i j (by omega) (by omega)]; rw [e i (j + 1) (by omega) (by omega)] at h; exact h⟩
  · rintro (⟨i, hi, h⟩ | h)
    · exact ⟨i, by omega, by rw [e i (j + 1) (by omega) (by omega)]; rw [e i j (by omega) (by omega)] at h; exact h⟩
    · exact ⟨j, by omega, by rw [e j (j + 1) (by omega) hj]; exact h⟩
theorem hasB_nil (g : Int) : hasB [] g = false := decide_eq_false (fun ⟨i, h, _⟩ => by simp at h)
def pv (F : List Int) (j : Nat) (f x : Int) : Int := if hasB (F.take j) f = true then x else 0
def pS (F : List Int) (j : Nat) (s : Value) : Value := if hasB (F.take j) 5 = true then s else .slice none 0 0
def pC (F : List Int) (j : Nat) (x0 x1 x2 x3 x4 x5 x6 x7 : Int) (s : Value) : Array Value := #[.int .i64 x0, .int .i64 x1, .int .i64 x2, .int .i64 x3, .int .i64 (pv F j 1 x4), .int .i64 (pv F j 2 x5), .int .i64 (pv F j 3 x6), .int .i64 (pv F j 4 x7), pS F j s]
theorem pv_no {F : List Int} {j : Nat} (hj : j < F.length) {f : Int} (h : ¬ F.getD j 0 = f) (x : Int) : pv F (j + 1) f x = pv F j f x := by unfold pv; rw [hasB_take hj, decide_eq_false h, Bool.or_false]
theorem pv_yes {F : List Int} {j : Nat} (hj : j < F.length) {f : Int} (h : F.getD j 0 = f) (x : Int) : pv F (j + 1) f x = x := by unfold pv; rw [hasB_take hj, decide_eq_true h, Bool.or_true]; rfl
theorem pS_no {F : List Int} {j : Nat} (hj : j < F.length) (h : ¬ F.getD j 0 = 5) (x : Value) : pS F (j + 1) x = pS F j x := by unfold pS; rw [hasB_take hj, decide_eq_false h, Bool.or_false]
theorem pS_yes {F : List Int} {j : Nat} (hj : j < F.length) (h : F.getD j 0 = 5) (x : Value) : pS F (j + 1) x = x := by unfold pS; rw [hasB_take hj, decide_eq_true h, Bool.or_true]; rfl
theorem pC_zero (F : List Int) (x0 x1 x2 x3 x4 x5 x6 x7 : Int) (s : Value) : pC F 0 x0 x1 x2 x3 x4 x5 x6 x7 s = #[.int .i64 x0, .int .i64 x1, .int .i64 x2, .int .i64 x3, .int .i64 0, .int .i64 0, .int .i64 0, .int .i64 0, .slice none 0 0] := by
  unfold pC pv pS
  simp [hasB_nil]
theorem pC_step {F : List Int} {j : Nat} (hj : j < F.length) (x0 x1 x2 x3 x4 x5 x6 x7 : Int) (s : Value) (h1 : 1 ≤ F.getD j 0) (h2 : F.getD j 0 ≤ 5) (h5 : ¬ F.getD j 0 = 5) :
    (pC F j x0 x1 x2 x3 x4 x5 x6 x7 s).setIfInBounds (fo (F.getD j 0)) (.int .i64 (vf x4 x5 x6 x7 (F.getD j 0))) = pC F (j + 1) x0 x1 x2 x3 x4 x5 x6 x7 s := by
  have : F.getD j 0 = 1 ∨ F.getD j 0 = 2 ∨ F.getD j 0 = 3 ∨ F.getD j 0 = 4 := by omega
  unfold pC
  rcases this with h | h | h | h
  · rw [pv_yes hj h, pv_no hj (f := 2) (by omega), pv_no hj (f := 3) (by omega), pv_no hj (f := 4) (by omega), pS_no hj h5, h]; rfl
  · rw [pv_no hj (f := 1) (by omega), pv_yes hj h, pv_no hj (f := 3) (by omega), pv_no hj (f := 4) (by omega), pS_no hj h5, h]; rfl
  · rw [pv_no hj (f := 1) (by omega), pv_no hj (f := 2) (by omega), pv_yes hj h, pv_no hj (f := 4) (by omega), pS_no hj h5, h]; rfl
  · rw [pv_no hj (f := 1) (by omega), pv_no hj (f := 2) (by omega), pv_no hj (f := 3) (by omega), pv_yes hj h, pS_no hj h5, h]; rfl
theorem pC_list {F : List Int} {j : Nat} (hj : j < F.length) (x0 x1 x2 x3 x4 x5 x6 x7 : Int) (s : Value) (h5 : F.getD j 0 = 5) :
    (pC F j x0 x1 x2 x3 x4 x5 x6 x7 s).setIfInBounds 8 s = pC F (j + 1) x0 x1 x2 x3 x4 x5 x6 x7 s := by
  unfold pC
  rw [pv_no hj (f := 1) (by omega), pv_no hj (f := 2) (by omega), pv_no hj (f := 3) (by omega), pv_no hj (f := 4) (by omega), pS_yes hj h5]; rfl
theorem fld_mem (k : Int) (j : Nat) (hj : j < (fld k).length) : 1 ≤ (fld k).getD j 0 ∧ (fld k).getD j 0 ≤ 5 := by
  revert hj
  unfold fld
  repeat' split
  all_goals (intro hj; simp at hj)
  all_goals (have hj4 : j = 0 ∨ j = 1 ∨ j = 2 ∨ j = 3 := by omega)
  all_goals (rcases hj4 with rfl | rfl | rfl | rfl)
  all_goals (first | omega | simp)
end Go.Proofs.YtabbicfakkehpaaDoor
