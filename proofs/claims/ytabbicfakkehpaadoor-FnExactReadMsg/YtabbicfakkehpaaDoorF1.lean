/- The fields of a kind, on both sides. -/
import Derived.Test.YtabbicfakkehpaaDoorF0
import Derived.Test.YtabbicfakkehpaaDoorA1
namespace Go.Proofs.YtabbicfakkehpaaDoor
open Go.RowKit
set_option linter.unusedVariables false
def fld (k : Int) : List Int := if k = 1 then [1, 2, 3, 4] else if k = 2 then [1, 2, 4] else if k = 3 ∨ k = 7 then [1, 4] else if k = 5 then [1, 5] else if k = 8 then [1] else []
theorem fld_big (k : Int) : (fld k).length ≤ 4 := by
  unfold fld; repeat' split
  all_goals simp
def kdB (k : Int) : Bool := inB k 1 8
def fldL (k : Int) : List Int := if kdB k = true then fld k else []
theorem fldL_big (k : Int) : (fldL k).length ≤ 1048576 := by
  unfold fldL; split
  · have := fld_big k; omega
  · simp
theorem fldL_eq (k : Int) : fldL k = fld k := by
  unfold fldL
  split
  · rfl
  · rename_i h
    have := inB_false (Bool.eq_false_iff.2 h)
    unfold fld
    rw [if_neg (by omega), if_neg (by omega), if_neg (by omega), if_neg (by omega), if_neg (by omega)]
theorem isKind_any (k : Int) (w : World) : Calls Tryd.prog 40 #[.int .i64 k] w fun e w' => e = .returned (.bool (kdB k)) ∧ w' = w := by
  by_cases h1 : 1 ≤ k
  · by_cases h2 : k ≤ 8
    · have hv : Hid (kdB k = true) := inB_yes h1 h2
      go_enter Tryd.func40, Tryd.ntmps40
      go_wp2
      go_ret
      exact ⟨ret_bool hv.out.symm, rfl⟩
    · have hv : Hid (kdB k = false) := inB_no (by omega)
      go_enter Tryd.func40, Tryd.ntmps40
      go_wp2
      go_ret
      exact ⟨ret_bool hv.out.symm, rfl⟩
  · have hv : Hid (kdB k = false) := inB_no (by omega)
    go_enter Tryd.func40, Tryd.ntmps40
    go_wp2
    go_ret
    exact ⟨ret_bool hv.out.symm, rfl⟩
theorem ownLs_lit {w w' : World} {l : List Int} {n : Nat} {cs : Array Value} {a : Option Addr} (hc : cs = zv l) (hw : w' = w.alloc (.cells cs 3)) (hn : l.length = n) (ha : a = some ⟨w.heap.size, 0, none⟩) : OwnLs w.heap.size w'.heap.size w' a n l ∧ Below w.heap.size w w' := by
  subst hc; subst hw; subst ha
  refine ⟨⟨hn, .inr ⟨_, rfl, by simp, Nat.le_refl _, _, heap_alloc_new _ _, ?_⟩⟩, (Below.refl _ _).alloc (Nat.le_refl _) _⟩
  rw [List.take_of_length_le (by simp [zv])]; simp [zv]
def FldR (w : World) (l : List Int) (e : Ending) (w' : World) : Prop := ∃ a n c, e = .returned (.slice a n c) ∧ l.length = n ∧ n ≤ c ∧ OwnLs w.heap.size w'.heap.size w' a n l ∧ Below w.heap.size w w'
theorem fldR_lit {w w' : World} {l : List Int} {n : Nat} {cs : Array Value} {a : Option Addr} (hc : cs = zv l) (hw : w' = w.alloc (.cells cs 3)) (hn : l.length = n) (ha : a = some ⟨w.heap.size, 0, none⟩) : FldR w l (.returned (.slice a n n)) w' :=
  ⟨_, _, _, rfl, hn, Nat.le_refl _, ownLs_lit hc hw hn ha⟩
theorem fldR_nil (w : World) : FldR w [] (.returned (.slice none 0 0)) w := ⟨_, _, _, rfl, rfl, Nat.le_refl _, ⟨rfl, .inl rfl⟩, Below.refl _ _⟩
set_option maxHeartbeats 800000 in
theorem fieldsOf_any (k : Int) (w : World) : Calls Tryd.prog 41 #[.int .i64 k] w (FldR w (fld k)) := by
  by_cases h1 : k = 1
  · have hv : Hid (fld k = [1, 2, 3, 4]) := by subst h1; rfl
    subst h1
    go_enter Tryd.func41, Tryd.ntmps41
    go_wp2
    go_ret
    rw [hv.out]; exact fldR_lit rfl rfl rfl rfl
  by_cases h2 : k = 2
  · have hv : Hid (fld k = [1, 2, 4]) := by subst h2; rfl
    subst h2
    go_enter Tryd.func41, Tryd.ntmps41
    go_wp2
    go_ret
    rw [hv.out]; exact fldR_lit rfl rfl rfl rfl
  by_cases h3 : k = 3
  · have hv : Hid (fld k = [1, 4]) := by subst h3; rfl
    subst h3
    go_enter Tryd.func41, Tryd.ntmps41
    go_wp2
    go_ret
    rw [hv.out]; exact fldR_lit rfl rfl rfl rfl
  by_cases h7 : k = 7
  · have hv : Hid (fld k = [1, 4]) := by subst h7; rfl
    subst h7
    go_enter Tryd.func41, Tryd.ntmps41
    go_wp2
    go_ret
    rw [hv.out]; exact fldR_lit rfl rfl rfl rfl
  by_cases h5 : k = 5
  · have hv : Hid (fld k = [1, 5]) := by subst h5; rfl
    subst h5
    go_enter Tryd.func41, Tryd.ntmps41
    go_wp2
    go_ret
    rw [hv.out]; exact fldR_lit rfl rfl rfl rfl
  by_cases h8 : k = 8
  · have hv : Hid (fld k = [1]) := by subst h8; rfl
    subst h8
    go_enter Tryd.func41, Tryd.ntmps41
    go_wp2
    go_ret
    rw [hv.out]; exact fldR_lit rfl rfl rfl rfl
  have hv : Hid (fld k = []) := by unfold Hid fld; rw [if_neg h1, if_neg h2, if_neg (by omega), if_neg h5, if_neg h8]
  have g1 : (k == 1) = false := beq_eq_false_iff_ne.2 h1
  have g2 : (k == 2) = false := beq_eq_false_iff_ne.2 h2
  have g3 : (k == 3) = false := beq_eq_false_iff_ne.2 h3
  have g7 : (k == 7) = false := beq_eq_false_iff_ne.2 h7
  have g5 : (k == 5) = false := beq_eq_false_iff_ne.2 h5
  have g8 : (k == 8) = false := beq_eq_false_iff_ne.2 h8
  clear h1 h2 h3 h7 h5 h8
  go_enter Tryd.func41, Tryd.ntmps41
  go_wp2
  go_ret
  rw [hv.out]; exact fldR_nil w
set_option maxHeartbeats 800000 in
theorem lfieldsOf_any (k : Int) (w : World) : Calls Tryd.prog 21 #[.int .i64 k] w (FldR w (fld k)) := by
  by_cases h1 : k = 1
  · have hv : Hid (fld k = [1, 2, 3, 4]) := by subst h1; rfl
    subst h1
    go_enter Tryd.func21, Tryd.ntmps21
    go_wp2
    go_ret
    rw [hv.out]; exact fldR_lit rfl rfl rfl rfl
  by_cases h2 : k = 2
  · have hv : Hid (fld k = [1, 2, 4]) := by subst h2; rfl
    subst h2
    go_enter Tryd.func21, Tryd.ntmps21
    go_wp2
    go_ret
    rw [hv.out]; exact fldR_lit rfl rfl rfl rfl
  by_cases h3 : k = 3
  · have hv : Hid (fld k = [1, 4]) := by subst h3; rfl
    subst h3
    go_enter Tryd.func21, Tryd.ntmps21
    go_wp2
    go_ret
    rw [hv.out]; exact fldR_lit rfl rfl rfl rfl
  by_cases h7 : k = 7
  · have hv : Hid (fld k = [1, 4]) := by subst h7; rfl
    subst h7
    go_enter Tryd.func21, Tryd.ntmps21
    go_wp2
    go_ret
    rw [hv.out]; exact fldR_lit rfl rfl rfl rfl
  by_cases h5 : k = 5
  · have hv : Hid (fld k = [1, 5]) := by subst h5; rfl
    subst h5
    go_enter Tryd.func21, Tryd.ntmps21
    go_wp2
    go_ret
    rw [hv.out]; exact fldR_lit rfl rfl rfl rfl
  by_cases h8 : k = 8
  · have hv : Hid (fld k = [1]) := by subst h8; rfl
    subst h8
    go_enter Tryd.func21, Tryd.ntmps21
    go_wp2
    go_ret
    rw [hv.out]; exact fldR_lit rfl rfl rfl rfl
  have hv : Hid (fld k = []) := by unfold Hid fld; rw [if_neg h1, if_neg h2, if_neg (by omega), if_neg h5, if_neg h8]
  have g1 : (k == 1) = false := beq_eq_false_iff_ne.2 h1
  have g2 : (k == 2) = false := beq_eq_false_iff_ne.2 h2
  have g3 : (k == 3) = false := beq_eq_false_iff_ne.2 h3
  have g7 : (k == 7) = false := beq_eq_false_iff_ne.2 h7
  have g5 : (k == 5) = false := beq_eq_false_iff_ne.2 h5
  have g8 : (k == 8) = false := beq_eq_false_iff_ne.2 h8
  clear h1 h2 h3 h7 h5 h8
  go_enter Tryd.func21, Tryd.ntmps21
  go_wp2
  go_ret
  rw [hv.out]; exact fldR_nil w
end Go.Proofs.YtabbicfakkehpaaDoor
