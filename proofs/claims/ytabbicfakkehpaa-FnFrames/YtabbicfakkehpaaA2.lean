/- The contracts of the functions on arcs, in the program and in its specification. -/
import Derived.Test.YtabbicfakkehpaaA1
namespace Go.Proofs.Ytabbicfakkehpaa
open Go.RowKit
set_option linter.unusedVariables false

set_option maxHeartbeats 400000 in
theorem isNumber_any (b d x : Int) (w : World) :
    Calls Try.prog 53 #[.agg #[.int .i64 b, .int .i64 d], .int .i64 x] w fun e w' => e = .returned (.bool (numB b d x)) ∧ Below w.heap.size w w' := by
  cases hg : gsB b d
  · rw [numB_no hg]
    go_enter Try.func53, Try.ntmps53
    go_wp2_with (go_at_call 51; refine (good_any _ _ _).mono ?_; rintro e w1 ⟨rfl, hw1⟩)
    go_ret
    exact ⟨rfl, ((Below.refl _ _).alloc (Nat.le_refl _) _).trans (hw1.mono (by simp))⟩
  · obtain ⟨hb1, hb2, _, _, _⟩ := gsB_true hg
    obtain ⟨hs1, hs2⟩ := sz_bd hb1 hb2
    by_cases h1 : 0 ≤ x
    · by_cases h2 : x < sz b
      · rw [numB_yes hg h1 h2]
        go_enter Try.func53, Try.ntmps53
        go_wp2_with (first | (go_at_call 51; refine (good_any _ _ _).mono ?_; rintro e w1 ⟨rfl, hw1⟩; have hc := bcell hw1) | (go_at_call 69; refine (size_any _ _ _ hb1 hb2).mono ?_; rintro e w2 ⟨rfl, hw2⟩))
        go_ret
        exact ⟨rfl, (((Below.refl _ _).alloc (Nat.le_refl _) _).trans (hw1.mono (by simp))).trans (hw2.mono (by have := hw1.size; simp at this; omega))⟩
      · rw [numB_out (by omega)]
        go_enter Try.func53, Try.ntmps53
        go_wp2_with (first | (go_at_call 51; refine (good_any _ _ _).mono ?_; rintro e w1 ⟨rfl, hw1⟩; have hc := bcell hw1) | (go_at_call 69; refine (size_any _ _ _ hb1 hb2).mono ?_; rintro e w2 ⟨rfl, hw2⟩))
        go_ret
        exact ⟨ret_bool (decide_eq_false (by omega)), (((Below.refl _ _).alloc (Nat.le_refl _) _).trans (hw1.mono (by simp))).trans (hw2.mono (by have := hw1.size; simp at this; omega))⟩
    · rw [numB_out (by omega)]
      go_enter Try.func53, Try.ntmps53
      go_wp2_with (go_at_call 51; refine (good_any _ _ _).mono ?_; rintro e w1 ⟨rfl, hw1⟩)
      go_ret
      exact ⟨rfl, ((Below.refl _ _).alloc (Nat.le_refl _) _).trans (hw1.mono (by simp))⟩

end Go.Proofs.Ytabbicfakkehpaa
