/- The contracts of the smallest functions of chapter 1, in the program and in its specification: what each answers, and that nothing old has turned. -/
import Derived.Test.YtpgngfdhnoonjaaA0
namespace Go.Proofs.Ytpgngfdhnoonjaa
open Go.RowKit
set_option linter.unusedVariables false

set_option maxHeartbeats 400000 in
theorem good_any (b d : Int) (w : World) :
    Calls Try.prog 56 #[.agg #[.int .i64 b, .int .i64 d]] w fun e w' => e = .returned (.bool (gsB b d)) ∧ Below w.heap.size w w' := by
  by_cases h1 : 1 ≤ b
  · by_cases h2 : b ≤ 12
    · by_cases h3 : 1 ≤ d
      · by_cases h4 : d ≤ b
        · by_cases h5 : b % d = 0
          · rw [gsB_yes h1 h2 h3 h4 h5]
            have H5 : (b % d == 0) = true := by simp [h5]
            clear h5
            go_enter Try.func56, Try.ntmps56
            go_wp2
            go_ret
            exact ⟨rfl, (Below.refl _ _).alloc (Nat.le_refl _) _⟩
          · rw [gsB_no (by omega)]
            have H5 : (b % d == 0) = false := by simp [h5]
            clear h5
            go_enter Try.func56, Try.ntmps56
            go_wp2
            go_ret
            exact ⟨rfl, (Below.refl _ _).alloc (Nat.le_refl _) _⟩
        · rw [gsB_no (by omega)]
          go_enter Try.func56, Try.ntmps56
          go_wp2
          go_ret
          exact ⟨rfl, (Below.refl _ _).alloc (Nat.le_refl _) _⟩
      · rw [gsB_no (by omega)]
        go_enter Try.func56, Try.ntmps56
        go_wp2
        go_ret
        exact ⟨rfl, (Below.refl _ _).alloc (Nat.le_refl _) _⟩
    · rw [gsB_no (by omega)]
      go_enter Try.func56, Try.ntmps56
      go_wp2
      go_ret
      exact ⟨rfl, (Below.refl _ _).alloc (Nat.le_refl _) _⟩
  · rw [gsB_no (by omega)]
    go_enter Try.func56, Try.ntmps56
    go_wp2
    go_ret
    exact ⟨rfl, (Below.refl _ _).alloc (Nat.le_refl _) _⟩

theorem lin_any (n lo hi : Int) (w : World) :
    Calls Try.prog 54 #[.int .i64 n, .int .i64 lo, .int .i64 hi] w fun e w' => e = .returned (.bool (inB n lo hi)) ∧ w' = w := by
  by_cases h1 : lo ≤ n
  · by_cases h2 : n ≤ hi
    · rw [inB_yes h1 h2]
      go_enter Try.func54, Try.ntmps54
      go_wp2
      go_ret
      exact ⟨rfl, rfl⟩
    · rw [inB_no (by omega)]
      go_enter Try.func54, Try.ntmps54
      go_wp2
      go_ret
      exact ⟨rfl, rfl⟩
  · rw [inB_no (by omega)]
    go_enter Try.func54, Try.ntmps54
    go_wp2
    go_ret
    exact ⟨rfl, rfl⟩

set_option maxHeartbeats 800000 in
theorem lspace_any (b d : Int) (w : World) :
    Calls Try.prog 72 #[.agg #[.int .i64 b, .int .i64 d]] w fun e w' => e = .returned (.bool (gsB b d)) ∧ Below w.heap.size w w' := by
  by_cases h1 : 1 ≤ b ∧ b ≤ 12
  · have e1 := inB_yes h1.1 h1.2
    by_cases h3 : 1 ≤ d ∧ d ≤ b
    · have e2 := inB_yes h3.1 h3.2
      obtain ⟨h1, h2⟩ := h1
      obtain ⟨h3, h4⟩ := h3
      by_cases h5 : b % d = 0
      · rw [gsB_yes h1 h2 h3 h4 h5]
        have H5 : (b % d == 0) = true := by simp [h5]
        clear h5
        go_enter Try.func72, Try.ntmps72
        go_wp2_with (go_at_call 54; refine (lin_any _ _ _ _).mono ?_; rintro e w' ⟨rfl, rfl⟩)
        go_ret
        exact ⟨rfl, (Below.refl _ _).alloc (Nat.le_refl _) _⟩
      · rw [gsB_no (by omega)]
        have H5 : (b % d == 0) = false := by simp [h5]
        clear h5
        go_enter Try.func72, Try.ntmps72
        go_wp2_with (go_at_call 54; refine (lin_any _ _ _ _).mono ?_; rintro e w' ⟨rfl, rfl⟩)
        go_ret
        exact ⟨rfl, (Below.refl _ _).alloc (Nat.le_refl _) _⟩
    · rw [gsB_no (by omega)]
      have e2 := inB_no h3
      clear h3
      go_enter Try.func72, Try.ntmps72
      go_wp2_with (go_at_call 54; refine (lin_any _ _ _ _).mono ?_; rintro e w' ⟨rfl, rfl⟩)
      go_ret
      exact ⟨rfl, (Below.refl _ _).alloc (Nat.le_refl _) _⟩
  · rw [gsB_no (by omega)]
    have e1 := inB_no h1
    clear h1
    go_enter Try.func72, Try.ntmps72
    go_wp2_with (go_at_call 54; refine (lin_any _ _ _ _).mono ?_; rintro e w' ⟨rfl, rfl⟩)
    go_ret
    exact ⟨rfl, (Below.refl _ _).alloc (Nat.le_refl _) _⟩

theorem size_any (b d : Int) (w : World) (h1 : 1 ≤ b) (h2 : b ≤ 12) :
    Calls Try.prog 67 #[.agg #[.int .i64 b, .int .i64 d]] w fun e w' => e = .returned (.int .i64 (sz b)) ∧ Below w.heap.size w w' := by
  have hw := wrap_sz h1 h2
  go_enter Try.func67, Try.ntmps67
  go_wp2
  go_ret
  exact ⟨ret_int hw, (Below.refl _ _).alloc (Nat.le_refl _) _⟩
theorem lsize_any (b d : Int) (w : World) (h1 : 1 ≤ b) (h2 : b ≤ 12) :
    Calls Try.prog 74 #[.agg #[.int .i64 b, .int .i64 d]] w fun e w' => e = .returned (.int .i64 (sz b)) ∧ Below w.heap.size w w' := by
  have hw := wrap_sz h1 h2
  go_enter Try.func74, Try.ntmps74
  go_wp2
  go_ret
  exact ⟨ret_int hw, (Below.refl _ _).alloc (Nat.le_refl _) _⟩
end Go.Proofs.Ytpgngfdhnoonjaa
