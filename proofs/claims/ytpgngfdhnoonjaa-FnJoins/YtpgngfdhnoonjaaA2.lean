/- The contracts of the functions on arcs, in the program and in its specification. -/
import Derived.Test.YtpgngfdhnoonjaaA1
namespace Go.Proofs.Ytpgngfdhnoonjaa
open Go.RowKit
set_option linter.unusedVariables false

set_option maxHeartbeats 400000 in
theorem distUp_any (b d x y : Int) (w : World) (hb1 : 1 ≤ b) (hb2 : b ≤ 12) (h1 : 0 ≤ x) (h2 : x < sz b) (h3 : 0 ≤ y) (h4 : y < sz b) :
    Calls Try.prog 84 #[.agg #[.int .i64 b, .int .i64 d], .int .i64 x, .int .i64 y] w fun e w' => e = .returned (.int .i64 (dist b x y)) ∧ Below w.heap.size w w' := by
  obtain ⟨hs1, hs2⟩ := sz_bd hb1 hb2
  go_enter Try.func84, Try.ntmps84
  go_wp2
  have c0 : ∀ p : Kin (w.heap.size + 1) (w.alloc (.cells #[.int .i64 b, .int .i64 d] 25)), p.v.cell? ⟨w.heap.size, 0, none⟩ = some (.int .i64 b) := kin_cell (by omega) (by go_simp)
  have c1 : ∀ p : Kin (w.heap.size + 1) (w.alloc (.cells #[.int .i64 b, .int .i64 d] 25)), p.v.cell? ⟨w.heap.size, 1, none⟩ = some (.int .i64 d) := kin_cell (by omega) (by go_simp)
  refine region_kin (w.heap.size + 1) (by kernel_rfl) (by kernel_rfl) (fun hne => ?_)
  repeat (go_big_quiet_step ((go_at_call 67; exact kin_of (by simp) (size_any _ _ _ hb1 hb2))))
  refine wpQuiet_nil ?_
  intro _ hw'
  obtain ⟨⟨w1, hw1⟩, hw''⟩ := hw'
  obtain rfl : _ = w1 := hw''
  clear c0 c1 hne
  go_wp2
  go_ret
  exact ⟨rfl, ((Below.refl _ _).alloc (Nat.le_refl _) _).trans (hw1.mono (by omega))⟩

set_option maxHeartbeats 400000 in
theorem ldist_any (b d x y : Int) (w : World) (hb1 : 1 ≤ b) (hb2 : b ≤ 12) (h1 : 0 ≤ x) (h2 : x < sz b) (h3 : 0 ≤ y) (h4 : y < sz b) :
    Calls Try.prog 85 #[.agg #[.int .i64 b, .int .i64 d], .int .i64 x, .int .i64 y] w fun e w' => e = .returned (.int .i64 (dist b x y)) ∧ Below w.heap.size w w' := by
  obtain ⟨hs1, hs2⟩ := sz_bd hb1 hb2
  go_enter Try.func85, Try.ntmps85
  go_wp2
  have c0 : ∀ p : Kin (w.heap.size + 1) (w.alloc (.cells #[.int .i64 b, .int .i64 d] 25)), p.v.cell? ⟨w.heap.size, 0, none⟩ = some (.int .i64 b) := kin_cell (by omega) (by go_simp)
  have c1 : ∀ p : Kin (w.heap.size + 1) (w.alloc (.cells #[.int .i64 b, .int .i64 d] 25)), p.v.cell? ⟨w.heap.size, 1, none⟩ = some (.int .i64 d) := kin_cell (by omega) (by go_simp)
  refine region_kin (w.heap.size + 1) (by kernel_rfl) (by kernel_rfl) (fun hne => ?_)
  repeat (go_big_quiet_step ((go_at_call 74; exact kin_of (by simp) (lsize_any _ _ _ hb1 hb2))))
  refine wpQuiet_nil ?_
  intro _ hw'
  obtain ⟨⟨w1, hw1⟩, hw''⟩ := hw'
  obtain rfl : _ = w1 := hw''
  clear c0 c1 hne
  go_wp2
  go_ret
  exact ⟨rfl, ((Below.refl _ _).alloc (Nat.le_refl _) _).trans (hw1.mono (by omega))⟩

set_option maxHeartbeats 400000 in
theorem isNumber_any (b d x : Int) (w : World) :
    Calls Try.prog 48 #[.agg #[.int .i64 b, .int .i64 d], .int .i64 x] w fun e w' => e = .returned (.bool (numB b d x)) ∧ Below w.heap.size w w' := by
  cases hg : gsB b d
  · rw [numB_no hg]
    go_enter Try.func48, Try.ntmps48
    go_wp2_with (go_at_call 56; refine (good_any _ _ _).mono ?_; rintro e w1 ⟨rfl, hw1⟩)
    go_ret
    exact ⟨rfl, ((Below.refl _ _).alloc (Nat.le_refl _) _).trans (hw1.mono (by simp))⟩
  · obtain ⟨hb1, hb2, _, _, _⟩ := gsB_true hg
    obtain ⟨hs1, hs2⟩ := sz_bd hb1 hb2
    by_cases h1 : 0 ≤ x
    · by_cases h2 : x < sz b
      · rw [numB_yes hg h1 h2]
        go_enter Try.func48, Try.ntmps48
        go_wp2_with (first | (go_at_call 56; refine (good_any _ _ _).mono ?_; rintro e w1 ⟨rfl, hw1⟩; have hc := bcell hw1) | (go_at_call 67; refine (size_any _ _ _ hb1 hb2).mono ?_; rintro e w2 ⟨rfl, hw2⟩))
        go_ret
        exact ⟨rfl, (((Below.refl _ _).alloc (Nat.le_refl _) _).trans (hw1.mono (by simp))).trans (hw2.mono (by have := hw1.size; simp at this; omega))⟩
      · rw [numB_out (by omega)]
        go_enter Try.func48, Try.ntmps48
        go_wp2_with (first | (go_at_call 56; refine (good_any _ _ _).mono ?_; rintro e w1 ⟨rfl, hw1⟩; have hc := bcell hw1) | (go_at_call 67; refine (size_any _ _ _ hb1 hb2).mono ?_; rintro e w2 ⟨rfl, hw2⟩))
        go_ret
        exact ⟨ret_bool (decide_eq_false (by omega)), (((Below.refl _ _).alloc (Nat.le_refl _) _).trans (hw1.mono (by simp))).trans (hw2.mono (by have := hw1.size; simp at this; omega))⟩
    · rw [numB_out (by omega)]
      go_enter Try.func48, Try.ntmps48
      go_wp2_with (go_at_call 56; refine (good_any _ _ _).mono ?_; rintro e w1 ⟨rfl, hw1⟩)
      go_ret
      exact ⟨rfl, ((Below.refl _ _).alloc (Nat.le_refl _) _).trans (hw1.mono (by simp))⟩

set_option maxHeartbeats 800000 in
theorem place_any (b d f x t : Int) (w : World) (hb1 : 1 ≤ b) (hb2 : b ≤ 12) (f1 : 0 ≤ f) (f2 : f < sz b) (x1 : 0 ≤ x) (x2 : x < sz b) (t1 : 0 ≤ t) (t2 : t < sz b) :
    Calls Try.prog 79 #[.agg #[.int .i64 b, .int .i64 d], .int .i64 f, .int .i64 x, .int .i64 t] w fun e w' => e = .returned (.int .i64 (plc b f x t)) ∧ Below w.heap.size w w' := by
  unfold plc
  by_cases h1 : x = f
  · by_cases h2 : x = t
    · rw [if_pos ⟨h1, h2⟩]
      have e1 : (x == f) = true := by simp [h1]
      have e2 : (x == t) = true := by simp [h2]
      clear h1 h2
      go_enter Try.func79, Try.ntmps79
      go_wp2
      go_ret
      exact ⟨rfl, (Below.refl _ _).alloc (Nat.le_refl _) _⟩
    · rw [if_neg (by omega), if_pos h1]
      have e1 : (x == f) = true := by simp [h1]
      have e2 : (x == t) = false := by simp [h2]
      clear h1 h2
      go_enter Try.func79, Try.ntmps79
      go_wp2
      go_ret
      exact ⟨rfl, (Below.refl _ _).alloc (Nat.le_refl _) _⟩
  · by_cases h2 : x = t
    · rw [if_neg (by omega), if_neg h1, if_pos h2]
      have e1 : (x == f) = false := by simp [h1]
      have e2 : (x == t) = true := by simp [h2]
      clear h1 h2
      go_enter Try.func79, Try.ntmps79
      go_wp2
      go_ret
      exact ⟨rfl, (Below.refl _ _).alloc (Nat.le_refl _) _⟩
    · rw [if_neg (by omega), if_neg h1, if_neg h2]
      have e1 : (x == f) = false := by simp [h1]
      have e2 : (x == t) = false := by simp [h2]
      clear h1 h2
      by_cases h3 : f = t
      · rw [if_pos (Or.inl h3)]
        have e3 : (f == t) = true := by simp [h3]
        clear h3
        go_enter Try.func79, Try.ntmps79
        go_wp2
        have c0 : ∀ p : Kin (w.heap.size + 1) (w.alloc (.cells #[.int .i64 b, .int .i64 d] 25)), p.v.cell? ⟨w.heap.size, 0, none⟩ = some (.int .i64 b) := kin_cell (by omega) (by go_simp)
        have c1 : ∀ p : Kin (w.heap.size + 1) (w.alloc (.cells #[.int .i64 b, .int .i64 d] 25)), p.v.cell? ⟨w.heap.size, 1, none⟩ = some (.int .i64 d) := kin_cell (by omega) (by go_simp)
        refine region_kin (w.heap.size + 1) (by kernel_rfl) (by kernel_rfl) (fun hne => ?_)
        repeat (go_big_quiet_step ((go_at_call 84; exact kin_of (by simp) (distUp_any _ _ _ _ _ hb1 hb2 (by assumption) (by assumption) (by assumption) (by assumption)))))
        refine wpQuiet_nil ?_
        intro _ hw'
        obtain ⟨⟨w1, hw1⟩, hw''⟩ := hw'
        obtain rfl : _ = w1 := hw''
        clear c0 c1 hne
        go_wp2
        go_ret
        exact ⟨rfl, ((Below.refl _ _).alloc (Nat.le_refl _) _).trans (hw1.mono (by omega))⟩
      · have e3 : (f == t) = false := by simp [h3]
        by_cases h4 : dist b f x < dist b f t
        · rw [if_pos (Or.inr h4)]
          clear h3
          go_enter Try.func79, Try.ntmps79
          go_wp2
          have c0 : ∀ p : Kin (w.heap.size + 1) (w.alloc (.cells #[.int .i64 b, .int .i64 d] 25)), p.v.cell? ⟨w.heap.size, 0, none⟩ = some (.int .i64 b) := kin_cell (by omega) (by go_simp)
          have c1 : ∀ p : Kin (w.heap.size + 1) (w.alloc (.cells #[.int .i64 b, .int .i64 d] 25)), p.v.cell? ⟨w.heap.size, 1, none⟩ = some (.int .i64 d) := kin_cell (by omega) (by go_simp)
          refine region_kin (w.heap.size + 1) (by kernel_rfl) (by kernel_rfl) (fun hne => ?_)
          repeat (go_big_quiet_step ((go_at_call 84; exact kin_of (by simp) (distUp_any _ _ _ _ _ hb1 hb2 (by assumption) (by assumption) (by assumption) (by assumption)))))
          refine wpQuiet_nil ?_
          intro _ hw'
          obtain ⟨⟨w1, hw1⟩, hw''⟩ := hw'
          obtain rfl : _ = w1 := hw''
          clear c0 c1 hne
          go_wp2
          go_ret
          exact ⟨rfl, ((Below.refl _ _).alloc (Nat.le_refl _) _).trans (hw1.mono (by omega))⟩
        · rw [if_neg (by omega)]
          clear h3
          go_enter Try.func79, Try.ntmps79
          go_wp2
          have c0 : ∀ p : Kin (w.heap.size + 1) (w.alloc (.cells #[.int .i64 b, .int .i64 d] 25)), p.v.cell? ⟨w.heap.size, 0, none⟩ = some (.int .i64 b) := kin_cell (by omega) (by go_simp)
          have c1 : ∀ p : Kin (w.heap.size + 1) (w.alloc (.cells #[.int .i64 b, .int .i64 d] 25)), p.v.cell? ⟨w.heap.size, 1, none⟩ = some (.int .i64 d) := kin_cell (by omega) (by go_simp)
          refine region_kin (w.heap.size + 1) (by kernel_rfl) (by kernel_rfl) (fun hne => ?_)
          repeat (go_big_quiet_step ((go_at_call 84; exact kin_of (by simp) (distUp_any _ _ _ _ _ hb1 hb2 (by assumption) (by assumption) (by assumption) (by assumption)))))
          refine wpQuiet_nil ?_
          intro _ hw'
          obtain ⟨⟨w1, hw1⟩, hw''⟩ := hw'
          obtain rfl : _ = w1 := hw''
          clear c0 c1 hne
          go_wp2
          go_ret
          exact ⟨rfl, ((Below.refl _ _).alloc (Nat.le_refl _) _).trans (hw1.mono (by omega))⟩

set_option maxHeartbeats 800000 in
theorem larc_any (b d f x t : Int) (w : World) (hb1 : 1 ≤ b) (hb2 : b ≤ 12) (f1 : 0 ≤ f) (f2 : f < sz b) (x1 : 0 ≤ x) (x2 : x < sz b) (t1 : 0 ≤ t) (t2 : t < sz b) :
    Calls Try.prog 80 #[.agg #[.int .i64 b, .int .i64 d], .int .i64 f, .int .i64 x, .int .i64 t] w fun e w' => e = .returned (.bool (arcB b f x t)) ∧ Below w.heap.size w w' := by
  unfold arcB
  by_cases h3 : f = t
  · rw [decide_eq_true (Or.inl h3)]
    have e3 : (f == t) = true := by simp [h3]
    clear h3
    go_enter Try.func80, Try.ntmps80
    go_wp2
    have c0 : ∀ p : Kin (w.heap.size + 1) (w.alloc (.cells #[.int .i64 b, .int .i64 d] 25)), p.v.cell? ⟨w.heap.size, 0, none⟩ = some (.int .i64 b) := kin_cell (by omega) (by go_simp)
    have c1 : ∀ p : Kin (w.heap.size + 1) (w.alloc (.cells #[.int .i64 b, .int .i64 d] 25)), p.v.cell? ⟨w.heap.size, 1, none⟩ = some (.int .i64 d) := kin_cell (by omega) (by go_simp)
    refine region_kin (w.heap.size + 1) (by kernel_rfl) (by kernel_rfl) (fun hne => ?_)
    repeat (go_big_quiet_step ((go_at_call 85; exact kin_of (by simp) (ldist_any _ _ _ _ _ hb1 hb2 (by assumption) (by assumption) (by assumption) (by assumption)))))
    refine wpQuiet_nil ?_
    intro _ hw'
    obtain ⟨⟨w1, hw1⟩, hw''⟩ := hw'
    obtain rfl : _ = w1 := hw''
    clear c0 c1 hne
    go_wp2
    go_ret
    exact ⟨rfl, ((Below.refl _ _).alloc (Nat.le_refl _) _).trans (hw1.mono (by omega))⟩
  · have e3 : (f == t) = false := by simp [h3]
    by_cases h1 : x = f
    · rw [decide_eq_false (by omega)]
      have e1 : (x == f) = true := by simp [h1]
      have e1' : (x != f) = false := by simp [h1]
      clear h1 h3
      go_enter Try.func80, Try.ntmps80
      go_wp2
      have c0 : ∀ p : Kin (w.heap.size + 1) (w.alloc (.cells #[.int .i64 b, .int .i64 d] 25)), p.v.cell? ⟨w.heap.size, 0, none⟩ = some (.int .i64 b) := kin_cell (by omega) (by go_simp)
      have c1 : ∀ p : Kin (w.heap.size + 1) (w.alloc (.cells #[.int .i64 b, .int .i64 d] 25)), p.v.cell? ⟨w.heap.size, 1, none⟩ = some (.int .i64 d) := kin_cell (by omega) (by go_simp)
      refine region_kin (w.heap.size + 1) (by kernel_rfl) (by kernel_rfl) (fun hne => ?_)
      repeat (go_big_quiet_step ((go_at_call 85; exact kin_of (by simp) (ldist_any _ _ _ _ _ hb1 hb2 (by assumption) (by assumption) (by assumption) (by assumption)))))
      refine wpQuiet_nil ?_
      intro _ hw'
      obtain ⟨⟨w1, hw1⟩, hw''⟩ := hw'
      obtain rfl : _ = w1 := hw''
      clear c0 c1 hne
      go_wp2
      go_ret
      exact ⟨rfl, ((Below.refl _ _).alloc (Nat.le_refl _) _).trans (hw1.mono (by omega))⟩
    · have e1' : (x != f) = true := by simp [h1]
      by_cases h4 : dist b f x ≤ dist b f t
      · rw [decide_eq_true (Or.inr ⟨h1, h4⟩)]
        clear h1 h3
        go_enter Try.func80, Try.ntmps80
        go_wp2
        have c0 : ∀ p : Kin (w.heap.size + 1) (w.alloc (.cells #[.int .i64 b, .int .i64 d] 25)), p.v.cell? ⟨w.heap.size, 0, none⟩ = some (.int .i64 b) := kin_cell (by omega) (by go_simp)
        have c1 : ∀ p : Kin (w.heap.size + 1) (w.alloc (.cells #[.int .i64 b, .int .i64 d] 25)), p.v.cell? ⟨w.heap.size, 1, none⟩ = some (.int .i64 d) := kin_cell (by omega) (by go_simp)
        refine region_kin (w.heap.size + 1) (by kernel_rfl) (by kernel_rfl) (fun hne => ?_)
        repeat (go_big_quiet_step ((go_at_call 85; exact kin_of (by simp) (ldist_any _ _ _ _ _ hb1 hb2 (by assumption) (by assumption) (by assumption) (by assumption)))))
        refine wpQuiet_nil ?_
        intro _ hw'
        obtain ⟨⟨w1, hw1⟩, hw''⟩ := hw'
        obtain rfl : _ = w1 := hw''
        clear c0 c1 hne
        go_wp2
        go_ret
        exact ⟨rfl, ((Below.refl _ _).alloc (Nat.le_refl _) _).trans (hw1.mono (by omega))⟩
      · rw [decide_eq_false (by omega)]
        clear h1 h3
        go_enter Try.func80, Try.ntmps80
        go_wp2
        have c0 : ∀ p : Kin (w.heap.size + 1) (w.alloc (.cells #[.int .i64 b, .int .i64 d] 25)), p.v.cell? ⟨w.heap.size, 0, none⟩ = some (.int .i64 b) := kin_cell (by omega) (by go_simp)
        have c1 : ∀ p : Kin (w.heap.size + 1) (w.alloc (.cells #[.int .i64 b, .int .i64 d] 25)), p.v.cell? ⟨w.heap.size, 1, none⟩ = some (.int .i64 d) := kin_cell (by omega) (by go_simp)
        refine region_kin (w.heap.size + 1) (by kernel_rfl) (by kernel_rfl) (fun hne => ?_)
        repeat (go_big_quiet_step ((go_at_call 85; exact kin_of (by simp) (ldist_any _ _ _ _ _ hb1 hb2 (by assumption) (by assumption) (by assumption) (by assumption)))))
        refine wpQuiet_nil ?_
        intro _ hw'
        obtain ⟨⟨w1, hw1⟩, hw''⟩ := hw'
        obtain rfl : _ = w1 := hw''
        clear c0 c1 hne
        go_wp2
        go_ret
        exact ⟨ret_bool (decide_eq_false (by omega)), ((Below.refl _ _).alloc (Nat.le_refl _) _).trans (hw1.mono (by omega))⟩
end Go.Proofs.Ytpgngfdhnoonjaa
