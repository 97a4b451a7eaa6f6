/- Digits: base, count, ShiftIn on both sides. -/
import Derived.Test.YtejajlloipkkhaaA4
namespace Go.Proofs.Ytejajlloipkkhaa
open Go.RowKit
set_option linter.unusedVariables false

def digB (b d x : Int) : Bool := gsB b d && inB x 0 (sz d - 1)
theorem digB_true {b d x : Int} (h : digB b d x = true) : gsB b d = true ∧ 0 ≤ x ∧ x < sz d := by
  unfold digB at h
  rw [Bool.and_eq_true] at h
  have := inB_true h.2
  exact ⟨h.1, by omega, by omega⟩
theorem digB_yes {b d x : Int} (h : gsB b d = true) (h1 : 0 ≤ x) (h2 : x < sz d) : digB b d x = true := by
  unfold digB; rw [h, inB_yes (by omega) (by omega)]; rfl
theorem digB_no {b d x : Int} (h : gsB b d = false) : digB b d x = false := by unfold digB; rw [h]; rfl
theorem digB_out {b d x : Int} (h : ¬ (0 ≤ x ∧ x < sz d)) : digB b d x = false := by unfold digB; rw [inB_no (by omega)]; simp
def sOk (b d x g : Int) : Bool := numB b d x && digB b d g
def shf (b d x g : Int) : Int := (x * sz d + g) % sz b
def sVal (b d x g : Int) : Int := if sOk b d x g = true then shf b d x g else 0
theorem mul_bd {x y : Int} (h1 : 0 ≤ x) (h2 : x ≤ 4096) (h3 : 0 ≤ y) (h4 : y ≤ 4096) : 0 ≤ x * y ∧ x * y ≤ 16777216 :=
  ⟨Int.mul_nonneg h1 h3, Int.le_trans (Int.mul_le_mul h2 h4 h3 (by omega)) (by omega)⟩
theorem shf_bd {b : Int} (d x g : Int) (h1 : 1 ≤ b) (h2 : b ≤ 12) : 0 ≤ shf b d x g ∧ shf b d x g < sz b := by
  have := sz_bd h1 h2
  exact ⟨Int.emod_nonneg _ (by omega), Int.emod_lt_of_pos _ (by omega)⟩

theorem base_any (b d : Int) (w : World) (h1 : 1 ≤ d) (h2 : d ≤ 12) :
    Calls Try.prog 81 #[.agg #[.int .i64 b, .int .i64 d]] w fun e w' => e = .returned (.int .i64 (sz d)) ∧ Below w.heap.size w w' := by
  have hw := wrap_sz h1 h2
  go_enter Try.func81, Try.ntmps81
  go_wp2
  go_ret
  exact ⟨ret_int hw, (Below.refl _ _).alloc (Nat.le_refl _) _⟩
theorem lbase_any (b d : Int) (w : World) (h1 : 1 ≤ d) (h2 : d ≤ 12) :
    Calls Try.prog 124 #[.agg #[.int .i64 b, .int .i64 d]] w fun e w' => e = .returned (.int .i64 (sz d)) ∧ Below w.heap.size w w' := by
  have hw := wrap_sz h1 h2
  go_enter Try.func124, Try.ntmps124
  go_wp2
  go_ret
  exact ⟨ret_int hw, (Below.refl _ _).alloc (Nat.le_refl _) _⟩
theorem count_any (b d : Int) (w : World) (h1 : 1 ≤ b) (h2 : b ≤ 12) (h3 : 1 ≤ d) (h4 : d ≤ b) :
    Calls Try.prog 61 #[.agg #[.int .i64 b, .int .i64 d]] w fun e w' => e = .returned (.int .i64 (b / d)) ∧ Below w.heap.size w w' := by
  go_enter Try.func61, Try.ntmps61
  go_wp2
  go_ret
  exact ⟨rfl, (Below.refl _ _).alloc (Nat.le_refl _) _⟩

set_option maxHeartbeats 400000 in
theorem isDigit_any (b d x : Int) (w : World) :
    Calls Try.prog 80 #[.agg #[.int .i64 b, .int .i64 d], .int .i64 x] w fun e w' => e = .returned (.bool (digB b d x)) ∧ Below w.heap.size w w' := by
  cases hg : gsB b d
  · rw [digB_no hg]
    go_enter Try.func80, Try.ntmps80
    go_wp2_with fail
    refine (good_any _ _ _).mono ?_
    rintro e w1 ⟨rfl, hw1⟩
    obtain ⟨k10, k11, z1⟩ := keep2 (bk := w.heap.size) (u := .int .i64 b) (v := .int .i64 d) hw1 (by simp; try omega) (by simp) (by simp)
    go_wp2
    go_ret
    exact ⟨rfl, bel1 hw1 (by simp; try omega)⟩

  · obtain ⟨hb1, hb2, hd1, hd2, _⟩ := gsB_true hg
    have hd3 : d ≤ 12 := by omega
    obtain ⟨hs1, hs2⟩ := sz_bd hd1 hd3
    by_cases h1 : 0 ≤ x
    · by_cases h2 : x < sz d
      · rw [digB_yes hg h1 h2]
        go_enter Try.func80, Try.ntmps80
        go_wp2_with fail
        refine (good_any _ _ _).mono ?_
        rintro e w1 ⟨rfl, hw1⟩
        obtain ⟨k10, k11, z1⟩ := keep2 (bk := w.heap.size) (u := .int .i64 b) (v := .int .i64 d) hw1 (by simp; try omega) (by simp) (by simp)
        go_wp2_with fail
        refine (base_any _ _ _ hd1 hd3).mono ?_
        rintro e w2 ⟨rfl, hw2⟩
        obtain ⟨k20, k21, z2⟩ := keep2 hw2 z1 k10 k11
        go_wp2
        go_ret
        exact ⟨rfl, belt (bel1 hw1 (by simp; try omega)) hw2⟩

      · rw [digB_out (by omega)]
        go_enter Try.func80, Try.ntmps80
        go_wp2_with fail
        refine (good_any _ _ _).mono ?_
        rintro e w1 ⟨rfl, hw1⟩
        obtain ⟨k10, k11, z1⟩ := keep2 (bk := w.heap.size) (u := .int .i64 b) (v := .int .i64 d) hw1 (by simp; try omega) (by simp) (by simp)
        go_wp2_with fail
        refine (base_any _ _ _ hd1 hd3).mono ?_
        rintro e w2 ⟨rfl, hw2⟩
        obtain ⟨k20, k21, z2⟩ := keep2 hw2 z1 k10 k11
        go_wp2
        go_ret
        exact ⟨ret_bool (decide_eq_false (by omega)), belt (bel1 hw1 (by simp; try omega)) hw2⟩

    · rw [digB_out (by omega)]
      go_enter Try.func80, Try.ntmps80
      go_wp2_with fail
      refine (good_any _ _ _).mono ?_
      rintro e w1 ⟨rfl, hw1⟩
      obtain ⟨k10, k11, z1⟩ := keep2 (bk := w.heap.size) (u := .int .i64 b) (v := .int .i64 d) hw1 (by simp; try omega) (by simp) (by simp)
      go_wp2
      go_ret
      exact ⟨rfl, bel1 hw1 (by simp; try omega)⟩


theorem shl_eq {b d x g : Int} (hb1 : 1 ≤ b) (hb2 : b ≤ 12) (hd1 : 1 ≤ d) (hd2 : d ≤ 12) (h1 : 0 ≤ x) (h2 : x < sz b) (h3 : 0 ≤ g) (h4 : g < sz d) :
    (wrap64 (wrap64 (x * 2 ^ d.toNat) + g)).tmod (sz b) = shf b d x g := by
  obtain ⟨hs1, hs2⟩ := sz_bd hb1 hb2
  obtain ⟨hs3, hs4⟩ := sz_bd hd1 hd2
  obtain ⟨hm1, hm2⟩ := mul_bd h1 (by omega) (by omega : 0 ≤ sz d) hs4
  have e1 : wrap64 (x * 2 ^ d.toNat) = x * sz d := IntWalk.wrap64_in (x * sz d) (by omega)
  have e2 : wrap64 (x * sz d + g) = x * sz d + g := IntWalk.wrap64_in (x * sz d + g) (by omega)
  rw [e1, e2, Int.tmod_eq_emod_of_nonneg (by omega)]
  rfl
set_option maxHeartbeats 400000 in
theorem lshift_any (b d x g : Int) (w : World) (hb1 : 1 ≤ b) (hb2 : b ≤ 12) (hd1 : 1 ≤ d) (hd2 : d ≤ 12) (h1 : 0 ≤ x) (h2 : x < sz b) (h3 : 0 ≤ g) (h4 : g < sz d) :
    Calls Try.prog 105 #[.agg #[.int .i64 b, .int .i64 d], .int .i64 x, .int .i64 g] w fun e w' => e = .returned (.int .i64 (shf b d x g)) ∧ Below w.heap.size w w' := by
  obtain ⟨hs1, hs2⟩ := sz_bd hb1 hb2
  obtain ⟨hs3, hs4⟩ := sz_bd hd1 hd2
  obtain ⟨hm1, hm2⟩ := mul_bd h1 (by omega) (by omega : 0 ≤ sz d) hs4
  go_enter Try.func105, Try.ntmps105
  go_wp2
  have c0 : ∀ p : Kin (w.heap.size + 1) (w.alloc (.cells #[.int .i64 b, .int .i64 d] 25)), p.v.cell? ⟨w.heap.size, 0, none⟩ = some (.int .i64 b) := kin_cell (by omega) (by go_simp)
  have c1 : ∀ p : Kin (w.heap.size + 1) (w.alloc (.cells #[.int .i64 b, .int .i64 d] 25)), p.v.cell? ⟨w.heap.size, 1, none⟩ = some (.int .i64 d) := kin_cell (by omega) (by go_simp)
  refine region_kin (w.heap.size + 1) (by kernel_rfl) (by kernel_rfl) (fun hne => ?_)
  repeat (go_big_quiet_step ((go_at_call 76; exact kin_of (by simp) (lsize_any _ _ _ hb1 hb2))))
  refine wpQuiet_nil ?_
  intro _ hw'
  obtain ⟨⟨w1, hw1⟩, hw''⟩ := hw'
  obtain rfl : _ = w1 := hw''
  clear c0 c1 hne
  go_wp2
  go_ret
  exact ⟨ret_int (shl_eq hb1 hb2 hd1 hd2 h1 h2 h3 h4), ((Below.refl _ _).alloc (Nat.le_refl _) _).trans (hw1.mono (by omega))⟩

set_option maxHeartbeats 800000 in
theorem ShiftIn_any (b d x g : Int) (w : World) :
    Calls Try.prog 37 #[.agg #[.int .i64 b, .int .i64 d], .int .i64 x, .int .i64 g] w fun e w' => e = .returned (.tuple #[.int .i64 (sVal b d x g), .bool (sOk b d x g)]) ∧ Below w.heap.size w w' := by
  unfold sVal sOk
  cases hx : numB b d x
  ·
    go_enter Try.func37, Try.ntmps37
    go_wp2_with fail
    refine (isNumber_any _ _ _ _).mono ?_
    rintro e w1 ⟨rfl, hw1⟩
    obtain ⟨k10, k11, z1⟩ := keep2 (bk := w.heap.size) (u := .int .i64 b) (v := .int .i64 d) hw1 (by simp; try omega) (by simp) (by simp)
    go_wp2
    go_ret2
    exact ⟨rfl, bel1 hw1 (by simp; try omega)⟩
  · cases hy : digB b d g
    ·
      go_enter Try.func37, Try.ntmps37
      go_wp2_with fail
      refine (isNumber_any _ _ _ _).mono ?_
      rintro e w1 ⟨rfl, hw1⟩
      obtain ⟨k10, k11, z1⟩ := keep2 (bk := w.heap.size) (u := .int .i64 b) (v := .int .i64 d) hw1 (by simp; try omega) (by simp) (by simp)
      go_wp2_with fail
      refine (isDigit_any _ _ _ _).mono ?_
      rintro e w2 ⟨rfl, hw2⟩
      obtain ⟨k20, k21, z2⟩ := keep2 hw2 z1 k10 k11
      go_wp2
      go_ret2
      exact ⟨rfl, belt (bel1 hw1 (by simp; try omega)) hw2⟩
    ·
      obtain ⟨hg, x1, x2⟩ := numB_true hx
      obtain ⟨_, g1, g2⟩ := digB_true hy
      obtain ⟨hb1, hb2, hd1, hd2, _⟩ := gsB_true hg
      have hd3 : d ≤ 12 := by omega
      obtain ⟨hs1, hs2⟩ := sz_bd hb1 hb2
      obtain ⟨hs3, hs4⟩ := sz_bd hd1 hd3
      obtain ⟨hm1, hm2⟩ := mul_bd x1 (by omega) (by omega : 0 ≤ sz d) hs4
      go_enter Try.func37, Try.ntmps37
      go_wp2_with fail
      refine (isNumber_any _ _ _ _).mono ?_
      rintro e w1 ⟨rfl, hw1⟩
      obtain ⟨k10, k11, z1⟩ := keep2 (bk := w.heap.size) (u := .int .i64 b) (v := .int .i64 d) hw1 (by simp; try omega) (by simp) (by simp)
      go_wp2_with fail
      refine (isDigit_any _ _ _ _).mono ?_
      rintro e w2 ⟨rfl, hw2⟩
      obtain ⟨k20, k21, z2⟩ := keep2 hw2 z1 k10 k11
      go_wp2
      have c0 : ∀ p : Kin w2.heap.size w2, p.v.cell? ⟨w.heap.size, 0, none⟩ = some (.int .i64 b) := kin_cell z2 k20
      have c1 : ∀ p : Kin w2.heap.size w2, p.v.cell? ⟨w.heap.size, 1, none⟩ = some (.int .i64 d) := kin_cell z2 k21
      refine region_kin w2.heap.size (by kernel_rfl) (by kernel_rfl) (fun hne => ?_)
      repeat (go_big_quiet_step (first | (go_at_call 82; exact kin_of (Nat.le_refl _) (size_any _ _ _ hb1 hb2)) | (go_at_call 81; exact kin_of (Nat.le_refl _) (base_any _ _ _ hd1 hd3))))
      refine wpQuiet_nil ?_
      intro _ hw'
      obtain ⟨⟨w3, hw3⟩, hw''⟩ := hw'
      obtain rfl : _ = w3 := hw''
      clear c0 c1 hne
      go_wp2
      go_ret2
      exact ⟨rfl, belt (belt (bel1 hw1 (by simp; try omega)) hw2) hw3⟩

end Go.Proofs.Ytejajlloipkkhaa
