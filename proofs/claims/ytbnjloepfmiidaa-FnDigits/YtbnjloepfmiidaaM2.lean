/- The plain mathematics of digits that are shifted in behind those that overlap. -/
import Derived.Test.YtbnjloepfmiidaaB2
namespace Go.Proofs.Ytbnjloepfmiidaa
open Go.RowKit
set_option linter.unusedVariables false

theorem mod_div {y B m : Int} (hy : 0 ≤ y) (hB : 0 < B) (hm : 0 < m) : (y % (B * m)) / B = (y / B) % m := by
  obtain ⟨a, rfl⟩ := Int.eq_ofNat_of_zero_le hy
  obtain ⟨c, rfl⟩ := Int.eq_ofNat_of_zero_le (Int.le_of_lt hB)
  obtain ⟨e, rfl⟩ := Int.eq_ofNat_of_zero_le (Int.le_of_lt hm)
  exact_mod_cast Nat.mod_mul_right_div_self a c e
theorem digL_tail (m : Nat) {B : Int} (hB : 0 < B) (y : Int) (hy : 0 ≤ y) : (digL (m + 1) B y).tail = digL m B (y % B ^ m) := by
  induction m generalizing y with
  | zero => simp [digL]
  | succ m ih =>
    have hp : 0 < B ^ m := Int.pow_pos hB
    have hl : digL (m + 1) B (y / B) ≠ [] := by
      intro h
      have := digL_len (m + 1) B (y / B)
      rw [h] at this
      simp at this
    rw [digL, List.tail_append_of_ne_nil hl, ih (y / B) (Int.ediv_nonneg hy (by omega)), digL]
    have e1 : B ^ (m + 1) = B * B ^ m := by rw [Int.pow_succ, Int.mul_comm]
    rw [e1, mod_div hy hB hp, Int.emod_emod_of_dvd _ (Int.dvd_mul_right B (B ^ m))]
theorem digL_shift {n : Nat} {B : Int} (hB : 0 < B) (y g : Int) (hy : 0 ≤ y) (hg : 0 ≤ g) (hg2 : g < B) : digL (n + 1) B ((y * B + g) % B ^ (n + 1)) = (digL (n + 1) B y).tail ++ [g] := by
  have hp : 0 < B ^ n := Int.pow_pos hB
  have h0 : 0 ≤ y * B + g := by have := Int.mul_nonneg hy (Int.le_of_lt hB); omega
  have e1 : B ^ (n + 1) = B * B ^ n := by rw [Int.pow_succ, Int.mul_comm]
  rw [digL_tail n hB y hy, digL, e1, mod_div h0 hB hp, Int.emod_emod_of_dvd _ (Int.dvd_mul_right B (B ^ n))]
  have e2 : (y * B + g) / B = y := by
    rw [Int.add_comm, Int.add_mul_ediv_right _ _ (by omega), Int.ediv_eq_zero_of_lt hg hg2]; omega
  have e3 : (y * B + g) % B = g := by
    rw [Int.add_comm, Int.add_mul_emod_self_right, Int.emod_eq_of_lt hg hg2]
  rw [e2, e3]
theorem digL_inj {n : Nat} {B : Int} (hB : 0 < B) {x y : Int} (x1 : 0 ≤ x) (x2 : x < B ^ n) (y1 : 0 ≤ y) (y2 : y < B ^ n) (h : digL n B x = digL n B y) : x = y := by
  have e1 := ofD_digL n hB x x1 x2
  have e2 := ofD_digL n hB y y1 y2
  rw [h] at e1
  omega
theorem ovl_meet (n : Nat) (X K : List Int) (m : Nat) : ovl n X K m = 0 ∨ meet n X K (ovl n X K m) = true := by
  induction m with
  | zero => exact .inl rfl
  | succ m ih =>
    by_cases h : meet n X K (m + 1) = true
    · rw [ovl_yes h]; exact .inr h
    · rw [ovl_no (by simpa using h)]; exact ih
theorem ovl_sub (n : Nat) (X K : List Int) (hX : X.length = n) : X.drop (n - ovl n X K n) = K.take (ovl n X K n) := by
  have hle := ovl_le n X K n
  rcases ovl_meet n X K n with h | h
  · rw [h]; simp [← hX]
  · have := of_decide_eq_true h
    unfold sub at this
    rw [List.drop_zero] at this
    rw [← this, List.take_of_length_le]
    simp; omega
theorem ovl_all {b d x k : Int} (hg : gsB b d = true) (x1 : 0 ≤ x) (x2 : x < sz b) (k1 : 0 ≤ k) (k2 : k < sz b) :
    (((ovl (cnt b d) (digL (cnt b d) (sz d) x) (digL (cnt b d) (sz d) k) (cnt b d) : Int) == (cnt b d : Int)) = (x == k)) := by
  obtain ⟨hb1, hb2, hd1, hd2, h5⟩ := gsB_true hg
  obtain ⟨_, q1, q2⟩ := cnt_bd hb1 hb2 hd1 hd2
  obtain ⟨s1, s2⟩ := sz_bd hd1 (by omega : d ≤ 12)
  have hp := pow_cnt hb1 hd1 hd2 h5
  by_cases e : x = k
  · subst e
    have hm : meet (cnt b d) (digL (cnt b d) (sz d) x) (digL (cnt b d) (sz d) x) (cnt b d) = true := by
      unfold meet; rw [Nat.sub_self]; exact decide_eq_true rfl
    rw [ovl_yes' q1 hm]; simp
  · have hm : meet (cnt b d) (digL (cnt b d) (sz d) x) (digL (cnt b d) (sz d) k) (cnt b d) = false := by
      unfold meet
      refine decide_eq_false (fun h => e ?_)
      unfold sub at h
      rw [Nat.sub_self, List.drop_zero, List.drop_zero, List.take_of_length_le (by rw [digL_len]; exact Nat.le_refl _), List.take_of_length_le (by rw [digL_len]; exact Nat.le_refl _)] at h
      exact digL_inj (by omega) x1 (by rw [hp]; exact x2) k1 (by rw [hp]; exact k2) h
    rw [ovl_no' q1 hm]
    have := ovl_le (cnt b d) (digL (cnt b d) (sz d) x) (digL (cnt b d) (sz d) k) (cnt b d - 1)
    have e1 : (x == k) = false := by simpa using e
    rw [e1]
    simp; omega
/-- where the shifting stands behind i digits: so many of x are gone, so many of k have come -/
def Mid (n o i : Nat) (X K D : List Int) : Prop := D = X.drop (i - o) ++ (K.take i).drop o
theorem mid_start {n o i : Nat} {X K : List Int} (h : i ≤ o) : Mid n o i X K X := by
  unfold Mid
  have e : i - o = 0 := by omega
  rw [e, List.drop_zero, List.drop_eq_nil_of_le (by simp; omega), List.append_nil]
theorem mid_step {n o i : Nat} {X K D : List Int} (hX : X.length = n) (hK : K.length = n) (ho : o ≤ i) (hi : i < n) (h : Mid n o i X K D) : Mid n o (i + 1) X K (D.tail ++ [K.getD i 0]) := by
  unfold Mid at *
  have hne : X.drop (i - o) ≠ [] := by
    intro e
    have := congrArg List.length e
    simp at this; omega
  have e1 : i + 1 - o = (i - o) + 1 := by omega
  rw [h, List.tail_append_of_ne_nil hne, List.tail_drop, e1, List.take_succ_eq_append_getElem (by omega : i < K.length), List.drop_append_of_le_length (by simp; omega), List.append_assoc]
  simp [List.getD_eq_getElem?_getD, List.getElem?_eq_getElem (by omega : i < K.length)]
theorem mid_end {n o : Nat} {X K D : List Int} (hX : X.length = n) (hK : K.length = n) (ho : X.drop (n - o) = K.take o) (h : Mid n o n X K D) : D = K := by
  unfold Mid at h
  have e : K.take n = K := List.take_of_length_le (by omega)
  rw [h, ho, e, List.take_append_drop]
end Go.Proofs.Ytbnjloepfmiidaa
