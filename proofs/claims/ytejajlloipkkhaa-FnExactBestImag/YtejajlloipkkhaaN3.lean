/- Ways through the ring: the best number to begin with. -/
import Derived.Test.YtejajlloipkkhaaN2
namespace Go.Proofs.Ytejajlloipkkhaa
open Go.RowKit
set_option linter.unusedVariables false
theorem sz_add {x y : Int} (hx : 0 ≤ x) (hy : 0 ≤ y) : sz (x + y) = sz x * sz y := by
  unfold sz
  rw [Int.toNat_add hx hy, Int.pow_add]
theorem sz_pos (x : Int) : 0 < sz x := by unfold sz; exact Int.pow_pos (by omega)
theorem sz_zero : sz 0 = 1 := rfl
theorem bits_eq {b d : Int} (hg : gsB b d = true) : b / d * d = b := by
  obtain ⟨_, _, h3, _, h5⟩ := gsB_true hg
  have := Int.mul_ediv_add_emod b d
  rw [h5, Int.add_zero, Int.mul_comm] at this
  exact this
/-- how a space's numbers part into those of n digits and those of the rest -/
theorem sz_part {b d : Int} (hg : gsB b d = true) {n : Int} (n1 : 0 ≤ n) (n2 : n ≤ b / d) : sz (n * d) * sz ((b / d - n) * d) = sz b := by
  obtain ⟨_, _, h3, _, _⟩ := gsB_true hg
  have h1 : 0 ≤ n * d := Int.mul_nonneg n1 (by omega)
  have h2 : 0 ≤ (b / d - n) * d := Int.mul_nonneg (by omega) (by omega)
  rw [← sz_add h1 h2, ← Int.add_mul, show n + (b / d - n) = b / d by omega, bits_eq hg]
theorem mod_mod_part {b d : Int} (hg : gsB b d = true) {n : Int} (n1 : 0 ≤ n) (n2 : n ≤ b / d) (y : Int) : y % sz b % sz (n * d) = y % sz (n * d) := by
  rw [← sz_part hg n1 n2]
  exact Int.emod_emod_of_dvd _ ⟨_, rfl⟩
theorem want_lt {b d k : Int} (hg : gsB b d = true) {n : Int} (n1 : 0 ≤ n) (n2 : n ≤ b / d) (k1 : 0 ≤ k) (k2 : k < sz b) : 0 ≤ k / sz ((b / d - n) * d) ∧ k / sz ((b / d - n) * d) < sz (n * d) := by
  refine ⟨Int.ediv_nonneg k1 (Int.le_of_lt (sz_pos _)), ?_⟩
  rw [← sz_part hg n1 n2] at k2
  exact Int.ediv_lt_of_lt_mul (sz_pos _) k2
theorem up4_bd (b d f k n : Int) : 0 ≤ up4 b d f k n ∧ up4 b d f k n < sz (n * d) := by
  unfold up4
  exact ⟨Int.emod_nonneg _ (by have := sz_pos (n * d); omega), Int.emod_lt_of_pos _ (sz_pos _)⟩
theorem up4_hits {b d f k n : Int} (hg : gsB b d = true) (n1 : 0 ≤ n) (n2 : n ≤ b / d) (k1 : 0 ≤ k) (k2 : k < sz b) : (f + up4 b d f k n) % sz (n * d) = k / sz ((b / d - n) * d) := by
  obtain ⟨w1, w2⟩ := want_lt hg n1 n2 k1 k2
  unfold up4
  generalize k / sz ((b / d - n) * d) = t at w1 w2
  generalize sz (n * d) = p at w2
  rw [Int.add_emod_emod]
  have h := Int.mul_ediv_add_emod f p
  have e : f + (t - f % p + p) = t + p * (f / p + 1) := by
    rw [Int.mul_add, Int.mul_one]
    omega
  rw [e, Int.add_mul_emod_self_left]
  exact Int.emod_eq_of_lt w1 w2
theorem best_prop {b d f k m : Int} (hg : gsB b d = true) (f1 : 0 ≤ f) (f2 : f < sz b) (k1 : 0 ≤ k) (k2 : k < sz b) (hm : 0 < m) : ∀ N : Nat, (N : Int) ≤ b / d →
    ∃ n : Int, 0 ≤ n ∧ n ≤ b / d ∧ (best b d f m k N).2 = b / d - n ∧ 0 ≤ (best b d f m k N).1 ∧ (best b d f m k N).1 < sz b ∧ (best b d f m k N).1 % sz (n * d) = k / sz ((b / d - n) * d) ∧ ∃ u, 0 ≤ u ∧ u < m ∧ (best b d f m k N).1 = (f + u) % sz b
  | 0, hN => by
    unfold best
    refine ⟨0, Int.le_refl _, hN, by show b / d = _; omega, f1, f2, ?_, 0, Int.le_refl _, hm, ?_⟩
    · show f % sz (0 * d) = k / sz ((b / d - 0) * d)
      rw [Int.zero_mul, sz_zero, Int.emod_one, Int.sub_zero, bits_eq hg, Int.ediv_eq_zero_of_lt k1 k2]
    · show f = (f + 0) % sz b
      rw [Int.add_zero, Int.emod_eq_of_lt f1 f2]
  | N + 1, hN => by
    unfold best
    split
    · rename_i h
      have hb := up4_bd b d f k ((N + 1 : Nat) : Int)
      refine ⟨((N + 1 : Nat) : Int), by omega, hN, rfl, Int.emod_nonneg _ (by have := sz_pos b; omega), Int.emod_lt_of_pos _ (sz_pos _), ?_, up4 b d f k ((N + 1 : Nat) : Int), hb.1, h, rfl⟩
      show (f + up4 b d f k ((N + 1 : Nat) : Int)) % sz b % sz (((N + 1 : Nat) : Int) * d) = _
      rw [mod_mod_part hg (by omega) hN]
      exact up4_hits hg (by omega) hN k1 k2
    · exact best_prop hg f1 f2 k1 k2 hm N (by omega)
theorem rnd_pos {b x y : Int} (hb1 : 1 ≤ b) (x1 : 0 ≤ x) (x2 : x < sz b) (y1 : 0 ≤ y) (y2 : y < sz b) : 0 < rnd b x y ∧ rnd b x y ≤ sz b := by
  unfold rnd
  have := sz_pos b
  split
  · omega
  · rename_i h
    by_cases hl : x ≤ y
    · rw [dist_up x1 y2 hl]; omega
    · rw [dist_dn y1 x2 (by omega)]; omega
theorem bestI_prop {b d f t k : Int} (hg : gsB b d = true) (f1 : 0 ≤ f) (f2 : f < sz b) (t1 : 0 ≤ t) (t2 : t < sz b) (k1 : 0 ≤ k) (k2 : k < sz b) :
    ∃ n : Int, 0 ≤ n ∧ n ≤ b / d ∧ (bestI b d f t k).2 = b / d - n ∧ 0 ≤ (bestI b d f t k).1 ∧ (bestI b d f t k).1 < sz b ∧ (bestI b d f t k).1 % sz (n * d) = k / sz ((b / d - n) * d) ∧ ∃ u, 0 ≤ u ∧ u < rnd b f t ∧ (bestI b d f t k).1 = (f + u) % sz b := by
  obtain ⟨h1, h2, h3, h4, _⟩ := gsB_true hg
  have hc := cnt_bd h1 h2 h3 h4
  exact best_prop hg f1 f2 k1 k2 (rnd_pos h1 f1 f2 t1 t2).1 (cnt b d) (by omega)
/-- the number that is best lies from 'from' on, ahead of 'to' -/
theorem best_arc {b d f t k : Int} (hg : gsB b d = true) (f1 : 0 ≤ f) (f2 : f < sz b) (t1 : 0 ≤ t) (t2 : t < sz b) (k1 : 0 ≤ k) (k2 : k < sz b) (hft : ¬ f = t) (hi : ¬ (bestI b d f t k).1 = f) : arcB b t (bestI b d f t k).1 f = false := by
  obtain ⟨n, _, _, _, x1, x2, _, u, u1, u2, hx⟩ := bestI_prop hg f1 f2 t1 t2 k1 k2
  generalize (bestI b d f t k).1 = x at *
  have hs := sz_pos b
  unfold rnd at u2
  rw [if_neg hft] at u2
  refine decide_eq_false (fun h => ?_)
  rcases h with h | ⟨_, h⟩
  · exact hft h.symm
  · have hu : ¬ u = 0 := fun h => hi (by rw [hx, h, Int.add_zero, Int.emod_eq_of_lt f1 f2])
    by_cases hl : f ≤ t
    · rw [dist_up f1 t2 hl] at u2
      rw [Int.emod_eq_of_lt (by omega) (by omega)] at hx
      rw [dist_dn x1 t2 (by omega), dist_dn f1 t2 (by omega)] at h
      omega
    · rw [dist_dn t1 f2 (by omega)] at u2
      rw [dist_up t1 f2 (by omega)] at h
      by_cases hw : f + u < sz b
      · rw [Int.emod_eq_of_lt (by omega) hw] at hx
        rw [dist_up t1 x2 (by omega)] at h
        omega
      · have hx2 : x = f + u - sz b := by
          rw [hx, show f + u = (f + u - sz b) + sz b * 1 by omega, Int.add_mul_emod_self_left]
          rw [Int.emod_eq_of_lt (by omega) (by omega)]
          omega
        rw [dist_dn x1 t2 (by omega)] at h
        omega
/-- the digit of a key that comes next -/
theorem dgt4_bd (d k l : Int) : 0 ≤ dgt4 d k l ∧ dgt4 d k l < sz d := by
  unfold dgt4
  exact ⟨Int.emod_nonneg _ (by have := sz_pos d; omega), Int.emod_lt_of_pos _ (sz_pos _)⟩
/-- a digit more is shifted in -/
theorem shift_more {b d z k l : Int} (hg : gsB b d = true) (hl1 : 1 ≤ l) (hl2 : l ≤ b / d) (k1 : 0 ≤ k) (h : z % sz ((b / d - l) * d) = k / sz (l * d)) : shf b d z (dgt4 d k l) % sz ((b / d - (l - 1)) * d) = k / sz ((l - 1) * d) := by
  obtain ⟨_, _, h3, _, _⟩ := gsB_true hg
  have n1 : 0 ≤ (b / d - l) * d := Int.mul_nonneg (by omega) (by omega)
  have n2 : 0 ≤ (l - 1) * d := Int.mul_nonneg (by omega) (by omega)
  have e1 : (b / d - (l - 1)) * d = (b / d - l) * d + d := by rw [show b / d - (l - 1) = (b / d - l) + 1 by omega, Int.add_mul, Int.one_mul]
  have e2 : l * d = (l - 1) * d + d := by rw [Int.sub_mul, Int.one_mul]; omega
  unfold shf
  rw [mod_mod_part hg (by omega) (by omega), e1, sz_add n1 (by omega)]
  rw [e2, sz_add n2 (by omega)] at h
  unfold dgt4
  have hp := sz_pos ((b / d - l) * d)
  have hd := sz_pos d
  have hq := sz_pos ((l - 1) * d)
  generalize sz ((b / d - l) * d) = p at *
  generalize sz ((l - 1) * d) = q at *
  generalize sz d = s at *
  rw [← Int.ediv_ediv_of_nonneg (Int.le_of_lt hq)] at h
  have hk0 : 0 ≤ k / q := Int.ediv_nonneg k1 (Int.le_of_lt hq)
  generalize k / q = y at *
  have hy := Int.mul_ediv_add_emod y s
  have hz := Int.mul_ediv_add_emod z p
  have hg1 := Int.emod_nonneg y (show s ≠ 0 by omega)
  have hg2 := Int.emod_lt_of_pos y hd
  have e : z * s + y % s = (y / s * s + y % s) + p * s * (z / p) := by
    conv => lhs; rw [← hz, h]
    rw [Int.add_mul, Int.mul_right_comm]
    omega
  rw [e, Int.add_mul_emod_self_left, Int.mul_comm (y / s) s, hy]
  refine Int.emod_eq_of_lt hk0 ?_
  have hz2 := Int.emod_lt_of_pos z hp
  rw [h] at hz2
  have := Int.mul_le_mul_of_nonneg_right (show y / s + 1 ≤ p by omega) (Int.le_of_lt hd)
  rw [Int.add_mul, Int.one_mul] at this
  have hc := Int.mul_comm (y / s) s
  omega
end Go.Proofs.Ytejajlloipkkhaa
