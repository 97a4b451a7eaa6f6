/- What the cursor draws: a space, and a number of it, mostly. -/
import Derived.Test.YtpgngfdhnoonjaaC0
namespace Go.Proofs.Ytpgngfdhnoonjaa
open Go.RowKit
set_option linter.unusedVariables false

theorem least_any (x y : Int) (w : World) :
    Calls Try.prog 77 #[.int .i64 x, .int .i64 y] w fun e w' => e = .returned (.int .i64 (min x y)) ∧ w' = w := by
  by_cases h : x < y
  · rw [show min x y = x from by omega]
    go_enter Try.func77, Try.ntmps77
    go_wp2
    go_ret
    exact ⟨rfl, rfl⟩
  · rw [show min x y = y from by omega]
    go_enter Try.func77, Try.ntmps77
    go_wp2
    go_ret
    exact ⟨rfl, rfl⟩
theorem most_any (x y : Int) (w : World) :
    Calls Try.prog 78 #[.int .i64 x, .int .i64 y] w fun e w' => e = .returned (.int .i64 (max x y)) ∧ w' = w := by
  by_cases h : y < x
  · rw [show max x y = x from by omega]
    go_enter Try.func78, Try.ntmps78
    go_wp2
    go_ret
    exact ⟨rfl, rfl⟩
  · rw [show max x y = y from by omega]
    go_enter Try.func78, Try.ntmps78
    go_wp2
    go_ret
    exact ⟨rfl, rfl⟩
theorem sz_bd0 {b : Int} (h1 : 0 ≤ b) (h2 : b ≤ 12) : 1 ≤ sz b ∧ sz b ≤ 4096 := by
  by_cases h : b = 0
  · subst h; decide +kernel
  · have := sz_bd (by omega : 1 ≤ b) h2; omega
theorem wrap_sz0 {b : Int} (h1 : 0 ≤ b) (h2 : b ≤ 12) : wrap64 (2 ^ b.toNat) = sz b := by
  have h := sz_bd0 h1 h2
  exact IntWalk.wrap64_in (sz b) (by omega)

set_option maxHeartbeats 1600000 in
theorem num_any (b d : Int) (w : World) (g n : Nat) (a : Option Addr) (cap : Nat) (zs : List Int) (hc : CurAt w g n a cap zs) (hn : n ≤ 100000000) :
    Calls Try.prog 62 #[.pointer (some ⟨g, 0, none⟩), .agg #[.int .i64 b, .int .i64 d]] w fun e w' => ∃ v : Int, e = .returned (.int .i64 v) ∧ -1 ≤ v ∧ v ≤ 4096 ∧ Mv g w w' ∧ CurAt w' g (n + 4) a cap zs := by
  have hlt := hc.lt
  go_enter Try.func62, Try.ntmps62
  go_wp2_with fail
  refine (most_any _ _ _).mono ?_
  rintro e w0 ⟨rfl, rfl⟩
  go_wp2_with fail
  refine (least_any _ _ _).mono ?_
  rintro e w0 ⟨rfl, rfl⟩
  have hl1 : 0 ≤ min (max b 0) 12 := by omega
  have hl2 : min (max b 0) 12 ≤ 12 := by omega
  obtain ⟨s1, s2⟩ := sz_bd0 hl1 hl2
  have hw := wrap_sz0 hl1 hl2
  generalize min (max b 0) 12 = lm at hl1 hl2 s1 s2 hw
  go_wp2_with fail
  have mv0 : Mv g w (w.alloc (.cells #[.int .i64 b, .int .i64 d] 25)) := Mv.of_below ((Below.refl _ _).alloc (Nat.le_refl _) _)
  have hc0 := hc.keep ((Below.refl _ _).alloc (Nat.le_refl _) (.cells #[.int .i64 b, .int .i64 d] 25))
  rw [hw]
  clear hw
  generalize sz lm = m at s1 s2
  refine (one_any _ _ _ _ _ _ _ hc0 (by omega) (by omega) (by omega)).mono ?_
  rintro e w1 ⟨v1, rfl, mv1, hc1⟩
  cases v1
  · go_wp2_with fail
    refine (next_any _ _ _ _ _ _ hc1 (by omega)).mono ?_
    rintro e w2 ⟨v2, rfl, p1, p2, mv2, hc2⟩
    go_wp2_with fail
    refine (next_any _ _ _ _ _ _ hc2 (by omega)).mono ?_
    rintro e w3 ⟨v3, rfl, p3, p4, mv3, hc3⟩
    go_wp2
    go_ret
    have q1 : 0 ≤ (v2 * 256 + v3) % m := Int.emod_nonneg _ (by omega)
    have q2 : (v2 * 256 + v3) % m < m := Int.emod_lt_of_pos _ (by omega)
    exact ⟨_, rfl, by omega, by omega, ((mv0.trans mv1).trans mv2).trans mv3, hc3⟩
  · go_wp2_with fail
    have hs1 := mv1.size
    refine (among_any [-1, m] w1.heap.size 2 _ _ _ _ _ _ (hc1.keep ((Below.refl _ _).alloc (Nat.le_refl _) _)) (by omega) (by simp) (by simp) (by simp) (by have := hc1.lt; omega) ?hy).mono ?_
    case hy =>
      intro i hi
      match i, hi with
      | 0, _ => simp
      | 1, _ => simp
    rintro e w2 ⟨v2, rfl, hmem, mv2, hc2⟩
    simp at hmem
    go_wp2
    go_ret
    exact ⟨v2, rfl, by omega, by omega, ((mv0.trans mv1).trans (Mv.of_below ((Below.refl _ _).alloc (Nat.le_refl _) _))).trans mv2, hc2⟩
end Go.Proofs.Ytpgngfdhnoonjaa
