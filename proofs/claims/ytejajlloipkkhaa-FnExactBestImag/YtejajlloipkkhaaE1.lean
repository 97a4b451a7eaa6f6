/- BestImag on both sides. -/
import Derived.Test.YtejajlloipkkhaaE0
namespace Go.Proofs.Ytejajlloipkkhaa
open Go.RowKit
set_option linter.unusedVariables false
def bstOk (b d f t k : Int) : Bool := numB b d f && numB b d t && numB b d k
def bstV (b d f t k : Int) : Int × Int := if bstOk b d f t k = true then bestI b d f t k else (0, 0)
set_option maxHeartbeats 800000 in
theorem BestImag_any (b d f t k : Int) (w : World) :
    Calls Try.prog 34 #[.agg #[.int .i64 b, .int .i64 d], .int .i64 f, .int .i64 t, .int .i64 k] w fun e w' => e = .returned (.tuple #[.int .i64 (bstV b d f t k).1, .int .i64 (bstV b d f t k).2, .bool (bstOk b d f t k)]) ∧ Below w.heap.size w w' := by
  unfold bstV bstOk
  cases hf : numB b d f
  · simp only [Bool.false_and]
    skip
    go_enter Try.func34, Try.ntmps34
    go_wp2_with fail
    refine (isNumber_any _ _ _ _).mono ?_
    rintro e w1 ⟨rfl, hw1⟩
    obtain ⟨k10, k11, z1⟩ := keep2 (bk := w.heap.size) (u := .int .i64 b) (v := .int .i64 d) hw1 (by simp; try omega) (by simp) (by simp)
    go_wp2
    go_ret3
    exact ⟨rfl, bel1 hw1 (by simp; try omega)⟩
  · cases ht : numB b d t
    · simp only [Bool.false_and, Bool.and_false]
      go_enter Try.func34, Try.ntmps34
      go_wp2_with fail
      refine (isNumber_any _ _ _ _).mono ?_
      rintro e w1 ⟨rfl, hw1⟩
      obtain ⟨k10, k11, z1⟩ := keep2 (bk := w.heap.size) (u := .int .i64 b) (v := .int .i64 d) hw1 (by simp; try omega) (by simp) (by simp)
      go_wp2_with fail
      refine (isNumber_any _ _ _ _).mono ?_
      rintro e w2 ⟨rfl, hw2⟩
      obtain ⟨k20, k21, z2⟩ := keep2 hw2 z1 k10 k11
      go_wp2
      go_ret3
      exact ⟨rfl, belt (bel1 hw1 (by simp; try omega)) hw2⟩
    · cases hk : numB b d k
      · simp only [Bool.and_false]
        go_enter Try.func34, Try.ntmps34
        go_wp2_with fail
        refine (isNumber_any _ _ _ _).mono ?_
        rintro e w1 ⟨rfl, hw1⟩
        obtain ⟨k10, k11, z1⟩ := keep2 (bk := w.heap.size) (u := .int .i64 b) (v := .int .i64 d) hw1 (by simp; try omega) (by simp) (by simp)
        go_wp2_with fail
        refine (isNumber_any _ _ _ _).mono ?_
        rintro e w2 ⟨rfl, hw2⟩
        obtain ⟨k20, k21, z2⟩ := keep2 hw2 z1 k10 k11
        go_wp2_with fail
        refine (isNumber_any _ _ _ _).mono ?_
        rintro e w3 ⟨rfl, hw3⟩
        obtain ⟨k30, k31, z3⟩ := keep2 hw3 z2 k20 k21
        go_wp2
        go_ret3
        exact ⟨rfl, belt (belt (bel1 hw1 (by simp; try omega)) hw2) hw3⟩
      · obtain ⟨hg, f1, f2⟩ := numB_true hf
        obtain ⟨_, t1, t2⟩ := numB_true ht
        obtain ⟨_, k1, k2⟩ := numB_true hk
        simp only [Bool.and_self, if_true]
        go_enter Try.func34, Try.ntmps34
        go_wp2_with fail
        refine (isNumber_any _ _ _ _).mono ?_
        rintro e w1 ⟨rfl, hw1⟩
        obtain ⟨k10, k11, z1⟩ := keep2 (bk := w.heap.size) (u := .int .i64 b) (v := .int .i64 d) hw1 (by simp; try omega) (by simp) (by simp)
        go_wp2_with fail
        refine (isNumber_any _ _ _ _).mono ?_
        rintro e w2 ⟨rfl, hw2⟩
        obtain ⟨k20, k21, z2⟩ := keep2 hw2 z1 k10 k11
        go_wp2_with fail
        refine (isNumber_any _ _ _ _).mono ?_
        rintro e w3 ⟨rfl, hw3⟩
        obtain ⟨k30, k31, z3⟩ := keep2 hw3 z2 k20 k21
        go_wp2_with fail
        refine (imagFrom_any _ _ _ _ _ _ hg f1 f2 t1 t2 k1 k2).mono ?_
        rintro e w4 ⟨rfl, hw4⟩
        obtain ⟨k40, k41, z4⟩ := keep2 hw4 z3 k30 k31
        go_wp2
        go_ret3
        exact ⟨rfl, belt (belt (belt (bel1 hw1 (by simp; try omega)) hw2) hw3) hw4⟩
set_option maxHeartbeats 800000 in
theorem lBestImag_any (b d f t k : Int) (w : World) :
    Calls Try.prog 35 #[.agg #[.int .i64 b, .int .i64 d], .int .i64 f, .int .i64 t, .int .i64 k] w fun e w' => e = .returned (.tuple #[.int .i64 (bstV b d f t k).1, .int .i64 (bstV b d f t k).2, .bool (bstOk b d f t k)]) ∧ Below w.heap.size w w' := by
  have hn := numsB_3 b d f t k
  unfold bstV bstOk
  cases hx : (numB b d f && numB b d t && numB b d k)
  ·
    rw [hx] at hn
    go_enter Try.func35, Try.ntmps35
    go_wp2_with fail
    refine (lnums_any b d _ _ _ [f, t, k] _ (by simp [maxLen]) ?hl ?hc).mono ?_
    case hl => simp
    case hc =>
      intro i hi
      match i, hi with
      | 0, _ => simp
      | 1, _ => simp
      | 2, _ => simp
    rintro e w1 ⟨rfl, hw1⟩
    obtain ⟨k10, k11, z1⟩ := keep2 (bk := w.heap.size) (u := .int .i64 b) (v := .int .i64 d) hw1 (by simp; try omega) (by simp) (by simp)
    go_wp2
    go_ret3
    exact ⟨rfl, bel2 hw1 (by simp; try omega)⟩
  ·
    have hx2 := hx
    rw [Bool.and_eq_true, Bool.and_eq_true] at hx2
    obtain ⟨⟨hf, ht⟩, hk⟩ := hx2
    obtain ⟨hg, f1, f2⟩ := numB_true hf
    obtain ⟨_, t1, t2⟩ := numB_true ht
    obtain ⟨_, k1, k2⟩ := numB_true hk
    clear hf ht hk
    rw [hx] at hn
    go_enter Try.func35, Try.ntmps35
    go_wp2_with fail
    refine (lnums_any b d _ _ _ [f, t, k] _ (by simp [maxLen]) ?hl ?hc).mono ?_
    case hl => simp
    case hc =>
      intro i hi
      match i, hi with
      | 0, _ => simp
      | 1, _ => simp
      | 2, _ => simp
    rintro e w1 ⟨rfl, hw1⟩
    obtain ⟨k10, k11, z1⟩ := keep2 (bk := w.heap.size) (u := .int .i64 b) (v := .int .i64 d) hw1 (by simp; try omega) (by simp) (by simp)
    go_wp2_with fail
    refine (lbest_any _ _ _ _ _ _ hg f1 f2 t1 t2 k1 k2).mono ?_
    rintro e w2 ⟨rfl, hw2⟩
    obtain ⟨k20, k21, z2⟩ := keep2 hw2 z1 k10 k11
    go_wp2
    go_ret3
    exact ⟨rfl, belt (bel2 hw1 (by simp; try omega)) hw2⟩
end Go.Proofs.Ytejajlloipkkhaa
