/- GoodMsg: the program answers as the specification. -/
import Derived.Test.YtabbicfakkehpaaDoorF8
namespace Go.Proofs.YtabbicfakkehpaaDoor
open Go.RowKit Go.Deep
set_option linter.unusedVariables false
set_option linter.unusedSimpArgs false
theorem pv_all (F : List Int) (f x : Int) : pv F F.length f x = if hasB F f = true then x else 0 := by unfold pv; rw [List.take_length]
theorem has_ok {b d x0 x4 x5 x6 x7 f : Int} (F : ∀ j, j < (fld x0).length → (fld x0).getD j 0 = 5 ∨ inB (vf x4 x5 x6 x7 ((fld x0).getD j 0)) 0 (mo b d ((fld x0).getD j 0)) = true) (h5 : ¬ f = 5) (h : hasB (fld x0) f = true) : inB (vf x4 x5 x6 x7 f) 0 (mo b d f) = true := by
  obtain ⟨i, hi, he⟩ := of_decide_eq_true h
  rcases F i hi with h | h
  · omega
  · rwa [he] at h
def lO (x0 : Int) (l : List Int) : List Int := if hasB (fld x0) 5 = true then l else []
theorem gm_end {b d x0 x1 x2 x3 x4 x5 x6 x7 : Int} {l : List Int} (A : numsB b d [x2, x3] = true) (B : inB x0 1 8 = true) (C : inB x1 0 255 = true) (T : toldB b l = true)
    (F : ∀ j, j < (fld x0).length → (fld x0).getD j 0 = 5 ∨ inB (vf x4 x5 x6 x7 ((fld x0).getD j 0)) 0 (mo b d ((fld x0).getD j 0)) = true) :
    gmB b d x0 x1 x2 x3 x4 x5 x6 x7 l = (hdB x0 x1 x2 x3 x4 x5 x6 x7 x0 x1 x2 x3 (pv (fld x0) (fld x0).length 1 x4) (pv (fld x0) (fld x0).length 2 x5) (pv (fld x0) (fld x0).length 3 x6) (pv (fld x0) (fld x0).length 4 x7) && sameB l (lO x0 l)) := by
  have G := numsB_gs A
  have k1 : fldB b d x0 x4 x5 x6 x7 l 1 = decide (x4 = pv (fld x0) (fld x0).length 1 x4) := by
    rw [pv_all]; unfold fldB
    cases e : hasB (fld x0) 1
    · simp [noF]
    · have := has_ok F (by omega) e
      simp [vf, mo] at this
      simp [okF, numB, G, this]
  have k2 : fldB b d x0 x4 x5 x6 x7 l 2 = decide (x5 = pv (fld x0) (fld x0).length 2 x5) := by
    rw [pv_all]; unfold fldB
    cases e : hasB (fld x0) 2
    · simp [noF]
    · have := has_ok F (by omega) e
      simp [vf, mo] at this
      simp [okF, numB, G, this]
  have k3 : fldB b d x0 x4 x5 x6 x7 l 3 = decide (x6 = pv (fld x0) (fld x0).length 3 x6) := by
    rw [pv_all]; unfold fldB
    cases e : hasB (fld x0) 3
    · simp [noF]
    · have := has_ok F (by omega) e
      simp [vf, mo] at this
      simp [okF, this]
  have k4 : fldB b d x0 x4 x5 x6 x7 l 4 = decide (x7 = pv (fld x0) (fld x0).length 4 x7) := by
    rw [pv_all]; unfold fldB
    cases e : hasB (fld x0) 4
    · simp [noF]
    · have := has_ok F (by omega) e
      simp [vf, mo] at this
      simp [okF, this]
  have k5 : fldB b d x0 x4 x5 x6 x7 l 5 = sameB l (lO x0 l) := by
    unfold fldB lO sameB
    unfold toldB at T
    cases e : hasB (fld x0) 5
    · simp [noF]
    · simp [okF, numsB, G]
      simpa using T
  unfold gmB
  rw [A, B, C, k1, k2, k3, k4, k5]
  unfold hdB
  rw [Bool.eq_iff_iff]
  simp
  intro _
  simp only [and_assoc]
theorem pC_form (x0 x1 x2 x3 x4 x5 x6 x7 : Int) (a : Option Addr) (n cap : Nat) (l : List Int) (hn : l.length = n) : ∃ pa pn pc, pC (fld x0) (fld x0).length x0 x1 x2 x3 x4 x5 x6 x7 (.slice a n cap) = #[.int .i64 x0, .int .i64 x1, .int .i64 x2, .int .i64 x3, .int .i64 (pv (fld x0) (fld x0).length 1 x4), .int .i64 (pv (fld x0) (fld x0).length 2 x5), .int .i64 (pv (fld x0) (fld x0).length 3 x6), .int .i64 (pv (fld x0) (fld x0).length 4 x7), .slice pa pn pc] ∧ (lO x0 l).length = pn ∧ (∀ w, RowAt w a l → RowAt w pa (lO x0 l)) := by
  unfold pC pS lO
  rw [List.take_length]
  cases hasB (fld x0) 5
  · exact ⟨none, 0, 0, rfl, rfl, fun w h => .inl rfl⟩
  · exact ⟨a, n, cap, rfl, hn, fun w h => h⟩
theorem gm_told {b d x0 x1 x2 x3 x4 x5 x6 x7 : Int} {l : List Int} (T : toldB b l = false) : gmB b d x0 x1 x2 x3 x4 x5 x6 x7 l = false := by
  refine gmB_n4 (f := 5) (by omega) (by omega) ?_
  unfold fldB
  unfold toldB at T
  cases e : hasB (fld x0) 5
  · simp [noF]
    intro h
    subst h
    simp [allB] at T
  · simp [okF, numsB]
    intro h1 h2
    simp at T
    exact T h1
theorem gm_field {b d x0 x1 x2 x3 x4 x5 x6 x7 : Int} {l : List Int} {j : Nat} (hj : j < (fld x0).length) (h5 : ¬ (fld x0).getD j 0 = 5) (h : inB (vf x4 x5 x6 x7 ((fld x0).getD j 0)) 0 (mo b d ((fld x0).getD j 0)) = false) : gmB b d x0 x1 x2 x3 x4 x5 x6 x7 l = false := by
  obtain ⟨m1, m2⟩ := fld_mem x0 j hj
  have hh : hasB (fld x0) ((fld x0).getD j 0) = true := decide_eq_true ⟨j, hj, rfl⟩
  refine gmB_n4 (f := (fld x0).getD j 0) m1 m2 ?_
  unfold fldB
  rw [hh]
  have : (fld x0).getD j 0 = 1 ∨ (fld x0).getD j 0 = 2 ∨ (fld x0).getD j 0 = 3 ∨ (fld x0).getD j 0 = 4 := by omega
  rcases this with e | e | e | e <;> rw [e] at h ⊢ <;> simp [vf, mo] at h <;> simp [okF, numB, h]
theorem gm_gs {b d x0 x1 x2 x3 x4 x5 x6 x7 : Int} {l : List Int} (h : gsB b d = false) : gmB b d x0 x1 x2 x3 x4 x5 x6 x7 l = false := gmB_n1 (by unfold numsB; rw [h]; rfl)
theorem gm_to {b d x0 x1 x2 x3 x4 x5 x6 x7 : Int} {l : List Int} (h : numB b d x2 = false) : gmB b d x0 x1 x2 x3 x4 x5 x6 x7 l = false := gmB_n1 (by rw [numsB_2, h]; rfl)
theorem gm_from {b d x0 x1 x2 x3 x4 x5 x6 x7 : Int} {l : List Int} (h : numB b d x3 = false) : gmB b d x0 x1 x2 x3 x4 x5 x6 x7 l = false := gmB_n1 (by rw [numsB_2, h]; simp)
theorem gm_x1 {b d x0 x1 x2 x3 x4 x5 x6 x7 : Int} {l : List Int} (h : ¬ (0 ≤ x1 ∧ x1 ≤ 255)) : gmB b d x0 x1 x2 x3 x4 x5 x6 x7 l = false := gmB_n3 (inB_no h)
end Go.Proofs.YtabbicfakkehpaaDoor
