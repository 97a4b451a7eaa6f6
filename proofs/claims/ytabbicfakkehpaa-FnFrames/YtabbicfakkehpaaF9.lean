/- GoodMsg: the program answers as the specification. -/
import Derived.Test.YtabbicfakkehpaaF8
namespace Go.Proofs.Ytabbicfakkehpaa
open Go.RowKit Go.Deep
set_option linter.unusedVariables false
set_option linter.unusedSimpArgs false
theorem pv_all (F : List Int) (f x : Int) : pv F F.length f x = if hasB F f = true then x else 0 := by unfold pv; rw [List.take_length]
theorem has_ok {b d x0 x4 x5 x6 x7 f : Int} (F : ∀ j, j < (fld x0).length → (fld x0).getD j 0 = 5 ∨ inB (vf x4 x5 x6 x7 ((fld x0).getD j 0)) 0 (mo b d ((fld x0).getD j 0)) = true) (h5 : ¬ f = 5) (h : hasB (fld x0) f = true) : inB (vf x4 x5 x6 x7 f) 0 (mo b d f) = true := by
  obtain ⟨i, hi, he⟩ := of_decide_eq_true h
  rcases F i hi with h | h
  · omega
  · rwa [he] at h
def lO (x0 : Int) (l : List Int) : List Int := if hasB (fld x0) 5 = true then l else []
theorem gm_end {b d x0 x1 x2 x3 x4 x5 x6 x7 : Int} {l : List Int} (A : numsB b d [x2, x3] = true) (B : inB x0 1 8 = true) (C : inB x1 0 255 = true) (T : toldB b l = true)
    (F : ∀ j, j < (fld x0).length → (fld x0).getD j 0 = 5 ∨ inB (vf x4 x5 x6 x7 ((fld x0).getD j 0)) 0 (mo b d ((fld x0).getD j 0)) = true) :
    gmB b d x0 x1 x2 x3 x4 x5 x6 x7 l = (hdB x0 x1 x2 x3 x4 x5 x6 x7 x0 x1 x2 x3 (pv (fld x0) (fld x0).length 1 x4) (pv (fld x0) (fld x0).length 2 x5) (pv (fld x0) (fld x0).length 3 x6) (pv (fld x0) (fld x0).length 4 x7) && sameB l (lO x0 l)) := by
  have G := numsB_gs A
  have k1 : fldB b d x0 x4 x5 x6 x7 l 1 = decide (x4 = pv (fld x0) (fld x0).length 1 x4) := by
    rw [pv_all]; unfold fldB
    cases e : hasB (fld x0) 1
    · simp [noF]
    · have := has_ok F (by omega) e
      simp [vf, mo] at this
      simp [okF, numB, G, this]
  have k2 : fldB b d x0 x4 x5 x6 x7 l 2 = decide (x5 = pv (fld x0) (fld x0).length 2 x5) := by
    rw [pv_all]; unfold fldB
    cases e : hasB (fld x0) 2
    · simp [noF]
    · have := has_ok F (by omega) e
      simp [vf, mo] at this
      simp [okF, numB, G, this]
  have k3 : fldB b d x0 x4 x5 x6 x7 l 3 = decide (x6 = pv (fld x0) (fld x0).length 3 x6) := by
    rw [pv_all]; unfold fldB
    cases e : hasB (fld x0) 3
    · simp [noF]
    · have := has_ok F (by omega) e
      simp [vf, mo] at this
      simp [okF, this]
  have k4 : fldB b d x0 x4 x5 x6 x7 l 4 = decide (x7 = pv (fld x0) (fld x0).length 4 x7) := by
    rw [pv_all]; unfold fldB
    cases e : hasB (fld x0) 4
    · simp [noF]
    · have := has_ok F (by omega) e
      simp [vf, mo] at this
      simp [okF, this]
  have k5 : fldB b d x0 x4 x5 x6 x7 l 5 = sameB l (lO x0 l) := by
    unfold fldB lO sameB
    unfold toldB at T
    cases e : hasB (fld x0) 5
    · simp [noF]
    · simp [okF, numsB, G]
      simpa using T
  unfold gmB
  rw [A, B, C, k1, k2, k3, k4, k5]
  unfold hdB
  rw [Bool.eq_iff_iff]
  simp
  intro _
  simp only [and_assoc]
theorem pC_form (x0 x1 x2 x3 x4 x5 x6 x7 : Int) (a : Option Addr) (n cap : Nat) (l : List Int) (hn : l.length = n) : ∃ pa pn pc, pC (fld x0) (fld x0).length x0 x1 x2 x3 x4 x5 x6 x7 (.slice a n cap) = #[.int .i64 x0, .int .i64 x1, .int .i64 x2, .int .i64 x3, .int .i64 (pv (fld x0) (fld x0).length 1 x4), .int .i64 (pv (fld x0) (fld x0).length 2 x5), .int .i64 (pv (fld x0) (fld x0).length 3 x6), .int .i64 (pv (fld x0) (fld x0).length 4 x7), .slice pa pn pc] ∧ (lO x0 l).length = pn ∧ (∀ w, RowAt w a l → RowAt w pa (lO x0 l)) := by
  unfold pC pS lO
  rw [List.take_length]
  cases hasB (fld x0) 5
  · exact ⟨none, 0, 0, rfl, rfl, fun w h => .inl rfl⟩
  · exact ⟨a, n, cap, rfl, hn, fun w h => h⟩
theorem gm_told {b d x0 x1 x2 x3 x4 x5 x6 x7 : Int} {l : List Int} (T : toldB b l = false) : gmB b d x0 x1 x2 x3 x4 x5 x6 x7 l = false := by
  refine gmB_n4 (f := 5) (by omega) (by omega) ?_
  unfold fldB
  unfold toldB at T
  cases e : hasB (fld x0) 5
  · simp [noF]
    intro h
    subst h
    simp [allB] at T
  · simp [okF, numsB]
    intro h1 h2
    simp at T
    exact T h1
theorem gm_field {b d x0 x1 x2 x3 x4 x5 x6 x7 : Int} {l : List Int} {j : Nat} (hj : j < (fld x0).length) (h5 : ¬ (fld x0).getD j 0 = 5) (h : inB (vf x4 x5 x6 x7 ((fld x0).getD j 0)) 0 (mo b d ((fld x0).getD j 0)) = false) : gmB b d x0 x1 x2 x3 x4 x5 x6 x7 l = false := by
  obtain ⟨m1, m2⟩ := fld_mem x0 j hj
  have hh : hasB (fld x0) ((fld x0).getD j 0) = true := decide_eq_true ⟨j, hj, rfl⟩
  refine gmB_n4 (f := (fld x0).getD j 0) m1 m2 ?_
  unfold fldB
  rw [hh]
  have : (fld x0).getD j 0 = 1 ∨ (fld x0).getD j 0 = 2 ∨ (fld x0).getD j 0 = 3 ∨ (fld x0).getD j 0 = 4 := by omega
  rcases this with e | e | e | e <;> rw [e] at h ⊢ <;> simp [vf, mo] at h <;> simp [okF, numB, h]
theorem gm_gs {b d x0 x1 x2 x3 x4 x5 x6 x7 : Int} {l : List Int} (h : gsB b d = false) : gmB b d x0 x1 x2 x3 x4 x5 x6 x7 l = false := gmB_n1 (by unfold numsB; rw [h]; rfl)
theorem gm_to {b d x0 x1 x2 x3 x4 x5 x6 x7 : Int} {l : List Int} (h : numB b d x2 = false) : gmB b d x0 x1 x2 x3 x4 x5 x6 x7 l = false := gmB_n1 (by rw [numsB_2, h]; rfl)
theorem gm_from {b d x0 x1 x2 x3 x4 x5 x6 x7 : Int} {l : List Int} (h : numB b d x3 = false) : gmB b d x0 x1 x2 x3 x4 x5 x6 x7 l = false := gmB_n1 (by rw [numsB_2, h]; simp)
theorem gm_x1 {b d x0 x1 x2 x3 x4 x5 x6 x7 : Int} {l : List Int} (h : ¬ (0 ≤ x1 ∧ x1 ≤ 255)) : gmB b d x0 x1 x2 x3 x4 x5 x6 x7 l = false := gmB_n3 (inB_no h)
set_option maxRecDepth 100000 in
set_option maxHeartbeats 6400000 in
theorem GoodMsg_any (b d : Int) (x0 x1 x2 x3 x4 x5 x6 x7 : Int) (a : Option Addr) (cap n : Nat) (l : List Int) (w : World) (hn : l.length = n) (hm : n ≤ maxLen) (hr : RowAt w a l) :
    Calls Try.prog 20 #[.agg #[.int .i64 b, .int .i64 d], .agg #[.int .i64 x0, .int .i64 x1, .int .i64 x2, .int .i64 x3, .int .i64 x4, .int .i64 x5, .int .i64 x6, .int .i64 x7, .slice a n cap]] w fun e w' => e = .returned (.bool (gmB b d x0 x1 x2 x3 x4 x5 x6 x7 l)) ∧ Below w.heap.size w w' := by
  have HR : Hid (RowAt w a l) := hr
  clear hr
  cases hg0 : gsB b d
  · have hg : Hid (gsB b d = false) := hg0
    have hv : Hid (gmB b d x0 x1 x2 x3 x4 x5 x6 x7 l = false) := gm_gs hg0
    clear hg0
    go_enter Try.func20, Try.ntmps20
    go_wp2_with fail
    refine (good_any _ _ _).mono ?_
    rintro e w1 ⟨rfl, HW⟩
    rw [hg.out]
    obtain ⟨KA, KB, HB⟩ := bkAB HW
    have S_1 : Hid (Bk w1 w.heap.size #[.int .i64 b, .int .i64 d] 30) := KA
    have M_1 : Hid (Bk w1 (w.heap.size + 1) #[.int .i64 x0, .int .i64 x1, .int .i64 x2, .int .i64 x3, .int .i64 x4, .int .i64 x5, .int .i64 x6, .int .i64 x7, .slice a n cap] 33) := KB
    have BEL_1 : Hid (Below w.heap.size w w1) := HB
    clear HW KA KB HB
    obtain ⟨qS0, qS1⟩ := Bk.c2 S_1.out
    have lS := Bk.lt S_1.out
    obtain ⟨qM0, qM1, qM2, qM3, qM4, qM5, qM6, qM7, qM8⟩ := Bk.c9 M_1.out
    have lM := Bk.lt M_1.out
    go_wp2
    go_ret
    exact ⟨ret_bool hv.out.symm, BEL_1.out⟩
  have hg : Hid (gsB b d = true) := hg0
  have hgt : Hid (gsB b d = true) := hg0
  clear hg0
  cases hk0 : kdB x0
  · have hk : Hid (kdB x0 = false) := hk0
    have hv : Hid (gmB b d x0 x1 x2 x3 x4 x5 x6 x7 l = false) := gmB_n2 hk0
    clear hk0
    go_enter Try.func20, Try.ntmps20
    go_wp2_with fail
    refine (good_any _ _ _).mono ?_
    rintro e w1 ⟨rfl, HW⟩
    rw [hg.out]
    obtain ⟨KA, KB, HB⟩ := bkAB HW
    have S_1 : Hid (Bk w1 w.heap.size #[.int .i64 b, .int .i64 d] 30) := KA
    have M_1 : Hid (Bk w1 (w.heap.size + 1) #[.int .i64 x0, .int .i64 x1, .int .i64 x2, .int .i64 x3, .int .i64 x4, .int .i64 x5, .int .i64 x6, .int .i64 x7, .slice a n cap] 33) := KB
    have BEL_1 : Hid (Below w.heap.size w w1) := HB
    clear HW KA KB HB
    obtain ⟨qS0, qS1⟩ := Bk.c2 S_1.out
    have lS := Bk.lt S_1.out
    obtain ⟨qM0, qM1, qM2, qM3, qM4, qM5, qM6, qM7, qM8⟩ := Bk.c9 M_1.out
    have lM := Bk.lt M_1.out
    go_wp2_with fail
    refine (isKind_any _ _).mono ?_
    rintro e vx ⟨rfl, hx⟩
    have hx' := hx.symm
    clear hx
    subst hx'
    clear qS0 qS1 lS qM0 qM1 qM2 qM3 qM4 qM5 qM6 qM7 qM8 lM
    rw [hk.out]
    obtain ⟨qS0, qS1⟩ := Bk.c2 S_1.out
    have lS := Bk.lt S_1.out
    obtain ⟨qM0, qM1, qM2, qM3, qM4, qM5, qM6, qM7, qM8⟩ := Bk.c9 M_1.out
    have lM := Bk.lt M_1.out
    go_wp2
    go_ret
    exact ⟨ret_bool hv.out.symm, BEL_1.out⟩
  have hk : Hid (kdB x0 = true) := hk0
  have hk1 : Hid (inB x0 1 8 = true) := hk0
  clear hk0
  by_cases hx1 : 0 ≤ x1
  case neg =>
    have hv : Hid (gmB b d x0 x1 x2 x3 x4 x5 x6 x7 l = false) := gm_x1 (by omega)
    go_enter Try.func20, Try.ntmps20
    go_wp2_with fail
    refine (good_any _ _ _).mono ?_
    rintro e w1 ⟨rfl, HW⟩
    rw [hg.out]
    obtain ⟨KA, KB, HB⟩ := bkAB HW
    have S_1 : Hid (Bk w1 w.heap.size #[.int .i64 b, .int .i64 d] 30) := KA
    have M_1 : Hid (Bk w1 (w.heap.size + 1) #[.int .i64 x0, .int .i64 x1, .int .i64 x2, .int .i64 x3, .int .i64 x4, .int .i64 x5, .int .i64 x6, .int .i64 x7, .slice a n cap] 33) := KB
    have BEL_1 : Hid (Below w.heap.size w w1) := HB
    clear HW KA KB HB
    obtain ⟨qS0, qS1⟩ := Bk.c2 S_1.out
    have lS := Bk.lt S_1.out
    obtain ⟨qM0, qM1, qM2, qM3, qM4, qM5, qM6, qM7, qM8⟩ := Bk.c9 M_1.out
    have lM := Bk.lt M_1.out
    go_wp2_with fail
    refine (isKind_any _ _).mono ?_
    rintro e vx ⟨rfl, hx⟩
    have hx' := hx.symm
    clear hx
    subst hx'
    clear qS0 qS1 lS qM0 qM1 qM2 qM3 qM4 qM5 qM6 qM7 qM8 lM
    rw [hk.out]
    obtain ⟨qS0, qS1⟩ := Bk.c2 S_1.out
    have lS := Bk.lt S_1.out
    obtain ⟨qM0, qM1, qM2, qM3, qM4, qM5, qM6, qM7, qM8⟩ := Bk.c9 M_1.out
    have lM := Bk.lt M_1.out
    go_wp2
    go_ret
    exact ⟨ret_bool hv.out.symm, BEL_1.out⟩
  by_cases hx2 : x1 ≤ 255
  case neg =>
    have hv : Hid (gmB b d x0 x1 x2 x3 x4 x5 x6 x7 l = false) := gm_x1 (by omega)
    go_enter Try.func20, Try.ntmps20
    go_wp2_with fail
    refine (good_any _ _ _).mono ?_
    rintro e w1 ⟨rfl, HW⟩
    rw [hg.out]
    obtain ⟨KA, KB, HB⟩ := bkAB HW
    have S_1 : Hid (Bk w1 w.heap.size #[.int .i64 b, .int .i64 d] 30) := KA
    have M_1 : Hid (Bk w1 (w.heap.size + 1) #[.int .i64 x0, .int .i64 x1, .int .i64 x2, .int .i64 x3, .int .i64 x4, .int .i64 x5, .int .i64 x6, .int .i64 x7, .slice a n cap] 33) := KB
    have BEL_1 : Hid (Below w.heap.size w w1) := HB
    clear HW KA KB HB
    obtain ⟨qS0, qS1⟩ := Bk.c2 S_1.out
    have lS := Bk.lt S_1.out
    obtain ⟨qM0, qM1, qM2, qM3, qM4, qM5, qM6, qM7, qM8⟩ := Bk.c9 M_1.out
    have lM := Bk.lt M_1.out
    go_wp2_with fail
    refine (isKind_any _ _).mono ?_
    rintro e vx ⟨rfl, hx⟩
    have hx' := hx.symm
    clear hx
    subst hx'
    clear qS0 qS1 lS qM0 qM1 qM2 qM3 qM4 qM5 qM6 qM7 qM8 lM
    rw [hk.out]
    obtain ⟨qS0, qS1⟩ := Bk.c2 S_1.out
    have lS := Bk.lt S_1.out
    obtain ⟨qM0, qM1, qM2, qM3, qM4, qM5, qM6, qM7, qM8⟩ := Bk.c9 M_1.out
    have lM := Bk.lt M_1.out
    go_wp2
    go_ret
    exact ⟨ret_bool hv.out.symm, BEL_1.out⟩
  have h1 : Hid (inB x1 0 255 = true) := inB_yes hx1 hx2
  cases h20 : numB b d x2
  · have h2 : Hid (numB b d x2 = false) := h20
    have hv : Hid (gmB b d x0 x1 x2 x3 x4 x5 x6 x7 l = false) := gm_to h20
    clear h20
    go_enter Try.func20, Try.ntmps20
    go_wp2_with fail
    refine (good_any _ _ _).mono ?_
    rintro e w1 ⟨rfl, HW⟩
    rw [hg.out]
    obtain ⟨KA, KB, HB⟩ := bkAB HW
    have S_1 : Hid (Bk w1 w.heap.size #[.int .i64 b, .int .i64 d] 30) := KA
    have M_1 : Hid (Bk w1 (w.heap.size + 1) #[.int .i64 x0, .int .i64 x1, .int .i64 x2, .int .i64 x3, .int .i64 x4, .int .i64 x5, .int .i64 x6, .int .i64 x7, .slice a n cap] 33) := KB
    have BEL_1 : Hid (Below w.heap.size w w1) := HB
    clear HW KA KB HB
    obtain ⟨qS0, qS1⟩ := Bk.c2 S_1.out
    have lS := Bk.lt S_1.out
    obtain ⟨qM0, qM1, qM2, qM3, qM4, qM5, qM6, qM7, qM8⟩ := Bk.c9 M_1.out
    have lM := Bk.lt M_1.out
    go_wp2_with fail
    refine (isKind_any _ _).mono ?_
    rintro e vx ⟨rfl, hx⟩
    have hx' := hx.symm
    clear hx
    subst hx'
    clear qS0 qS1 lS qM0 qM1 qM2 qM3 qM4 qM5 qM6 qM7 qM8 lM
    rw [hk.out]
    obtain ⟨qS0, qS1⟩ := Bk.c2 S_1.out
    have lS := Bk.lt S_1.out
    obtain ⟨qM0, qM1, qM2, qM3, qM4, qM5, qM6, qM7, qM8⟩ := Bk.c9 M_1.out
    have lM := Bk.lt M_1.out
    go_wp2_with fail
    refine (isNumber_any _ _ _ _).mono ?_
    rintro e w2 ⟨rfl, HW⟩
    clear qS0 qS1 lS qM0 qM1 qM2 qM3 qM4 qM5 qM6 qM7 qM8 lM
    rw [h2.out]
    have S_2 : Hid (Bk w2 w.heap.size #[.int .i64 b, .int .i64 d] 30) := S_1.out.keep (HW)
    have M_2 : Hid (Bk w2 (w.heap.size + 1) #[.int .i64 x0, .int .i64 x1, .int .i64 x2, .int .i64 x3, .int .i64 x4, .int .i64 x5, .int .i64 x6, .int .i64 x7, .slice a n cap] 33) := M_1.out.keep (HW)
    have BEL_2 : Hid (Below w.heap.size w w2) := belt BEL_1.out (HW)
    clear S_1 M_1 BEL_1
    clear HW
    obtain ⟨qS0, qS1⟩ := Bk.c2 S_2.out
    have lS := Bk.lt S_2.out
    obtain ⟨qM0, qM1, qM2, qM3, qM4, qM5, qM6, qM7, qM8⟩ := Bk.c9 M_2.out
    have lM := Bk.lt M_2.out
    go_wp2
    go_ret
    exact ⟨ret_bool hv.out.symm, BEL_2.out⟩
  have h2 : Hid (numB b d x2 = true) := h20
  clear h20
  cases h30 : numB b d x3
  · have h3 : Hid (numB b d x3 = false) := h30
    have hv : Hid (gmB b d x0 x1 x2 x3 x4 x5 x6 x7 l = false) := gm_from h30
    clear h30
    go_enter Try.func20, Try.ntmps20
    go_wp2_with fail
    refine (good_any _ _ _).mono ?_
    rintro e w1 ⟨rfl, HW⟩
    rw [hg.out]
    obtain ⟨KA, KB, HB⟩ := bkAB HW
    have S_1 : Hid (Bk w1 w.heap.size #[.int .i64 b, .int .i64 d] 30) := KA
    have M_1 : Hid (Bk w1 (w.heap.size + 1) #[.int .i64 x0, .int .i64 x1, .int .i64 x2, .int .i64 x3, .int .i64 x4, .int .i64 x5, .int .i64 x6, .int .i64 x7, .slice a n cap] 33) := KB
    have BEL_1 : Hid (Below w.heap.size w w1) := HB
    clear HW KA KB HB
    obtain ⟨qS0, qS1⟩ := Bk.c2 S_1.out
    have lS := Bk.lt S_1.out
    obtain ⟨qM0, qM1, qM2, qM3, qM4, qM5, qM6, qM7, qM8⟩ := Bk.c9 M_1.out
    have lM := Bk.lt M_1.out
    go_wp2_with fail
    refine (isKind_any _ _).mono ?_
    rintro e vx ⟨rfl, hx⟩
    have hx' := hx.symm
    clear hx
    subst hx'
    clear qS0 qS1 lS qM0 qM1 qM2 qM3 qM4 qM5 qM6 qM7 qM8 lM
    rw [hk.out]
    obtain ⟨qS0, qS1⟩ := Bk.c2 S_1.out
    have lS := Bk.lt S_1.out
    obtain ⟨qM0, qM1, qM2, qM3, qM4, qM5, qM6, qM7, qM8⟩ := Bk.c9 M_1.out
    have lM := Bk.lt M_1.out
    go_wp2_with fail
    refine (isNumber_any _ _ _ _).mono ?_
    rintro e w2 ⟨rfl, HW⟩
    clear qS0 qS1 lS qM0 qM1 qM2 qM3 qM4 qM5 qM6 qM7 qM8 lM
    rw [h2.out]
    have S_2 : Hid (Bk w2 w.heap.size #[.int .i64 b, .int .i64 d] 30) := S_1.out.keep (HW)
    have M_2 : Hid (Bk w2 (w.heap.size + 1) #[.int .i64 x0, .int .i64 x1, .int .i64 x2, .int .i64 x3, .int .i64 x4, .int .i64 x5, .int .i64 x6, .int .i64 x7, .slice a n cap] 33) := M_1.out.keep (HW)
    have BEL_2 : Hid (Below w.heap.size w w2) := belt BEL_1.out (HW)
    clear S_1 M_1 BEL_1
    clear HW
    obtain ⟨qS0, qS1⟩ := Bk.c2 S_2.out
    have lS := Bk.lt S_2.out
    obtain ⟨qM0, qM1, qM2, qM3, qM4, qM5, qM6, qM7, qM8⟩ := Bk.c9 M_2.out
    have lM := Bk.lt M_2.out
    go_wp2_with fail
    refine (isNumber_any _ _ _ _).mono ?_
    rintro e w3 ⟨rfl, HW⟩
    clear qS0 qS1 lS qM0 qM1 qM2 qM3 qM4 qM5 qM6 qM7 qM8 lM
    rw [h3.out]
    have S_3 : Hid (Bk w3 w.heap.size #[.int .i64 b, .int .i64 d] 30) := S_2.out.keep (HW)
    have M_3 : Hid (Bk w3 (w.heap.size + 1) #[.int .i64 x0, .int .i64 x1, .int .i64 x2, .int .i64 x3, .int .i64 x4, .int .i64 x5, .int .i64 x6, .int .i64 x7, .slice a n cap] 33) := M_2.out.keep (HW)
    have BEL_3 : Hid (Below w.heap.size w w3) := belt BEL_2.out (HW)
    clear S_2 M_2 BEL_2
    clear HW
    obtain ⟨qS0, qS1⟩ := Bk.c2 S_3.out
    have lS := Bk.lt S_3.out
    obtain ⟨qM0, qM1, qM2, qM3, qM4, qM5, qM6, qM7, qM8⟩ := Bk.c9 M_3.out
    have lM := Bk.lt M_3.out
    go_wp2
    go_ret
    exact ⟨ret_bool hv.out.symm, BEL_3.out⟩
  have h3 : Hid (numB b d x3 = true) := h30
  clear h30
  have h23 : Hid (numsB b d [x2, x3] = true) := by unfold Hid; rw [numsB_2, h2.out, h3.out]; rfl
  cases ht0 : toldB b l
  · have ht : Hid (toldB b l = false) := ht0
    have hv : Hid (gmB b d x0 x1 x2 x3 x4 x5 x6 x7 l = false) := gm_told ht0
    clear ht0
    go_enter Try.func20, Try.ntmps20
    go_wp2_with fail
    refine (good_any _ _ _).mono ?_
    rintro e w1 ⟨rfl, HW⟩
    rw [hg.out]
    obtain ⟨KA, KB, HB⟩ := bkAB HW
    have S_1 : Hid (Bk w1 w.heap.size #[.int .i64 b, .int .i64 d] 30) := KA
    have M_1 : Hid (Bk w1 (w.heap.size + 1) #[.int .i64 x0, .int .i64 x1, .int .i64 x2, .int .i64 x3, .int .i64 x4, .int .i64 x5, .int .i64 x6, .int .i64 x7, .slice a n cap] 33) := KB
    have BEL_1 : Hid (Below w.heap.size w w1) := HB
    clear HW KA KB HB
    obtain ⟨qS0, qS1⟩ := Bk.c2 S_1.out
    have lS := Bk.lt S_1.out
    obtain ⟨qM0, qM1, qM2, qM3, qM4, qM5, qM6, qM7, qM8⟩ := Bk.c9 M_1.out
    have lM := Bk.lt M_1.out
    go_wp2_with fail
    refine (isKind_any _ _).mono ?_
    rintro e vx ⟨rfl, hx⟩
    have hx' := hx.symm
    clear hx
    subst hx'
    clear qS0 qS1 lS qM0 qM1 qM2 qM3 qM4 qM5 qM6 qM7 qM8 lM
    rw [hk.out]
    obtain ⟨qS0, qS1⟩ := Bk.c2 S_1.out
    have lS := Bk.lt S_1.out
    obtain ⟨qM0, qM1, qM2, qM3, qM4, qM5, qM6, qM7, qM8⟩ := Bk.c9 M_1.out
    have lM := Bk.lt M_1.out
    go_wp2_with fail
    refine (isNumber_any _ _ _ _).mono ?_
    rintro e w2 ⟨rfl, HW⟩
    clear qS0 qS1 lS qM0 qM1 qM2 qM3 qM4 qM5 qM6 qM7 qM8 lM
    rw [h2.out]
    have S_2 : Hid (Bk w2 w.heap.size #[.int .i64 b, .int .i64 d] 30) := S_1.out.keep (HW)
    have M_2 : Hid (Bk w2 (w.heap.size + 1) #[.int .i64 x0, .int .i64 x1, .int .i64 x2, .int .i64 x3, .int .i64 x4, .int .i64 x5, .int .i64 x6, .int .i64 x7, .slice a n cap] 33) := M_1.out.keep (HW)
    have BEL_2 : Hid (Below w.heap.size w w2) := belt BEL_1.out (HW)
    clear S_1 M_1 BEL_1
    clear HW
    obtain ⟨qS0, qS1⟩ := Bk.c2 S_2.out
    have lS := Bk.lt S_2.out
    obtain ⟨qM0, qM1, qM2, qM3, qM4, qM5, qM6, qM7, qM8⟩ := Bk.c9 M_2.out
    have lM := Bk.lt M_2.out
    go_wp2_with fail
    refine (isNumber_any _ _ _ _).mono ?_
    rintro e w3 ⟨rfl, HW⟩
    clear qS0 qS1 lS qM0 qM1 qM2 qM3 qM4 qM5 qM6 qM7 qM8 lM
    rw [h3.out]
    have S_3 : Hid (Bk w3 w.heap.size #[.int .i64 b, .int .i64 d] 30) := S_2.out.keep (HW)
    have M_3 : Hid (Bk w3 (w.heap.size + 1) #[.int .i64 x0, .int .i64 x1, .int .i64 x2, .int .i64 x3, .int .i64 x4, .int .i64 x5, .int .i64 x6, .int .i64 x7, .slice a n cap] 33) := M_2.out.keep (HW)
    have BEL_3 : Hid (Below w.heap.size w w3) := belt BEL_2.out (HW)
    clear S_2 M_2 BEL_2
    clear HW
    obtain ⟨qS0, qS1⟩ := Bk.c2 S_3.out
    have lS := Bk.lt S_3.out
    obtain ⟨qM0, qM1, qM2, qM3, qM4, qM5, qM6, qM7, qM8⟩ := Bk.c9 M_3.out
    have lM := Bk.lt M_3.out
    go_wp2_with fail
    refine (isTold_any b d a cap n l _ hgt.out hn hm (HR.out.keep BEL_3.out)).mono ?_
    rintro e w4 ⟨rfl, HW⟩
    clear qS0 qS1 lS qM0 qM1 qM2 qM3 qM4 qM5 qM6 qM7 qM8 lM
    rw [ht.out]
    have S_4 : Hid (Bk w4 w.heap.size #[.int .i64 b, .int .i64 d] 30) := S_3.out.keep (HW)
    have M_4 : Hid (Bk w4 (w.heap.size + 1) #[.int .i64 x0, .int .i64 x1, .int .i64 x2, .int .i64 x3, .int .i64 x4, .int .i64 x5, .int .i64 x6, .int .i64 x7, .slice a n cap] 33) := M_3.out.keep (HW)
    have BEL_4 : Hid (Below w.heap.size w w4) := belt BEL_3.out (HW)
    clear S_3 M_3 BEL_3
    clear HW
    obtain ⟨qS0, qS1⟩ := Bk.c2 S_4.out
    have lS := Bk.lt S_4.out
    obtain ⟨qM0, qM1, qM2, qM3, qM4, qM5, qM6, qM7, qM8⟩ := Bk.c9 M_4.out
    have lM := Bk.lt M_4.out
    go_wp2
    go_ret
    exact ⟨ret_bool hv.out.symm, BEL_4.out⟩
  have ht : Hid (toldB b l = true) := ht0
  clear ht0
  go_enter Try.func20, Try.ntmps20
  go_wp2_with fail
  refine (good_any _ _ _).mono ?_
  rintro e w1 ⟨rfl, HW⟩
  rw [hg.out]
  obtain ⟨KA, KB, HB⟩ := bkAB HW
  have S_1 : Hid (Bk w1 w.heap.size #[.int .i64 b, .int .i64 d] 30) := KA
  have M_1 : Hid (Bk w1 (w.heap.size + 1) #[.int .i64 x0, .int .i64 x1, .int .i64 x2, .int .i64 x3, .int .i64 x4, .int .i64 x5, .int .i64 x6, .int .i64 x7, .slice a n cap] 33) := KB
  have BEL_1 : Hid (Below w.heap.size w w1) := HB
  clear HW KA KB HB
  obtain ⟨qS0, qS1⟩ := Bk.c2 S_1.out
  have lS := Bk.lt S_1.out
  obtain ⟨qM0, qM1, qM2, qM3, qM4, qM5, qM6, qM7, qM8⟩ := Bk.c9 M_1.out
  have lM := Bk.lt M_1.out
  go_wp2_with fail
  refine (isKind_any _ _).mono ?_
  rintro e vx ⟨rfl, hx⟩
  have hx' := hx.symm
  clear hx
  subst hx'
  clear qS0 qS1 lS qM0 qM1 qM2 qM3 qM4 qM5 qM6 qM7 qM8 lM
  rw [hk.out]
  obtain ⟨qS0, qS1⟩ := Bk.c2 S_1.out
  have lS := Bk.lt S_1.out
  obtain ⟨qM0, qM1, qM2, qM3, qM4, qM5, qM6, qM7, qM8⟩ := Bk.c9 M_1.out
  have lM := Bk.lt M_1.out
  go_wp2_with fail
  refine (isNumber_any _ _ _ _).mono ?_
  rintro e w2 ⟨rfl, HW⟩
  clear qS0 qS1 lS qM0 qM1 qM2 qM3 qM4 qM5 qM6 qM7 qM8 lM
  rw [h2.out]
  have S_2 : Hid (Bk w2 w.heap.size #[.int .i64 b, .int .i64 d] 30) := S_1.out.keep (HW)
  have M_2 : Hid (Bk w2 (w.heap.size + 1) #[.int .i64 x0, .int .i64 x1, .int .i64 x2, .int .i64 x3, .int .i64 x4, .int .i64 x5, .int .i64 x6, .int .i64 x7, .slice a n cap] 33) := M_1.out.keep (HW)
  have BEL_2 : Hid (Below w.heap.size w w2) := belt BEL_1.out (HW)
  clear S_1 M_1 BEL_1
  clear HW
  obtain ⟨qS0, qS1⟩ := Bk.c2 S_2.out
  have lS := Bk.lt S_2.out
  obtain ⟨qM0, qM1, qM2, qM3, qM4, qM5, qM6, qM7, qM8⟩ := Bk.c9 M_2.out
  have lM := Bk.lt M_2.out
  go_wp2_with fail
  refine (isNumber_any _ _ _ _).mono ?_
  rintro e w3 ⟨rfl, HW⟩
  clear qS0 qS1 lS qM0 qM1 qM2 qM3 qM4 qM5 qM6 qM7 qM8 lM
  rw [h3.out]
  have S_3 : Hid (Bk w3 w.heap.size #[.int .i64 b, .int .i64 d] 30) := S_2.out.keep (HW)
  have M_3 : Hid (Bk w3 (w.heap.size + 1) #[.int .i64 x0, .int .i64 x1, .int .i64 x2, .int .i64 x3, .int .i64 x4, .int .i64 x5, .int .i64 x6, .int .i64 x7, .slice a n cap] 33) := M_2.out.keep (HW)
  have BEL_3 : Hid (Below w.heap.size w w3) := belt BEL_2.out (HW)
  clear S_2 M_2 BEL_2
  clear HW
  obtain ⟨qS0, qS1⟩ := Bk.c2 S_3.out
  have lS := Bk.lt S_3.out
  obtain ⟨qM0, qM1, qM2, qM3, qM4, qM5, qM6, qM7, qM8⟩ := Bk.c9 M_3.out
  have lM := Bk.lt M_3.out
  go_wp2_with fail
  refine (isTold_any b d a cap n l _ hgt.out hn hm (HR.out.keep BEL_3.out)).mono ?_
  rintro e w4 ⟨rfl, HW⟩
  clear qS0 qS1 lS qM0 qM1 qM2 qM3 qM4 qM5 qM6 qM7 qM8 lM
  rw [ht.out]
  have S_4 : Hid (Bk w4 w.heap.size #[.int .i64 b, .int .i64 d] 30) := S_3.out.keep (HW)
  have M_4 : Hid (Bk w4 (w.heap.size + 1) #[.int .i64 x0, .int .i64 x1, .int .i64 x2, .int .i64 x3, .int .i64 x4, .int .i64 x5, .int .i64 x6, .int .i64 x7, .slice a n cap] 33) := M_3.out.keep (HW)
  have BEL_4 : Hid (Below w.heap.size w w4) := belt BEL_3.out (HW)
  clear S_3 M_3 BEL_3
  clear HW
  obtain ⟨qS0, qS1⟩ := Bk.c2 S_4.out
  have lS := Bk.lt S_4.out
  obtain ⟨qM0, qM1, qM2, qM3, qM4, qM5, qM6, qM7, qM8⟩ := Bk.c9 M_4.out
  have lM := Bk.lt M_4.out
  go_wp2_with fail
  refine (fieldsOf_any x0 _).mono ?_
  rintro e w5 ⟨aF, nF, cF, rfl, hnF, hcF, oF, HW⟩
  clear qS0 qS1 lS qM0 qM1 qM2 qM3 qM4 qM5 qM6 qM7 qM8 lM
  have S_5 : Hid (Bk w5 w.heap.size #[.int .i64 b, .int .i64 d] 30) := S_4.out.keep (HW)
  have M_5 : Hid (Bk w5 (w.heap.size + 1) #[.int .i64 x0, .int .i64 x1, .int .i64 x2, .int .i64 x3, .int .i64 x4, .int .i64 x5, .int .i64 x6, .int .i64 x7, .slice a n cap] 33) := M_4.out.keep (HW)
  have BEL_5 : Hid (Below w.heap.size w w5) := belt BEL_4.out (HW)
  clear S_4 M_4 BEL_4
  have F_5 : Hid (RowAt w5 aF (fld x0)) := oF.rowAt
  clear HW oF
  have hF4 := fld_big x0
  have hF5 : Hid (RowAt w5 aF (fld x0)) := F_5
  go_wp2_with fail
  go_loopw [50] (fun vi wr => ∃ j : Nat, j ≤ nF ∧ vi = .int .i64 j ∧ Hid (∀ i, i < j → (fld x0).getD i 0 = 5 ∨ inB (vf x4 x5 x6 x7 ((fld x0).getD i 0)) 0 (mo b d ((fld x0).getD i 0)) = true) ∧ Hid (Below w5.heap.size w5 wr)) (fun vi _ => nF - (intOf vi).toNat)
  case atStart => exact ⟨0, Nat.zero_le _, rfl, fun i hi => by omega, Below.refl _ _⟩
  case round =>
    obtain ⟨j, hj, rfl, hs, hb⟩ := hrel
    obtain ⟨s0, s1⟩ := Bk.c2 (S_5.out.keep hb.out)
    obtain ⟨q0, q1, q2, q3, q4, q5, q6, q7, q8⟩ := Bk.c9 (M_5.out.keep hb.out)
    by_cases hlt2 : j < nF
    · have hmem := fld_mem x0 j (by omega)
      have hrow := F_5.out.keep hb.out
      obtain ⟨bk, off, hform⟩ := rowAt_form hrow (by omega)
      subst hform
      have hc1 := (rowAt_cell hrow (by omega)).2 j (by omega)
      clear hrow
      by_cases h5 : (fld x0).getD j 0 = 5
      · have SN : Hid (∀ i, i < j + 1 → (fld x0).getD i 0 = 5 ∨ inB (vf x4 x5 x6 x7 ((fld x0).getD i 0)) 0 (mo b d ((fld x0).getD i 0)) = true) := fun i hi => by
          by_cases he : i = j
          · subst he; exact .inl h5
          · exact hs.out i (by omega)
        have hf : (((fld x0).getD j 0) == 5) = true := by rw [h5]; rfl
        clear h5
        generalize (fld x0).getD j 0 = f at hc1 hf hmem
        go_wp2
        go_roundw
        case rel => exact ⟨j + 1, by omega, by go_num, SN, hb⟩
        case measure => simp [intOf]; omega
      · have hf : (((fld x0).getD j 0) == 5) = false := beq_eq_false_iff_ne.2 h5
        have hs8 : wr.cell? ⟨w.heap.size + 1, fo ((fld x0).getD j 0), none⟩ = some (.int .i64 (vf x4 x5 x6 x7 ((fld x0).getD j 0))) := ((M_5.out.keep hb.out).cell _).trans (vf_cell _ _ _ _ _ _ _ _ _ _)
        cases hin : inB (vf x4 x5 x6 x7 ((fld x0).getD j 0)) 0 (mo b d ((fld x0).getD j 0))
        · have hv : Hid (gmB b d x0 x1 x2 x3 x4 x5 x6 x7 l = false) := gm_field (by omega) h5 hin
          have hio := inB_false hin
          clear h5 hin
          generalize vf x4 x5 x6 x7 ((fld x0).getD j 0) = y at hs8 hio
          obtain ⟨m, hm0⟩ : ∃ m, mo b d ((fld x0).getD j 0) = m := ⟨_, rfl⟩
          rw [hm0] at hio
          have HM : Hid (mo b d ((fld x0).getD j 0) = m) := hm0
          clear hm0
          generalize (fld x0).getD j 0 = f at *
          by_cases hy : y < 0
          · clear hio
            go_wp2_with fail
            refine (numberAt_any _ _ _).mono ?_
            rintro e vx ⟨rfl, hx⟩
            have hx' := hx.symm
            clear hx
            subst hx'
            go_wp2
            go_ret
            exact ⟨ret_bool hv.out.symm, belt BEL_5.out hb.out⟩
          · have hym : m < y := by omega
            clear hio
            go_wp2_with fail
            refine (numberAt_any _ _ _).mono ?_
            rintro e vx ⟨rfl, hx⟩
            have hx' := hx.symm
            clear hx
            subst hx'
            go_wp2_with fail
            refine (mostOf_any _ _ _ _ hgt.out).mono ?_
            rintro e w6 ⟨rfl, hw6⟩
            rw [HM.out]
            go_wp2
            go_ret
            exact ⟨ret_bool hv.out.symm, belt BEL_5.out (belt hb.out hw6)⟩
        · have SN : Hid (∀ i, i < j + 1 → (fld x0).getD i 0 = 5 ∨ inB (vf x4 x5 x6 x7 ((fld x0).getD i 0)) 0 (mo b d ((fld x0).getD i 0)) = true) := fun i hi => by
            by_cases he : i = j
            · subst he; exact .inr hin
            · exact hs.out i (by omega)
          have hio := inB_true hin
          clear h5 hin
          generalize vf x4 x5 x6 x7 ((fld x0).getD j 0) = y at hs8 hio
          obtain ⟨m, hm0⟩ : ∃ m, mo b d ((fld x0).getD j 0) = m := ⟨_, rfl⟩
          rw [hm0] at hio
          have HM : Hid (mo b d ((fld x0).getD j 0) = m) := hm0
          clear hm0
          generalize (fld x0).getD j 0 = f at hc1 hf hs8 HM hmem
          obtain ⟨hio1, hio2⟩ := hio
          go_wp2_with fail
          refine (numberAt_any _ _ _).mono ?_
          rintro e vx ⟨rfl, hx⟩
          have hx' := hx.symm
          clear hx
          subst hx'
          go_wp2_with fail
          refine (mostOf_any _ _ _ _ hgt.out).mono ?_
          rintro e w6 ⟨rfl, hw6⟩
          rw [HM.out]
          go_wp2
          go_roundw
          case rel => exact ⟨j + 1, by omega, by go_num, SN, belt hb.out hw6⟩
          case measure => simp [intOf]; omega
    · have hv : Hid (gmB b d x0 x1 x2 x3 x4 x5 x6 x7 l = (hdB x0 x1 x2 x3 x4 x5 x6 x7 x0 x1 x2 x3 (pv (fld x0) (fld x0).length 1 x4) (pv (fld x0) (fld x0).length 2 x5) (pv (fld x0) (fld x0).length 3 x6) (pv (fld x0) (fld x0).length 4 x7) && sameB l (lO x0 l))) := gm_end h23.out hk1.out h1.out ht.out (fun i hi => hs.out i (by omega))
      obtain ⟨pa, pn, pc, hpC, hpn, hprow⟩ := pC_form x0 x1 x2 x3 x4 x5 x6 x7 a n cap l hn
      have HPC : Hid (pC (fld x0) (fld x0).length x0 x1 x2 x3 x4 x5 x6 x7 (.slice a n cap) = _) := hpC
      have HM := M_5.out.keep hb.out
      have HMH : Hid (Bk wr (w.heap.size + 1) _ _) := HM
      have HBW : Hid (Below w.heap.size w wr) := belt BEL_5.out hb.out
      have HRO : Hid (∀ w, RowAt w a l → RowAt w pa (lO x0 l)) := hprow
      clear hpC HM hprow
      generalize pv (fld x0) (fld x0).length 1 x4 = z4 at *
      generalize pv (fld x0) (fld x0).length 2 x5 = z5 at *
      generalize pv (fld x0) (fld x0).length 3 x6 = z6 at *
      generalize pv (fld x0) (fld x0).length 4 x7 = z7 at *
      go_wp2_with fail
      refine wp_region_held_drew (S := fun w' => Below wr.heap.size wr w') (by kernel_rfl) ((Below.refl _ _).drew) (fun hs0 => ?_)
      refine wpAnyH_take (i := 0) (oi := _) (v := _) rfl (by kernel_rfl) (by kernel_rfl) (by kernel_rfl) (fun _ _ _ h => h) (yieldsIf_bk rfl rfl rfl (fun w' h => (HMH.out).keep h) Try.underlying33 rfl (by kernel_rfl)) hs0 ?_
      simp only [Act.put, List.setIfInBounds_toArray, List.set_cons_zero, List.set_cons_succ]
      refine wpAnyH_ready (rs := [1]) (by kernel_rfl) (by simp) ?_
      refine AllReadyH.cons rfl (fun K hK => ?_) AllReadyH.nil
      go_simp
      refine (onlyFields_any (w.heap.size + 1) x0 x1 x2 x3 x4 x5 x6 x7 a n cap _ (HMH.out.keep hs0)).mono ?_
      rintro e wa ⟨rfl, hw1⟩
      have hs1 := belt hs0 hw1
      rw [HPC.out]
      refine hK.out _ _ hs1 (fun _ => ?_)
      clear hK K
      refine wpAnyH_ready (rs := [2]) (by kernel_rfl) (by simp) ?_
      refine AllReadyH.cons rfl (fun K hK => ?_) AllReadyH.nil
      go_simp
      refine (SameMsg_any x0 x1 x2 x3 x4 x5 x6 x7 x0 x1 x2 x3 z4 z5 z6 z7 a pa _ _ _ _ l (lO x0 l) _ hn hpn hm (HR.out.keep (belt HBW.out hs1)) (HRO.out _ (HR.out.keep (belt HBW.out hs1)))).mono ?_
      rintro e wb ⟨rfl, hw2⟩
      have hs2 := belt hs1 hw2
      refine hK.out _ _ hs2 (fun _ => ?_)
      clear hK K
      refine wpAnyH_ready (rs := [3]) (by kernel_rfl) (by simp) ?_
      refine AllReadyH.cons rfl (fun K hK => ?_) AllReadyH.nil
      go_simp
      refine hK.out _ _ hs2 (fun _ => ?_)
      clear hK K
      refine wpAnyH_done (by kernel_rfl) ?_ _
      go_wp2
      go_ret
      exact ⟨ret_bool hv.out.symm, belt HBW.out hs2⟩
end Go.Proofs.Ytabbicfakkehpaa
