/- For every space and list CrowdOf answers as its specification, and leaves the list as it was: no condition. -/
import Derived.Test.YtgmdbihdnacpjaaK1
import Derived.Test.YtgmdbihdnacpjaaR4
import Derived.Test.YtgmdbihdnacpjaaQ4
namespace Go.Proofs.Ytgmdbihdnacpjaa
open Go.ChangeShapes Go.WideShapes Go.ChangeAt Go.RowKit
set_option linter.unusedVariables false

set_option maxHeartbeats 1600000 in
theorem wFnExactCrowdOf (b d : Int) (a : Option Addr) (cap : Nat) (zs : List Int) (w : World) (hm : zs.length ≤ maxLen) (hr0 : RowAt w a zs) :
    Calls Try.prog 9 #[.agg #[.int .i64 b, .int .i64 d], .slice a zs.length cap] w fun e w' => e = .returned (.bool true) ∧ Below w.heap.size w w' := by
  have hr : RowAt w a zs := hr0
  clear hr0
  unfold maxLen at hm
  by_cases hbig : 1048576 < zs.length
  · go_enter Try.func9, Try.ntmps9
    go_wp2
    go_ret
    exact ⟨rfl, (Below.refl _ _).alloc (Nat.le_refl _) _⟩
  · have hm2 : zs.length ≤ 1048576 := by omega
    have hmx : zs.length ≤ maxLen := by unfold maxLen; omega
    have hsame : sameB zs zs = true := decide_eq_true rfl
    go_enter Try.func9, Try.ntmps9
    go_wp2_with fail
    refine (toSpace_any _ _ _).mono ?_
    rintro e w1 ⟨rfl, hw1⟩
    obtain ⟨k10, k11, z1⟩ := keep2 (bk := w.heap.size) (u := .int .i64 b) (v := .int .i64 d) hw1 (by simp; try omega) (by simp) (by simp)
    go_wp2_with fail
    refine (toIntS_any _ _ zs _ hm2 (hr.keep (bel1 hw1 (by simp; try omega)))).mono ?_
    rintro e w2 ⟨rfl, ow2⟩
    have hw2 := ow2.bel
    obtain ⟨k20, k21, z2⟩ := keep2 hw2 z1 k10 k11
    go_wp2_with fail
    refine (lCrowdOf_any b d _ _ zs _ hmx (rowAt_of_row ow2.row)).mono ?_
    rintro e w3 ⟨rfl, hw3⟩
    obtain ⟨k30, k31, z3⟩ := keep2 hw3 z2 k20 k21
    go_wp2_with fail
    refine (toIntS_any _ _ zs _ hm2 (hr.keep (belt (belt (bel1 hw1 (by simp; try omega)) hw2) hw3))).mono ?_
    rintro e w4 ⟨rfl, ow4⟩
    have hw4 := ow4.bel
    obtain ⟨k40, k41, z4⟩ := keep2 hw4 z3 k30 k31
    go_wp2_with fail
    refine (toSpace_any _ _ _).mono ?_
    rintro e w5 ⟨rfl, hw5⟩
    obtain ⟨k50, k51, z5⟩ := keep2 hw5 z4 k40 k41
    have ow5 := ow4.keep hw5
    go_wp2_with fail
    refine (CrowdOf_any b d _ _ zs _ hmx (rowAt_of_row ow5.row)).mono ?_
    rintro e w6 ⟨rfl, hw6⟩
    obtain ⟨k60, k61, z6⟩ := keep2 hw6 z5 k50 k51
    have ow6 := ow5.keep hw6
    go_wp2_with fail
    refine (toIntS_any _ _ zs _ hm2 (hr.keep (belt (belt (belt (belt (belt (bel1 hw1 (by simp; try omega)) hw2) hw3) hw4) hw5) hw6))).mono ?_
    rintro e w7 ⟨rfl, ow7⟩
    have hw7 := ow7.bel
    obtain ⟨k70, k71, z7⟩ := keep2 hw7 z6 k60 k61
    have ox7 := ow6.keep hw7
    go_wp2_with fail
    refine (eqIntS_any _ _ _ _ zs zs _ hmx (rowAt_of_row ox7.row) (rowAt_of_row ow7.row)).mono ?_
    rintro e w8 ⟨rfl, hw8⟩
    go_wp2
    go_ret
    exact ⟨rfl, belt (belt (belt (belt (belt (belt (belt (bel1 hw1 (by simp; try omega)) hw2) hw3) hw4) hw5) hw6) hw7) hw8⟩

set_option maxRecDepth 100000 in
theorem fnExactCrowdOf_lifted (os : Os) (started : os.Started) (H : Type) (enc : TypeId × Value → H) :
    ReturnsInHanded {} Try.checked os 9 .any (Rows.fnExactCrowdOfSpec.pre6 enc Try.prog Try.f9 Rows.fnExactCrowdOfRow.domain false) (Rows.fnExactCrowdOfSpec.post enc Try.prog Try.f9 false true false false) := by
  refine returnsInHanded_of_change (C := Try.checked) own started (by kernel_rfl) Try.func9
    (ChangeSpec.witness6 (enc := enc) (C := Try.checked) false ⟨#[], #[.agg #[.int .i64 0, .int .i64 0], .slice none 0 0], []⟩ 8 (by kernel_rfl) (by kernel_rfl) (by kernel_rfl) (by kernel_rfl)) ?_
  intro W base args ds gs before hval0 hW hcnd _
  have hval : ∀ (j : Nat) t v, Try.f9.params[j]? = some t → args[j]? = some v → Value.okWide Try.prog W .any base t v := hval0
  have hW' := hW
  obtain ⟨p, q, hA0, hV, rfl, hfz, hnd⟩ := hW
  have hA : DataW.TrodAll enc Try.prog W 0 (fun _ => true) true Try.f9.params.toList args.toList ds p := hA0
  rw [Try.params9] at hA hval
  obtain ⟨v0, vs0, d0, ds0, p0, q0, hargs, rfl, rfl, h0, r0⟩ := trodAll_cons hA
  obtain ⟨v1, vs1, d1, ds1, p1, q1, rfl, rfl, rfl, h1, r1⟩ := trodAll_cons r0
  obtain ⟨rfl, rfl, rfl⟩ := trodAll_nil r1
  obtain rfl : args = #[v0, v1] := by cases args; simp_all
  obtain ⟨rfl, rfl⟩ := trodVars_none hV
  have k0 := h0
  have lt0 : ∀ x ∈ p0, x.block < W.heap.size := by obtain ⟨m, hm⟩ := k0; exact DataW.trod_lt m _ _ _ hm
  obtain ⟨c0, c1, y0, y1, m, rfl, hd0, hp0, hy0, hy1⟩ := Joins.open_agg2 Try.underlying43 (by kernel_rfl) cellsS (hval 0 43 v0 rfl rfl) h0
  obtain ⟨a, e0, _, wa⟩ := DataW.trod_int Try.underlying3 hy0
  obtain ⟨b, e1, _, wb⟩ := DataW.trod_int Try.underlying3 hy1
  simp at e0 e1
  subst e0 e1
  obtain ⟨a1, len1, cap1, rfl⟩ := okWide_slice Try.underlying29 (hval 1 29 v1 rfl rfl)
  have k1 := h1
  have lt1 : ∀ x ∈ p1, x.block < W.heap.size := by obtain ⟨m, hm⟩ := k1; exact DataW.trod_lt m _ _ _ hm
  obtain ⟨z1, w1⟩ : ∃ zs, IsRow .i64 W a1 len1 cap1 zs := by
    obtain ⟨fuel, hf⟩ := h1
    rcases open_ints Try.underlying29 Try.underlying3 (by kernel_rfl) hf with ⟨hcs, _⟩ | ⟨x, l, c, zs, hcs, _, hl, hm, hz, _, hcell, hwz⟩
    · simp [Value.cells] at hcs
      obtain ⟨rfl, rfl, rfl⟩ := hcs
      exact ⟨[], .inl ⟨rfl, rfl, rfl, rfl⟩⟩
    · simp [Value.cells] at hcs
      obtain ⟨rfl, rfl, rfl⟩ := hcs
      exact ⟨zs, .inr ⟨_, rfl, hl, hm, by simpa using hz, hcell, hwz⟩⟩
  clear hA0 hval0
  obtain ⟨ys, hyl, hym, hyr⟩ := isRow_rowAt w1
  subst hyl
  refine (wFnExactCrowdOf a b a1 cap1 ys W hym hyr).mono fun e W' ⟨he, bel⟩ => ?_
  subst he
  exact ⟨_, rfl, _, _, _, [], _, [], hW', trodAll_mk1 (shut_bool Try.underlying4 _), (trodAll_cons_mk (Below.trod laidOut (by kernel_rfl) (of_decide_eq_true (by kernel_rfl)) k0 bel lt0) (trodAll_cons_mk (Below.trod laidOut (by kernel_rfl) (of_decide_eq_true (by kernel_rfl)) k1 bel lt1) trodAll_mk0)), rfl, bel.frame _, fun h => by cases h⟩

theorem fnExactCrowdOf_holds : Rows.FnExactCrowdOfSaid :=
  OpenClaim.holds_of_wide 9 Try.f9 rfl rfl rfl rfl rfl rfl rfl ⟨rfl, rfl, rfl, rfl, rfl⟩ rfl rfl rfl rfl rfl (by kernel_rfl) Try.func9 (by kernel_rfl)
    (of_decide_eq_true (by kernel_rfl)) (by unfold Func.isWrapper; first | (rw [if_pos (by decide +kernel)]; kernel_rfl) | (rw [if_neg (by decide +kernel)]; exact ⟨rfl, rfl⟩))
    (fun os started H enc _ => fnExactCrowdOf_lifted os started H enc)
#print axioms fnExactCrowdOf_holds
end Go.Proofs.Ytgmdbihdnacpjaa
