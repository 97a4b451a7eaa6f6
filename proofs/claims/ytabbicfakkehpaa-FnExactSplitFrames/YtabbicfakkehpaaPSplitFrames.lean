/- For every text SplitFrames answers as its specification, in memory of its own: no condition. -/
import Derived.Test.YtabbicfakkehpaaSf2
import Derived.Test.YtabbicfakkehpaaK0
import Derived.ChangeMaps5
namespace Go.Proofs.Ytabbicfakkehpaa
open Go.ChangeShapes Go.WideShapes Go.ChangeAt Go.RowKit Go.Deep Go.ChangeMaps
set_option linter.unusedVariables false
set_option linter.unusedSimpArgs false
theorem own_txt {B T : Nat} {w : World} {a : Option Addr} {n c : Nat} {L : List ByteArray} (h : OwTs B T w (.slice a n c) L) : TxtAt w a L := by
  obtain ⟨a', c', e, ht⟩ := h.1.form
  simp at e
  rw [e.1]
  exact ht
set_option maxRecDepth 100000 in
set_option maxHeartbeats 12800000 in
theorem wFnExactSplitFrames (s0 : ByteArray) (w : World) (hm0 : s0.size ≤ maxLen) :
    Calls Try.prog 8 #[.string s0] w fun e w' => e = .returned (.bool true) ∧ Below w.heap.size w w' := by
  by_cases hb : 1048576 < s0.size
  · unfold maxLen at hm0
    go_enter Try.func8, Try.ntmps8
    go_wp2
    go_ret
    exact ⟨rfl, Below.refl _ _⟩
  have hs : s0.size ≤ 1048576 := by omega
  clear hb hm0
  obtain ⟨LS, hLS⟩ : ∃ z, Hid (sfL s0 = z) := ⟨_, rfl⟩
  obtain ⟨RS, hRS⟩ : ∃ z, Hid (sfR s0 = z) := ⟨_, rfl⟩
  obtain ⟨ok, hok⟩ : ∃ z, Hid (sfOk s0 = z) := ⟨_, rfl⟩
  have hrs := bytes_same RS
  have hbk := bne_self_bool ok
  go_enter Try.func8, Try.ntmps8
  have BEL_0 : Hid (Below w.heap.size w w) := Below.refl _ _
  go_wp2_with fail
  refine (lSplitFrames_any s0 _ hs).mono ?_
  rintro e w1 ⟨vw, rfl, Ow, hnw, HW⟩
  have HZ0 : Hid (w.heap.size ≤ w1.heap.size) := HW.size
  rw [hRS.out, hok.out]
  rw [hLS.out] at Ow hnw
  have BEL_1 : Hid (Below w.heap.size w w1) := belt BEL_0.out (HW)
  clear BEL_0
  clear HW
  have Ww_1 : Hid (OwTs w.heap.size w1.heap.size w1 vw LS) := owts_of Ow (Nat.le_refl _)
  clear Ow
  obtain ⟨aw, cw, evw, _⟩ := Ww_1.out.1.form
  subst evw
  go_wp2_with fail
  refine (SplitFrames_any s0 _ hs).mono ?_
  rintro e w2 ⟨vg, rfl, Og, hng, HW⟩
  have HZ1 : Hid (w1.heap.size ≤ w2.heap.size) := HW.size
  rw [hRS.out, hok.out]
  rw [hLS.out] at Og hng
  have BEL_2 : Hid (Below w.heap.size w w2) := belt BEL_1.out (HW)
  have Ww_2 : Hid (OwTs w.heap.size w1.heap.size w2 (.slice aw LS.length cw) LS) := Ww_1.out.keep (HW)
  clear BEL_1 Ww_1
  clear HW
  have Wg_2 : Hid (OwTs w1.heap.size w2.heap.size w2 vg LS) := owts_of Og (Nat.le_refl _)
  clear Og
  obtain ⟨ag, cg, evg, _⟩ := Wg_2.out.1.form
  subst evg
  go_wp2_with fail
  refine (eqStringS_own ag aw cg cw LS.length LS _ rfl (by omega) (own_txt Wg_2.out) (own_txt Ww_2.out)).mono ?_
  rintro e w3 ⟨rfl, HW⟩
  have HZ2 : Hid (w2.heap.size ≤ w3.heap.size) := HW.size
  have BEL_3 : Hid (Below w.heap.size w w3) := belt BEL_2.out (HW)
  have Ww_3 : Hid (OwTs w.heap.size w1.heap.size w3 (.slice aw LS.length cw) LS) := Ww_2.out.keep (HW)
  have Wg_3 : Hid (OwTs w1.heap.size w2.heap.size w3 (.slice ag LS.length cg) LS) := Wg_2.out.keep (HW)
  clear BEL_2 Ww_2 Wg_2
  clear HW
  have hsz1 : w1.heap.size ≤ w3.heap.size := by have := HZ1.out; have := HZ2.out; omega
  have hsz0 : w.heap.size ≤ w1.heap.size := HZ0.out
  go_wp2_with fail
  refine (markStringS_own w1.heap.size w2.heap.size _ LS 1 _ (by omega) (by omega) (by omega) Wg_3.out hsz1).mono ?_
  rintro e w4 ⟨rfl, MK, OM⟩
  have BEL_4 : Hid (Below w.heap.size w w4) := MK.below _ _ hsz0 BEL_3.out
  have Ww_4 : Hid (OwTs w.heap.size w1.heap.size w4 (.slice aw LS.length cw) LS) := Ww_3.out.blocks (fun k h1 h2 h3 => MK.block k h3 (by omega))
  have Wg_4 : Hid (OwTs w1.heap.size w2.heap.size w4 (.slice ag LS.length cg) (mtS 1 LS LS.length)) := OM
  clear MK OM BEL_3 Ww_3 Wg_3
  go_wp2_with fail
  refine (heldStringS_own w1.heap.size w2.heap.size _ LS 1 _ (by omega) (by omega) (by omega) Wg_4.out).mono ?_
  rintro e w5 ⟨rfl, HW⟩
  have BEL_5 : Hid (Below w.heap.size w w5) := belt BEL_4.out (HW)
  have Ww_5 : Hid (OwTs w.heap.size w1.heap.size w5 (.slice aw LS.length cw) LS) := Ww_4.out.keep (HW)
  have Wg_5 : Hid (OwTs w1.heap.size w2.heap.size w5 (.slice ag LS.length cg) (mtS 1 LS LS.length)) := Wg_4.out.keep (HW)
  clear BEL_4 Ww_4 Wg_4
  clear HW
  go_wp2_with fail
  refine (SplitFrames_any s0 _ hs).mono ?_
  rintro e w6 ⟨vh, rfl, Oh, hnh, HW⟩
  rw [hRS.out, hok.out]
  rw [hLS.out] at Oh hnh
  have BEL_6 : Hid (Below w.heap.size w w6) := belt BEL_5.out (HW)
  have Ww_6 : Hid (OwTs w.heap.size w1.heap.size w6 (.slice aw LS.length cw) LS) := Ww_5.out.keep (HW)
  have Wg_6 : Hid (OwTs w1.heap.size w2.heap.size w6 (.slice ag LS.length cg) (mtS 1 LS LS.length)) := Wg_5.out.keep (HW)
  clear BEL_5 Ww_5 Wg_5
  clear HW
  obtain ⟨ah, ch, evh, th⟩ := Oh.form
  subst evh
  clear Oh
  go_wp2_with fail
  refine (eqStringS_own ah aw ch cw LS.length LS _ rfl (by omega) th (own_txt Ww_6.out)).mono ?_
  rintro e w7 ⟨rfl, HW⟩
  have BEL_7 : Hid (Below w.heap.size w w7) := belt BEL_6.out (HW)
  have Ww_7 : Hid (OwTs w.heap.size w1.heap.size w7 (.slice aw LS.length cw) LS) := Ww_6.out.keep (HW)
  have Wg_7 : Hid (OwTs w1.heap.size w2.heap.size w7 (.slice ag LS.length cg) (mtS 1 LS LS.length)) := Wg_6.out.keep (HW)
  clear BEL_6 Ww_6 Wg_6
  clear HW
  clear th
  go_wp2_with fail
  refine (heldStringS_own w1.heap.size w2.heap.size _ LS 1 _ (by omega) (by omega) (by omega) Wg_7.out).mono ?_
  rintro e w8 ⟨rfl, HW⟩
  have BEL_8 : Hid (Below w.heap.size w w8) := belt BEL_7.out (HW)
  have Ww_8 : Hid (OwTs w.heap.size w1.heap.size w8 (.slice aw LS.length cw) LS) := Ww_7.out.keep (HW)
  have Wg_8 : Hid (OwTs w1.heap.size w2.heap.size w8 (.slice ag LS.length cg) (mtS 1 LS LS.length)) := Wg_7.out.keep (HW)
  clear BEL_7 Ww_7 Wg_7
  clear HW
  go_wp2
  go_ret
  exact ⟨rfl, BEL_8.out⟩

set_option maxRecDepth 100000 in
theorem fnExactSplitFrames_lifted (os : Os) (started : os.Started) (H : Type) (enc : TypeId × Value → H) :
    ReturnsInHanded {} Try.checked os 8 .any (Rows.fnExactSplitFramesSpec.pre6 enc Try.prog Try.f8 Rows.fnExactSplitFramesRow.domain false) (Rows.fnExactSplitFramesSpec.post enc Try.prog Try.f8 false true false false) := by
  refine returnsInHanded_of_change (C := Try.checked) own started (by kernel_rfl) Try.func8
    (ChangeSpec.witness6 (enc := enc) (C := Try.checked) false ⟨#[], #[.string ⟨#[]⟩], []⟩ 8 (by kernel_rfl) (by kernel_rfl) (by kernel_rfl) (by kernel_rfl)) ?_
  intro W base args ds gs before hval0 hW hcnd _
  have hval : ∀ (j : Nat) t v, Try.f8.params[j]? = some t → args[j]? = some v → Value.okWide Try.prog W .any base t v := hval0
  have hW' := hW
  obtain ⟨p, q, hA0, hV, rfl, hfz, hnd⟩ := hW
  have hA : DataW.TrodAll enc Try.prog W 0 (fun _ => true) true Try.f8.params.toList args.toList ds p := hA0
  rw [Try.params8] at hA hval
  obtain ⟨v0, vs0, d0, ds0, p0, q0, hargs, rfl, rfl, h0, r0⟩ := trodAll_cons hA
  obtain ⟨rfl, rfl, rfl⟩ := trodAll_nil r0
  obtain rfl : args = #[v0] := by cases args; simp_all
  obtain ⟨rfl, rfl⟩ := trodVars_none hV
  obtain ⟨s0, rfl, rfl, rfl, ws0⟩ := open_string Try.underlying9 (hval 0 9 v0 rfl rfl) h0
  clear hA0 hval0
  refine (wFnExactSplitFrames s0 W ws0).mono fun e W' ⟨he, bel⟩ => ?_
  subst he
  exact ⟨_, rfl, _, _, _, [], _, [], hW', trodAll_mk1 (shut_bool Try.underlying4 _), (trodAll_cons_mk (shut_string Try.underlying9 ws0) trodAll_mk0), rfl, bel.frame _, fun h => by cases h⟩

theorem fnExactSplitFrames_holds : Rows.FnExactSplitFramesSaid :=
  OpenClaim.holds_of_wide 8 Try.f8 rfl rfl rfl rfl rfl rfl rfl ⟨rfl, rfl, rfl, rfl, rfl⟩ rfl rfl rfl rfl rfl (by kernel_rfl) Try.func8 (by kernel_rfl)
    (of_decide_eq_true (by kernel_rfl)) (by unfold Func.isWrapper; first | (rw [if_pos (by decide +kernel)]; kernel_rfl) | (rw [if_neg (by decide +kernel)]; exact ⟨rfl, rfl⟩))
    (fun os started H enc _ => fnExactSplitFrames_lifted os started H enc)
#print axioms fnExactSplitFrames_holds
end Go.Proofs.Ytabbicfakkehpaa
