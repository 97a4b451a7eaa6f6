/- For every number FieldsOf answers as its specification, in memory of its own: no condition. -/
import Derived.Test.YtabbicfakkehpaaF1
import Derived.Test.YtabbicfakkehpaaK0
namespace Go.Proofs.Ytabbicfakkehpaa
open Go.ChangeShapes Go.WideShapes Go.ChangeAt Go.RowKit
set_option linter.unusedVariables false
set_option maxRecDepth 100000 in
set_option maxHeartbeats 12800000 in
theorem wFnExactFieldsOf (x0 : Int) (w : World) :
    Calls Try.prog 6 #[.int .i64 x0] w fun e w' => e = .returned (.bool true) ∧ Below w.heap.size w w' := by

  go_enter Try.func6, Try.ntmps6
  have BEL_0 : Hid (Below w.heap.size w w) := Below.refl _ _
  go_wp2_with fail
  refine (lFieldsOf_any x0 _ ).mono ?_
  rintro e w1 ⟨aw, nw, cw, rfl, hnw, rw0, HW⟩
  have HB : Hid (Below w.heap.size w w1) := HW
  have Z1 : Hid (w.heap.size ≤ w1.heap.size) := HB.out.size
  have BEL_1 : Hid (Below w.heap.size w w1) := BEL_0.out.trans (HB.out.mono (by have z0 := Z1.out; omega))
  have RW_1 : Hid (Below w1.heap.size w1 w1) := Below.refl _ _
  clear HB HW BEL_0
  have W0 : Hid (RowAt w1 aw (fldL x0)) := rw0
  have HNW : Hid ((fldL x0).length = nw) := hnw
  clear rw0 hnw
  go_wp2_with fail
  refine (FieldsOf_any x0 _ ).mono ?_
  rintro e w2 ⟨ag, ng, cg, rfl, hng, Og, HW⟩
  have HB : Hid (Below w1.heap.size w1 w2) := HW
  have Z2 : Hid (w1.heap.size ≤ w2.heap.size) := HB.out.size
  have BEL_2 : Hid (Below w.heap.size w w2) := BEL_1.out.trans (HB.out.mono (by have z0 := Z1.out; have z1 := Z2.out; omega))
  have RW_2 : Hid (Below w1.heap.size w1 w2) := RW_1.out.trans (HB.out.mono (by have z0 := Z1.out; have z1 := Z2.out; omega))
  have Gg_2 : Hid (OwnLs w1.heap.size w2.heap.size w2 ag ng (fldL x0)) := Og
  clear HB HW BEL_1 RW_1
  have eg : nw = ng := by rw [← HNW.out, ← hng]
  subst eg
  clear hng Og
  have HN2 : Hid (nw ≤ 1048576) := by unfold Hid; rw [← HNW.out]; exact fldL_big x0
  have hgb := bne_self_bool (kdB x0)
  go_wp2_with fail
  refine (eqIntS_own ag aw cg cw _ (fldL x0) _ HNW.out HN2.out Gg_2.out.rowAt (W0.out.keep RW_2.out)).mono ?_
  rintro e w3 ⟨rfl, HW⟩
  have HB : Hid (Below w2.heap.size w2 w3) := HW
  have Z3 : Hid (w2.heap.size ≤ w3.heap.size) := HB.out.size
  have BEL_3 : Hid (Below w.heap.size w w3) := BEL_2.out.trans (HB.out.mono (by have z0 := Z1.out; have z1 := Z2.out; have z2 := Z3.out; omega))
  have RW_3 : Hid (Below w1.heap.size w1 w3) := RW_2.out.trans (HB.out.mono (by have z0 := Z1.out; have z1 := Z2.out; have z2 := Z3.out; omega))
  have Gg_3 : Hid (OwnLs w1.heap.size w2.heap.size w3 ag nw (fldL x0)) := Gg_2.out.keep HB.out
  clear HB HW BEL_2 RW_2 Gg_2
  go_wp2_with fail
  refine (markIntS_own w1.heap.size w2.heap.size _ ag _ (fldL x0) 1 _ HN2.out (by omega) (by omega) Gg_3.out).mono ?_
  rintro e w4 ⟨rfl, MK, OM⟩
  have HB : Hid (Mk w1.heap.size w2.heap.size w3 w4) := MK
  have Z4 : Hid (w3.heap.size ≤ w4.heap.size) := HB.out.size
  have BEL_4 : Hid (Below w.heap.size w w4) := HB.out.below _ _ (by have z0 := Z1.out; have z1 := Z2.out; have z2 := Z3.out; have z3 := Z4.out; omega) BEL_3.out
  have RW_4 : Hid (Below w1.heap.size w1 w4) := HB.out.below _ _ (by have z0 := Z1.out; have z1 := Z2.out; have z2 := Z3.out; have z3 := Z4.out; omega) RW_3.out
  have Gg_4 : Hid (OwnLs w1.heap.size w2.heap.size w4 ag nw (mrk 1 (fldL x0) nw)) := OM
  clear HB MK BEL_3 RW_3 Gg_3
  clear OM
  have hng : nw ≤ 1048576 := HN2.out
  go_wp2_with fail
  refine (heldIntS_own w1.heap.size w2.heap.size _ ag _ (fldL x0) 1 _ HN2.out HNW.out (by omega) (by omega) Gg_4.out).mono ?_
  rintro e w5 ⟨rfl, HW⟩
  have HB : Hid (Below w4.heap.size w4 w5) := HW
  have Z5 : Hid (w4.heap.size ≤ w5.heap.size) := HB.out.size
  have BEL_5 : Hid (Below w.heap.size w w5) := BEL_4.out.trans (HB.out.mono (by have z0 := Z1.out; have z1 := Z2.out; have z2 := Z3.out; have z3 := Z4.out; have z4 := Z5.out; omega))
  have RW_5 : Hid (Below w1.heap.size w1 w5) := RW_4.out.trans (HB.out.mono (by have z0 := Z1.out; have z1 := Z2.out; have z2 := Z3.out; have z3 := Z4.out; have z4 := Z5.out; omega))
  have Gg_5 : Hid (OwnLs w1.heap.size w2.heap.size w5 ag nw (mrk 1 (fldL x0) nw)) := Gg_4.out.keep HB.out
  clear HB HW BEL_4 RW_4 Gg_4
  go_wp2_with fail
  refine (FieldsOf_any x0 _ ).mono ?_
  rintro e w6 ⟨ah, nh, ch, rfl, hnh, Oh, HW⟩
  have HB : Hid (Below w5.heap.size w5 w6) := HW
  have Z6 : Hid (w5.heap.size ≤ w6.heap.size) := HB.out.size
  have BEL_6 : Hid (Below w.heap.size w w6) := BEL_5.out.trans (HB.out.mono (by have z0 := Z1.out; have z1 := Z2.out; have z2 := Z3.out; have z3 := Z4.out; have z4 := Z5.out; have z5 := Z6.out; omega))
  have RW_6 : Hid (Below w1.heap.size w1 w6) := RW_5.out.trans (HB.out.mono (by have z0 := Z1.out; have z1 := Z2.out; have z2 := Z3.out; have z3 := Z4.out; have z4 := Z5.out; have z5 := Z6.out; omega))
  have Gg_6 : Hid (OwnLs w1.heap.size w2.heap.size w6 ag nw (mrk 1 (fldL x0) nw)) := Gg_5.out.keep HB.out
  have Gh_6 : Hid (OwnLs w5.heap.size w6.heap.size w6 ah nh (fldL x0)) := Oh
  clear HB HW BEL_5 RW_5 Gg_5
  have eh : nw = nh := by rw [← HNW.out, ← hnh]
  subst eh
  clear hnh Oh
  go_wp2_with fail
  refine (eqIntS_own ah aw ch cw _ (fldL x0) _ HNW.out HN2.out Gh_6.out.rowAt (W0.out.keep RW_6.out)).mono ?_
  rintro e w7 ⟨rfl, HW⟩
  have HB : Hid (Below w6.heap.size w6 w7) := HW
  have Z7 : Hid (w6.heap.size ≤ w7.heap.size) := HB.out.size
  have BEL_7 : Hid (Below w.heap.size w w7) := BEL_6.out.trans (HB.out.mono (by have z0 := Z1.out; have z1 := Z2.out; have z2 := Z3.out; have z3 := Z4.out; have z4 := Z5.out; have z5 := Z6.out; have z6 := Z7.out; omega))
  have RW_7 : Hid (Below w1.heap.size w1 w7) := RW_6.out.trans (HB.out.mono (by have z0 := Z1.out; have z1 := Z2.out; have z2 := Z3.out; have z3 := Z4.out; have z4 := Z5.out; have z5 := Z6.out; have z6 := Z7.out; omega))
  have Gg_7 : Hid (OwnLs w1.heap.size w2.heap.size w7 ag nw (mrk 1 (fldL x0) nw)) := Gg_6.out.keep HB.out
  have Gh_7 : Hid (OwnLs w5.heap.size w6.heap.size w7 ah nw (fldL x0)) := Gh_6.out.keep HB.out
  clear HB HW BEL_6 RW_6 Gg_6 Gh_6
  go_wp2_with fail
  refine (heldIntS_own w1.heap.size w2.heap.size _ ag _ (fldL x0) 1 _ HN2.out HNW.out (by omega) (by omega) Gg_7.out).mono ?_
  rintro e w8 ⟨rfl, HW⟩
  have HB : Hid (Below w7.heap.size w7 w8) := HW
  have Z8 : Hid (w7.heap.size ≤ w8.heap.size) := HB.out.size
  have BEL_8 : Hid (Below w.heap.size w w8) := BEL_7.out.trans (HB.out.mono (by have z0 := Z1.out; have z1 := Z2.out; have z2 := Z3.out; have z3 := Z4.out; have z4 := Z5.out; have z5 := Z6.out; have z6 := Z7.out; have z7 := Z8.out; omega))
  have RW_8 : Hid (Below w1.heap.size w1 w8) := RW_7.out.trans (HB.out.mono (by have z0 := Z1.out; have z1 := Z2.out; have z2 := Z3.out; have z3 := Z4.out; have z4 := Z5.out; have z5 := Z6.out; have z6 := Z7.out; have z7 := Z8.out; omega))
  have Gg_8 : Hid (OwnLs w1.heap.size w2.heap.size w8 ag nw (mrk 1 (fldL x0) nw)) := Gg_7.out.keep HB.out
  have Gh_8 : Hid (OwnLs w5.heap.size w6.heap.size w8 ah nw (fldL x0)) := Gh_7.out.keep HB.out
  clear HB HW BEL_7 RW_7 Gg_7 Gh_7
  go_wp2
  go_ret
  exact ⟨rfl, BEL_8.out⟩

set_option maxRecDepth 100000 in
theorem fnExactFieldsOf_lifted (os : Os) (started : os.Started) (H : Type) (enc : TypeId × Value → H) :
    ReturnsInHanded {} Try.checked os 6 .any (Rows.fnExactFieldsOfSpec.pre6 enc Try.prog Try.f6 Rows.fnExactFieldsOfRow.domain false) (Rows.fnExactFieldsOfSpec.post enc Try.prog Try.f6 false true false false) := by
  refine returnsInHanded_of_change (C := Try.checked) own started (by kernel_rfl) Try.func6
    (ChangeSpec.witness6 (enc := enc) (C := Try.checked) false ⟨#[], #[.int .i64 0], []⟩ 8 (by kernel_rfl) (by kernel_rfl) (by kernel_rfl) (by kernel_rfl)) ?_
  intro W base args ds gs before hval0 hW hcnd _
  have hval : ∀ (j : Nat) t v, Try.f6.params[j]? = some t → args[j]? = some v → Value.okWide Try.prog W .any base t v := hval0
  have hW' := hW
  obtain ⟨p, q, hA0, hV, rfl, hfz, hnd⟩ := hW
  have hA : DataW.TrodAll enc Try.prog W 0 (fun _ => true) true Try.f6.params.toList args.toList ds p := hA0
  rw [Try.params6] at hA hval
  obtain ⟨v0, vs0, d0, ds0, p0, q0, hargs, rfl, rfl, h0, r0⟩ := trodAll_cons hA
  obtain ⟨rfl, rfl, rfl⟩ := trodAll_nil r0
  obtain rfl : args = #[v0] := by cases args; simp_all
  obtain ⟨rfl, rfl⟩ := trodVars_none hV
  obtain ⟨a0, rfl, rfl, rfl, w0⟩ := open_int Try.underlying3 (hval 0 3 v0 rfl rfl) h0
  clear hA0 hval0
  refine (wFnExactFieldsOf a0 W).mono fun e W' ⟨he, bel⟩ => ?_
  subst he
  exact ⟨_, rfl, _, _, _, [], _, [], hW', trodAll_mk1 (shut_bool Try.underlying4 _), (trodAll_cons_mk (shut_int Try.underlying3 w0) trodAll_mk0), rfl, bel.frame _, fun h => by cases h⟩

theorem fnExactFieldsOf_holds : Rows.FnExactFieldsOfSaid :=
  OpenClaim.holds_of_wide 6 Try.f6 rfl rfl rfl rfl rfl rfl rfl ⟨rfl, rfl, rfl, rfl, rfl⟩ rfl rfl rfl rfl rfl (by kernel_rfl) Try.func6 (by kernel_rfl)
    (of_decide_eq_true (by kernel_rfl)) (by unfold Func.isWrapper; first | (rw [if_pos (by decide +kernel)]; kernel_rfl) | (rw [if_neg (by decide +kernel)]; exact ⟨rfl, rfl⟩))
    (fun os started H enc _ => fnExactFieldsOf_lifted os started H enc)
#print axioms fnExactFieldsOf_holds
end Go.Proofs.Ytabbicfakkehpaa
