/- For all nets GoodNet answers as its specification, and leaves the net as it was: no condition. -/
import Derived.Test.YtioiacmaijgdoaaZ0
import Derived.Test.YtioiacmaijgdoaaZ1
import Derived.Test.YtioiacmaijgdoaaZ2
import Derived.Test.YtioiacmaijgdoaaZ3
import Derived.Test.YtioiacmaijgdoaaZ4
import Derived.Test.YtioiacmaijgdoaaZ5
namespace Go.Proofs.Ytioiacmaijgdoaa
open Go.ChangeShapes Go.WideShapes Go.ChangeAt Go.RowKit
set_option linter.unusedVariables false
set_option maxRecDepth 100000 in
set_option maxHeartbeats 12800000 in
theorem wFnExactGoodNet (w : World) (b d t : Int) (ap am ag ar : Option Addr) (up um ug ur : Nat) (ps : List Pr) (ms : List Mg) (gs : List Int) (rs : List Rp)  (hm : ps.length ≤ maxLen) (hm2 : ms.length ≤ maxLen) (hm3 : gs.length ≤ maxLen) (hm4 : rs.length ≤ maxLen) (hr : NetAt w ap am ag ar ps ms gs rs) :
    Calls Try.prog 4 #[.agg #[.int .i64 b, .int .i64 d, .slice ap ps.length up, .int .i64 t, .slice am ms.length um, .slice ag gs.length ug, .slice ar rs.length ur]] w fun e w' => e = .returned (.bool true) ∧ Below w.heap.size w w' := by
  have HR : Hid (NetAt w ap am ag ar ps ms gs rs) := hr
  clear hr
  go_enter Try.func4, Try.ntmps4
  go_wp2_with fail
  refine (szNet_any b d t ap am ag ar up um ug ur ps ms gs rs _ hm hm2 hm3 hm4 (HR.out.keep (belA _ _))).mono ?_
  rintro e w1 ⟨v1, rfl, hv1, HW⟩
  have BA_1 : Hid (BxV w w1 #[.int .i64 b, .int .i64 d, .slice ap ps.length up, .int .i64 t, .slice am ms.length um, .slice ag gs.length ug, .slice ar rs.length ur] 48) := bxV1 HW
  have BEL_1 : Hid (Below w.heap.size w w1) := belt (belA _ _) HW
  have N1 : Hid (w.heap.size < w1.heap.size) := BA_1.out.lt
  clear HW
  by_cases hneg : v1 < 0
  · go_wp2
    go_ret
    exact ⟨rfl, BEL_1.out⟩
  have HS : Hid (BigN ps ms gs rs) := by
    rcases hv1 with h | h
    · exact absurd h hneg
    · exact h
  clear hv1
  obtain ⟨qBA0, qBA1, qBA2, qBA3, qBA4, qBA5, qBA6⟩ := BA_1.out.n7
  have lBA := BA_1.out.lt
  go_wp2_with fail
  refine (toNet_own b d t ap am ag ar up um ug ur ps ms gs rs _ HS.out (HR.out.keep BEL_1.out)).mono ?_
  rintro e w2 ⟨cp, cm, cg, cr, rfl, Oc, HW⟩
  clear qBA0 qBA1 qBA2 qBA3 qBA4 qBA5 qBA6 lBA
  have HB : Hid (Below w1.heap.size w1 w2) := HW
  have Z2 : Hid (w1.heap.size ≤ w2.heap.size) := HB.out.size
  have BA_2 : Hid (BxV w w2 #[.int .i64 b, .int .i64 d, .slice ap ps.length up, .int .i64 t, .slice am ms.length um, .slice ag gs.length ug, .slice ar rs.length ur] 48) := BA_1.out.keep HB.out
  have BEL_2 : Hid (Below w.heap.size w w2) := BEL_1.out.trans (HB.out.mono (by have z0 := N1.out; have z1 := Z2.out; omega))
  have c_2 : Hid (OwnN w1.heap.size w2.heap.size w2 cp cm cg cr ps.length ms.length gs.length rs.length ps ms gs rs) := Oc
  clear HB HW BA_1 BEL_1
  clear Oc
  obtain ⟨qBA0, qBA1, qBA2, qBA3, qBA4, qBA5, qBA6⟩ := BA_2.out.n7
  have lBA := BA_2.out.lt
  go_wp2_with fail
  refine (lGoodNet_own b d t cp cm cg cr ps.length ms.length gs.length rs.length ps ms gs rs _ HS.out c_2.out.at).mono ?_
  rintro e w3 ⟨rfl, HW⟩
  clear qBA0 qBA1 qBA2 qBA3 qBA4 qBA5 qBA6 lBA
  have HB : Hid (Below w2.heap.size w2 w3) := HW
  have Z3 : Hid (w2.heap.size ≤ w3.heap.size) := HB.out.size
  have BA_3 : Hid (BxV w w3 #[.int .i64 b, .int .i64 d, .slice ap ps.length up, .int .i64 t, .slice am ms.length um, .slice ag gs.length ug, .slice ar rs.length ur] 48) := BA_2.out.keep HB.out
  have BEL_3 : Hid (Below w.heap.size w w3) := BEL_2.out.trans (HB.out.mono (by have z0 := N1.out; have z1 := Z2.out; have z2 := Z3.out; omega))
  clear HB HW BA_2 BEL_2 c_2
  obtain ⟨qBA0, qBA1, qBA2, qBA3, qBA4, qBA5, qBA6⟩ := BA_3.out.n7
  have lBA := BA_3.out.lt
  go_wp2_with fail
  refine (toNet_own b d t ap am ag ar up um ug ur ps ms gs rs _ HS.out (HR.out.keep BEL_3.out)).mono ?_
  rintro e w4 ⟨vp, vm, vg, vr, rfl, Ov, HW⟩
  clear qBA0 qBA1 qBA2 qBA3 qBA4 qBA5 qBA6 lBA
  have HB : Hid (Below w3.heap.size w3 w4) := HW
  have Z4 : Hid (w3.heap.size ≤ w4.heap.size) := HB.out.size
  have BA_4 : Hid (BxV w w4 #[.int .i64 b, .int .i64 d, .slice ap ps.length up, .int .i64 t, .slice am ms.length um, .slice ag gs.length ug, .slice ar rs.length ur] 48) := BA_3.out.keep HB.out
  have BEL_4 : Hid (Below w.heap.size w w4) := BEL_3.out.trans (HB.out.mono (by have z0 := N1.out; have z1 := Z2.out; have z2 := Z3.out; have z3 := Z4.out; omega))
  have X_4 : Hid (OwnN w3.heap.size w4.heap.size w4 vp vm vg vr ps.length ms.length gs.length rs.length ps ms gs rs) := Ov
  clear HB HW BA_3 BEL_3
  clear Ov
  obtain ⟨qBA0, qBA1, qBA2, qBA3, qBA4, qBA5, qBA6⟩ := BA_4.out.n7
  have lBA := BA_4.out.lt
  go_wp2_with fail
  refine (GoodNet_own b d t vp vm vg vr ps.length ms.length gs.length rs.length ps ms gs rs _ HS.out (X_4.out.at.keep (belA _ _))).mono ?_
  rintro e w5 ⟨rfl, HW⟩
  clear qBA0 qBA1 qBA2 qBA3 qBA4 qBA5 qBA6 lBA
  have HB : Hid (Below w4.heap.size w4 w5) := belt (belA _ _) HW
  have Z5 : Hid (w4.heap.size ≤ w5.heap.size) := HB.out.size
  have N5 : Hid (w4.heap.size < w5.heap.size) := (bxV1 HW).lt
  have BA_5 : Hid (BxV w w5 #[.int .i64 b, .int .i64 d, .slice ap ps.length up, .int .i64 t, .slice am ms.length um, .slice ag gs.length ug, .slice ar rs.length ur] 48) := BA_4.out.keep HB.out
  have BEL_5 : Hid (Below w.heap.size w w5) := BEL_4.out.trans (HB.out.mono (by have z0 := N1.out; have z1 := Z2.out; have z2 := Z3.out; have z3 := Z4.out; have z4 := Z5.out; have z5 := N5.out; omega))
  have X_5 : Hid (OwnN w3.heap.size w4.heap.size w5 vp vm vg vr ps.length ms.length gs.length rs.length ps ms gs rs) := X_4.out.keep HB.out
  have BX_5 : Hid (BxV w4 w5 #[.int .i64 b, .int .i64 d, .slice vp ps.length ps.length, .int .i64 t, .slice vm ms.length ms.length, .slice vg gs.length gs.length, .slice vr rs.length rs.length] 36) := bxV1 HW
  clear HB HW BA_4 BEL_4 X_4
  generalize goodN b d t ps ms gs rs = ok0
  have hg0 := bne_self_bool ok0
  obtain ⟨qBA0, qBA1, qBA2, qBA3, qBA4, qBA5, qBA6⟩ := BA_5.out.n7
  have lBA := BA_5.out.lt
  obtain ⟨qBX0, qBX1, qBX2, qBX3, qBX4, qBX5, qBX6⟩ := BX_5.out.n7
  have lBX := BX_5.out.lt
  go_wp2_with fail
  clear qBA0 qBA1 qBA2 qBA3 qBA4 qBA5 qBA6 lBA qBX0 qBX1 qBX2 qBX3 qBX4 qBX5 qBX6 lBX
  have BAa : BxV w w5.drew #[.int .i64 b, .int .i64 d, .slice ap ps.length up, .int .i64 t, .slice am ms.length um, .slice ag gs.length ug, .slice ar rs.length ur] 48 := BA_5.out.keep ((Below.refl _ _).drew)
  have BELa : Below w.heap.size w w5.drew := BEL_5.out.drew
  have Xa : OwnN w3.heap.size w4.heap.size w5.drew vp vm vg vr ps.length ms.length gs.length rs.length ps ms gs rs := X_5.out.keep ((Below.refl _ _).drew)
  have BXa : BxV w4 w5.drew #[.int .i64 b, .int .i64 d, .slice vp ps.length ps.length, .int .i64 t, .slice vm ms.length ms.length, .slice vg gs.length gs.length, .slice vr rs.length rs.length] 36 := BX_5.out.keep ((Below.refl _ _).drew)
  go_region_held (fun w' => w'.cell? ⟨w.heap.size, 0, none⟩ = some (.int .i64 b) ∧ w'.cell? ⟨w.heap.size, 1, none⟩ = some (.int .i64 d) ∧ w'.cell? ⟨w.heap.size, 2, none⟩ = some (.slice ap ps.length up) ∧ w'.cell? ⟨w.heap.size, 3, none⟩ = some (.int .i64 t) ∧ w'.cell? ⟨w.heap.size, 4, none⟩ = some (.slice am ms.length um) ∧ w'.cell? ⟨w.heap.size, 5, none⟩ = some (.slice ag gs.length ug) ∧ w'.cell? ⟨w.heap.size, 6, none⟩ = some (.slice ar rs.length ur) ∧ w'.cell? ⟨w4.heap.size, 0, none⟩ = some (.int .i64 b) ∧ w'.cell? ⟨w4.heap.size, 1, none⟩ = some (.int .i64 d) ∧ w'.cell? ⟨w4.heap.size, 2, none⟩ = some (.slice vp ps.length ps.length) ∧ w'.cell? ⟨w4.heap.size, 3, none⟩ = some (.int .i64 t) ∧ w'.cell? ⟨w4.heap.size, 4, none⟩ = some (.slice vm ms.length ms.length) ∧ w'.cell? ⟨w4.heap.size, 5, none⟩ = some (.slice vg gs.length gs.length) ∧ w'.cell? ⟨w4.heap.size, 6, none⟩ = some (.slice vr rs.length rs.length)) (with_reducible (first | exact bxv14 BAa BXa | exact bxv14 BAb BXb | exact bxv14 BAc BXc)) (first
    | (go_at_call 17; refine (toNet_own b d t ap am ag ar up um ug ur ps ms gs rs _ HS.out (HR.out.keep BELa)).mono ?_; rintro e wd ⟨yp, ym, yg, yr, rfl, Od, hwd⟩; have HZb : Hid (w5.heap.size ≤ wd.heap.size) := hwd.size; have BAb := BAa.keep hwd; have BELb := BELa.trans (hwd.mono (show w.heap.size ≤ w5.heap.size from (by have z0 := N1.out; have z1 := Z2.out; have z2 := Z3.out; have z3 := Z4.out; have z4 := Z5.out; have z5 := N5.out; omega))); have Xb := Xa.keep hwd; have BXb := BXa.keep hwd)
    | (go_at_call 10; refine (eqNet_same b d t _ _ _ _ _ _ _ _ _ _ _ _ _ _ _ _ ps ms gs rs _ HS.out Xb.at Od.at).mono ?_; rintro e w6 ⟨rfl, hwe⟩; have BAc := BAb.keep hwe; have BELc := BELb.trans (hwe.mono (Nat.le_trans (show w.heap.size ≤ w5.heap.size from (by have z0 := N1.out; have z1 := Z2.out; have z2 := Z3.out; have z3 := Z4.out; have z4 := Z5.out; have z5 := N5.out; omega)) HZb.out)); have Xc := Xb.keep hwe; have BXc := BXb.keep hwe; have HZc : Hid (wd.heap.size ≤ w6.heap.size) := hwe.size))
  have Z6 : Hid (w5.heap.size ≤ w6.heap.size) := Nat.le_trans HZb.out HZc.out
  have BA_6 : Hid (BxV w w6 #[.int .i64 b, .int .i64 d, .slice ap ps.length up, .int .i64 t, .slice am ms.length um, .slice ag gs.length ug, .slice ar rs.length ur] 48) := BAc
  have BEL_6 : Hid (Below w.heap.size w w6) := BELc
  have X_6 : Hid (OwnN w3.heap.size w4.heap.size w6 vp vm vg vr ps.length ms.length gs.length rs.length ps ms gs rs) := Xc
  have BX_6 : Hid (BxV w4 w6 #[.int .i64 b, .int .i64 d, .slice vp ps.length ps.length, .int .i64 t, .slice vm ms.length ms.length, .slice vg gs.length gs.length, .slice vr rs.length rs.length] 36) := BXc
  clear hwd hwe Od HZb HZc BAa BAb BAc BELa BELb BELc Xa Xb Xc BXa BXb BXc BA_5 BEL_5 X_5 BX_5
  go_wp2
  go_ret
  exact ⟨rfl, BEL_6.out⟩

set_option maxRecDepth 100000 in
theorem fnExactGoodNet_lifted (os : Os) (started : os.Started) (H : Type) (enc : TypeId × Value → H) :
    ReturnsInHanded {} Try.checked os 4 .any (Rows.fnExactGoodNetSpec.pre6 enc Try.prog Try.f4 Rows.fnExactGoodNetRow.domain false) (Rows.fnExactGoodNetSpec.post enc Try.prog Try.f4 false true false false) := by
  refine returnsInHanded_of_change (C := Try.checked) own started (by kernel_rfl) Try.func4
    (ChangeSpec.witness6 (enc := enc) (C := Try.checked) false ⟨#[], #[.agg #[.int .i64 0, .int .i64 0, .slice none 0 0, .int .i64 0, .slice none 0 0, .slice none 0 0, .slice none 0 0]], []⟩ 8 (by kernel_rfl) (by kernel_rfl) (by kernel_rfl) (by kernel_rfl)) ?_
  intro W base args ds gs before hval0 hW hcnd _
  have hval : ∀ (j : Nat) t v, Try.f4.params[j]? = some t → args[j]? = some v → Value.okWide Try.prog W .any base t v := hval0
  have hW' := hW
  obtain ⟨p, q, hA0, hV, rfl, hfz, hnd⟩ := hW
  have hA : DataW.TrodAll enc Try.prog W 0 (fun _ => true) true Try.f4.params.toList args.toList ds p := hA0
  rw [Try.params4] at hA hval
  obtain ⟨v0, vs0, d0, ds0, p0, q0, hargs, rfl, rfl, h0, r0⟩ := trodAll_cons hA
  obtain ⟨rfl, rfl, rfl⟩ := trodAll_nil r0
  obtain rfl : args = #[v0] := by cases args; simp_all
  obtain ⟨rfl, rfl⟩ := trodVars_none hV
  have k0 := h0
  have lt0 : ∀ x ∈ p0, x.block < W.heap.size := by obtain ⟨m, hm⟩ := k0; exact DataW.trod_lt m _ _ _ hm
  obtain ⟨b0, g0, t0, ap0, am0, ag0, ar0, cp0, cm0, cg0, cr0, ps0, ms0, gs0, rs0, rfl, hp0, hq0, hg0, hs0, hr0⟩ := open_net (hval 0 48 v0 rfl rfl) h0
  clear hA0 hval0
  refine (wFnExactGoodNet W b0 g0 t0 ap0 am0 ag0 ar0 cp0 cm0 cg0 cr0 ps0 ms0 gs0 rs0 hp0 hq0 hg0 hs0 hr0).mono fun e W' ⟨he, bel⟩ => ?_
  subst he
  exact ⟨_, rfl, _, _, _, [], _, [], hW', trodAll_mk1 (shut_bool Try.underlying4 _), (trodAll_cons_mk (Below.trod laidOut (by kernel_rfl) (of_decide_eq_true (by kernel_rfl)) k0 bel lt0) trodAll_mk0), rfl, bel.frame _, fun h => by cases h⟩

theorem fnExactGoodNet_holds : Rows.FnExactGoodNetSaid :=
  OpenClaim.holds_of_wide 4 Try.f4 rfl rfl rfl rfl rfl rfl rfl ⟨rfl, rfl, rfl, rfl, rfl⟩ rfl rfl rfl rfl rfl (by kernel_rfl) Try.func4 (by kernel_rfl)
    (of_decide_eq_true (by kernel_rfl)) (by unfold Func.isWrapper; first | (rw [if_pos (by decide +kernel)]; kernel_rfl) | (rw [if_neg (by decide +kernel)]; exact ⟨rfl, rfl⟩))
    (fun os started H enc _ => fnExactGoodNet_lifted os started H enc)
#print axioms fnExactGoodNet_holds
end Go.Proofs.Ytioiacmaijgdoaa
