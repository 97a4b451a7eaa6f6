/- For every space, table and key GetRow answers as its specification, and leaves the table as it was: no condition. -/
import Derived.Test.YtpgngfdhnoonjaaOk0
import Derived.Test.YtpgngfdhnoonjaaMp4
import Derived.Test.YtpgngfdhnoonjaaTr2
namespace Go.Proofs.Ytpgngfdhnoonjaa
open Go.ChangeShapes Go.WideShapes Go.ChangeAt Go.RowKit Wire Tb
set_option linter.unusedVariables false
set_option maxRecDepth 100000 in
set_option maxHeartbeats 12800000 in
theorem wFnExactGetRow (b0 d0 : Int) (a1 : Option Addr) (cap1 : Nat) (ms1 : List Rw) (x2 : Int) (w : World) (hm1 : ms1.length ≤ maxLen) (hr1 : LsAt tyRw w a1 ms1) (hk2 : Wf x2) :
    Calls Try.prog 7 #[.agg #[.int .i64 b0, .int .i64 d0], .slice a1 ms1.length cap1, .int .i64 x2] w fun e w' => e = .returned (.bool true) ∧ Below w.heap.size w w' := by
  have HR1 : Hid (LsAt tyRw w a1 ms1) := hr1
  clear hr1
  go_enter Try.func7, Try.ntmps7
  go_wp2_with fail
  refine (szRowS_all a1 ms1.length cap1 1048576 _ hm1 (by omega) (by omega)).mono ?_
  rintro e w1 ⟨v1, rfl, hv1, hu1, HW⟩
  have HB : Hid (Below w.heap.size w w1) := belt (belA _ _) HW
  have Z1 : Hid (w.heap.size ≤ w1.heap.size) := HB.out.size
  have N1 : Hid (w.heap.size < w1.heap.size) := (bxV1 HW).lt
  have BA_1 : Hid (BxV w w1 #[.int .i64 b0, .int .i64 d0] 47) := bxV1 HW
  have BEL_1 : Hid (Below w.heap.size w w1) := belt (belA _ _) HW
  clear HB HW 
  by_cases hneg1 : v1 < 0
  · go_wp2
    go_ret
    exact ⟨rfl, BEL_1.out⟩
  have hl1 : ms1.length ≤ 1048576 := by
    rcases hv1 with h | h
    · exact absurd h hneg1
    · exact h.2
  have hp1 : 0 ≤ v1 := by omega
  clear hv1
  have HL1 : Hid (ms1.length ≤ 1048576) := hl1
  clear hu1 hl1 hm1
  obtain ⟨qBA0, qBA1⟩ := BA_1.out.c2
  have lBA := BA_1.out.lt
  go_wp2_with fail
  refine (toSpace_any b0 d0 _).mono ?_
  rintro e w2 ⟨rfl, HW⟩
  clear qBA0 qBA1 lBA
  have HB : Hid (Below w1.heap.size w1 w2) := HW
  have Z2 : Hid (w1.heap.size ≤ w2.heap.size) := HB.out.size
  have BA_2 : Hid (BxV w w2 #[.int .i64 b0, .int .i64 d0] 47) := BA_1.out.keep HB.out
  have BEL_2 : Hid (Below w.heap.size w w2) := BEL_1.out.trans (HB.out.mono (by have z0 := Z1.out; have z1 := N1.out; have z2 := Z2.out; omega))
  clear HB HW BA_1 BEL_1
  obtain ⟨qBA0, qBA1⟩ := BA_2.out.c2
  have lBA := BA_2.out.lt
  go_wp2_with fail
  refine (toRowS_any a1 cap1 ms1 _ HL1.out (HR1.out.keep BEL_2.out)).mono ?_
  rintro e w3 ⟨vc1, rfl, Oc1, HW⟩
  clear qBA0 qBA1 lBA
  have HB : Hid (Below w2.heap.size w2 w3) := HW
  have Z3 : Hid (w2.heap.size ≤ w3.heap.size) := HB.out.size
  have BA_3 : Hid (BxV w w3 #[.int .i64 b0, .int .i64 d0] 47) := BA_2.out.keep HB.out
  have BEL_3 : Hid (Below w.heap.size w w3) := BEL_2.out.trans (HB.out.mono (by have z0 := Z1.out; have z1 := N1.out; have z2 := Z2.out; have z3 := Z3.out; omega))
  have c1_3 : Hid (OwnEs tyRw 37 w2.heap.size w3.heap.size w3 vc1 ms1.length ms1) := Oc1
  clear HB HW BA_2 BEL_2
  clear Oc1
  obtain ⟨qBA0, qBA1⟩ := BA_3.out.c2
  have lBA := BA_3.out.lt
  go_wp2_with fail
  refine (Tb.lGetRow_own b0 d0 vc1 _ ms1.length ms1 x2 _ rfl HL1.out c1_3.out.at).mono ?_
  rintro e w4 ⟨rfl, HW⟩
  clear qBA0 qBA1 lBA
  have HB : Hid (Below w3.heap.size w3 w4) := HW
  have Z4 : Hid (w3.heap.size ≤ w4.heap.size) := HB.out.size
  have BA_4 : Hid (BxV w w4 #[.int .i64 b0, .int .i64 d0] 47) := BA_3.out.keep HB.out
  have BEL_4 : Hid (Below w.heap.size w w4) := BEL_3.out.trans (HB.out.mono (by have z0 := Z1.out; have z1 := N1.out; have z2 := Z2.out; have z3 := Z3.out; have z4 := Z4.out; omega))
  clear HB HW BA_3 BEL_3 c1_3
  obtain ⟨qBA0, qBA1⟩ := BA_4.out.c2
  have lBA := BA_4.out.lt
  go_wp2_with fail
  refine (toRowS_any a1 cap1 ms1 _ HL1.out (HR1.out.keep BEL_4.out)).mono ?_
  rintro e w5 ⟨vx1, rfl, Ox1, HW⟩
  clear qBA0 qBA1 lBA
  have HB : Hid (Below w4.heap.size w4 w5) := HW
  have Z5 : Hid (w4.heap.size ≤ w5.heap.size) := HB.out.size
  have BA_5 : Hid (BxV w w5 #[.int .i64 b0, .int .i64 d0] 47) := BA_4.out.keep HB.out
  have BEL_5 : Hid (Below w.heap.size w w5) := BEL_4.out.trans (HB.out.mono (by have z0 := Z1.out; have z1 := N1.out; have z2 := Z2.out; have z3 := Z3.out; have z4 := Z4.out; have z5 := Z5.out; omega))
  have x1_5 : Hid (OwnEs tyRw 37 w4.heap.size w5.heap.size w5 vx1 ms1.length ms1) := Ox1
  clear HB HW BA_4 BEL_4
  clear Ox1
  obtain ⟨qBA0, qBA1⟩ := BA_5.out.c2
  have lBA := BA_5.out.lt
  go_wp2_with fail
  refine (toSpace_any b0 d0 _).mono ?_
  rintro e w6 ⟨rfl, HW⟩
  clear qBA0 qBA1 lBA
  have HB : Hid (Below w5.heap.size w5 w6) := HW
  have Z6 : Hid (w5.heap.size ≤ w6.heap.size) := HB.out.size
  have BA_6 : Hid (BxV w w6 #[.int .i64 b0, .int .i64 d0] 47) := BA_5.out.keep HB.out
  have BEL_6 : Hid (Below w.heap.size w w6) := BEL_5.out.trans (HB.out.mono (by have z0 := Z1.out; have z1 := N1.out; have z2 := Z2.out; have z3 := Z3.out; have z4 := Z4.out; have z5 := Z5.out; have z6 := Z6.out; omega))
  have x1_6 : Hid (OwnEs tyRw 37 w4.heap.size w5.heap.size w6 vx1 ms1.length ms1) := x1_5.out.keep HB.out
  clear HB HW BA_5 BEL_5 x1_5
  obtain ⟨qBA0, qBA1⟩ := BA_6.out.c2
  have lBA := BA_6.out.lt
  go_wp2_with fail
  refine (Tb.GetRow_own b0 d0 vx1 _ ms1.length ms1 x2 _ rfl HL1.out x1_6.out.at hk2).mono ?_
  rintro e w7 ⟨rfl, HW⟩
  clear qBA0 qBA1 lBA
  have HB : Hid (Below w6.heap.size w6 w7) := HW
  have Z7 : Hid (w6.heap.size ≤ w7.heap.size) := HB.out.size
  have BA_7 : Hid (BxV w w7 #[.int .i64 b0, .int .i64 d0] 47) := BA_6.out.keep HB.out
  have BEL_7 : Hid (Below w.heap.size w w7) := BEL_6.out.trans (HB.out.mono (by have z0 := Z1.out; have z1 := N1.out; have z2 := Z2.out; have z3 := Z3.out; have z4 := Z4.out; have z5 := Z5.out; have z6 := Z6.out; have z7 := Z7.out; omega))
  have x1_7 : Hid (OwnEs tyRw 37 w4.heap.size w5.heap.size w7 vx1 ms1.length ms1) := x1_6.out.keep HB.out
  clear HB HW BA_6 BEL_6 x1_6
  generalize gtV b0 d0 ms1 x2 = va0
  generalize gtB b0 d0 ms1 x2 = ok0
  have hg0 := bne_self_bool ok0
  obtain ⟨qBA0, qBA1⟩ := BA_7.out.c2
  have lBA := BA_7.out.lt
  go_wp2_with fail
  refine (toRowS_any a1 cap1 ms1 _ HL1.out (HR1.out.keep BEL_7.out)).mono ?_
  rintro e w8 ⟨vy1, rfl, Oy1, HW⟩
  clear qBA0 qBA1 lBA
  have HB : Hid (Below w7.heap.size w7 w8) := HW
  have Z8 : Hid (w7.heap.size ≤ w8.heap.size) := HB.out.size
  have BA_8 : Hid (BxV w w8 #[.int .i64 b0, .int .i64 d0] 47) := BA_7.out.keep HB.out
  have BEL_8 : Hid (Below w.heap.size w w8) := BEL_7.out.trans (HB.out.mono (by have z0 := Z1.out; have z1 := N1.out; have z2 := Z2.out; have z3 := Z3.out; have z4 := Z4.out; have z5 := Z5.out; have z6 := Z6.out; have z7 := Z7.out; have z8 := Z8.out; omega))
  have x1_8 : Hid (OwnEs tyRw 37 w4.heap.size w5.heap.size w8 vx1 ms1.length ms1) := x1_7.out.keep HB.out
  have y1_8 : Hid (OwnEs tyRw 37 w7.heap.size w8.heap.size w8 vy1 ms1.length ms1) := Oy1
  clear HB HW BA_7 BEL_7 x1_7
  clear Oy1
  obtain ⟨qBA0, qBA1⟩ := BA_8.out.c2
  have lBA := BA_8.out.lt
  go_wp2_with fail
  refine (eqRowS_own vx1 vy1 _ _ _ ms1 _ rfl HL1.out x1_8.out.at y1_8.out.at).mono ?_
  rintro e w9 ⟨rfl, HW⟩
  clear qBA0 qBA1 lBA
  have HB : Hid (Below w8.heap.size w8 w9) := HW
  have Z9 : Hid (w8.heap.size ≤ w9.heap.size) := HB.out.size
  have BA_9 : Hid (BxV w w9 #[.int .i64 b0, .int .i64 d0] 47) := BA_8.out.keep HB.out
  have BEL_9 : Hid (Below w.heap.size w w9) := BEL_8.out.trans (HB.out.mono (by have z0 := Z1.out; have z1 := N1.out; have z2 := Z2.out; have z3 := Z3.out; have z4 := Z4.out; have z5 := Z5.out; have z6 := Z6.out; have z7 := Z7.out; have z8 := Z8.out; have z9 := Z9.out; omega))
  have x1_9 : Hid (OwnEs tyRw 37 w4.heap.size w5.heap.size w9 vx1 ms1.length ms1) := x1_8.out.keep HB.out
  clear HB HW BA_8 BEL_8 x1_8 y1_8
  go_wp2
  go_ret
  exact ⟨rfl, BEL_9.out⟩

set_option maxRecDepth 100000 in
theorem fnExactGetRow_lifted (os : Os) (started : os.Started) (H : Type) (enc : TypeId × Value → H) :
    ReturnsInHanded {} Try.checked os 7 .any (Rows.fnExactGetRowSpec.pre6 enc Try.prog Try.f7 Rows.fnExactGetRowRow.domain false) (Rows.fnExactGetRowSpec.post enc Try.prog Try.f7 false true false false) := by
  refine returnsInHanded_of_change (C := Try.checked) own started (by kernel_rfl) Try.func7
    (ChangeSpec.witness6 (enc := enc) (C := Try.checked) false ⟨#[], #[.agg #[.int .i64 0, .int .i64 0], .slice none 0 0, .int .i64 0], []⟩ 8 (by kernel_rfl) (by kernel_rfl) (by kernel_rfl) (by kernel_rfl)) ?_
  intro W base args ds gs before hval0 hW hcnd _
  have hval : ∀ (j : Nat) t v, Try.f7.params[j]? = some t → args[j]? = some v → Value.okWide Try.prog W .any base t v := hval0
  have hW' := hW
  obtain ⟨p, q, hA0, hV, rfl, hfz, hnd⟩ := hW
  have hA : DataW.TrodAll enc Try.prog W 0 (fun _ => true) true Try.f7.params.toList args.toList ds p := hA0
  rw [Try.params7] at hA hval
  obtain ⟨v0, vs0, d0, ds0, p0, q0, hargs, rfl, rfl, h0, r0⟩ := trodAll_cons hA
  obtain ⟨v1, vs1, d1, ds1, p1, q1, rfl, rfl, rfl, h1, r1⟩ := trodAll_cons r0
  obtain ⟨v2, vs2, d2, ds2, p2, q2, rfl, rfl, rfl, h2, r2⟩ := trodAll_cons r1
  obtain ⟨rfl, rfl, rfl⟩ := trodAll_nil r2
  obtain rfl : args = #[v0, v1, v2] := by cases args; simp_all
  obtain ⟨rfl, rfl⟩ := trodVars_none hV
  have k0 := h0
  have lt0 : ∀ x ∈ p0, x.block < W.heap.size := by obtain ⟨m, hm⟩ := k0; exact DataW.trod_lt m _ _ _ hm
  obtain ⟨c0, c1, y0, y1, m, rfl, hd0, hp0, hy0, hy1⟩ := Joins.open_agg2 Try.underlying47 (by kernel_rfl) cellsS (hval 0 47 v0 rfl rfl) h0
  obtain ⟨a, e0, _, wa⟩ := DataW.trod_int Try.underlying3 hy0
  obtain ⟨b, e1, _, wb⟩ := DataW.trod_int Try.underlying3 hy1
  simp at e0 e1
  subst e0 e1
  obtain ⟨a1, len1, cap1, rfl⟩ := okWide_slice Try.underlying48 (hval 1 48 v1 rfl rfl)
  have k1 := h1
  have lt1 : ∀ x ∈ p1, x.block < W.heap.size := by obtain ⟨m, hm⟩ := k1; exact DataW.trod_lt m _ _ _ hm
  obtain ⟨ms1, rfl, hm1, hr1⟩ := open_rows h1
  obtain ⟨a2, rfl, rfl, rfl, w2⟩ := open_int Try.underlying3 (hval 2 3 v2 rfl rfl) h2
  clear hA0 hval0
  refine (wFnExactGetRow a b a1 cap1 ms1 a2 W hm1 hr1 w2).mono fun e W' ⟨he, bel⟩ => ?_
  subst he
  exact ⟨_, rfl, _, _, _, [], _, [], hW', trodAll_mk1 (shut_bool Try.underlying4 _), (trodAll_cons_mk (Below.trod laidOut (by kernel_rfl) (of_decide_eq_true (by kernel_rfl)) k0 bel lt0) (trodAll_cons_mk (Below.trod laidOut (by kernel_rfl) (of_decide_eq_true (by kernel_rfl)) k1 bel lt1) (trodAll_cons_mk (shut_int Try.underlying3 w2) trodAll_mk0))), rfl, bel.frame _, fun h => by cases h⟩

theorem fnExactGetRow_holds : Rows.FnExactGetRowSaid :=
  OpenClaim.holds_of_wide 7 Try.f7 rfl rfl rfl rfl rfl rfl rfl ⟨rfl, rfl, rfl, rfl, rfl⟩ rfl rfl rfl rfl rfl (by kernel_rfl) Try.func7 (by kernel_rfl)
    (of_decide_eq_true (by kernel_rfl)) (by unfold Func.isWrapper; first | (rw [if_pos (by decide +kernel)]; kernel_rfl) | (rw [if_neg (by decide +kernel)]; exact ⟨rfl, rfl⟩))
    (fun os started H enc _ => fnExactGetRow_lifted os started H enc)
#print axioms fnExactGetRow_holds
end Go.Proofs.Ytpgngfdhnoonjaa
