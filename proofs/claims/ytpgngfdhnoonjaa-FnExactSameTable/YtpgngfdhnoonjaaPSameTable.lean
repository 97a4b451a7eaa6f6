/- For every two tables SameTable answers as its specification, and leaves both as they were: no condition. -/
import Derived.Test.YtpgngfdhnoonjaaOk0
import Derived.Test.YtpgngfdhnoonjaaSm0
import Derived.Test.YtpgngfdhnoonjaaTr2
namespace Go.Proofs.Ytpgngfdhnoonjaa
open Go.ChangeShapes Go.WideShapes Go.ChangeAt Go.RowKit Wire Tb
set_option linter.unusedVariables false
set_option maxRecDepth 100000 in
set_option maxHeartbeats 12800000 in
theorem wFnExactSameTable (a0 : Option Addr) (cap0 : Nat) (ms0 : List Rw) (a1 : Option Addr) (cap1 : Nat) (ms1 : List Rw) (w : World) (hm0 : ms0.length ≤ maxLen) (hr0 : LsAt tyRw w a0 ms0) (hm1 : ms1.length ≤ maxLen) (hr1 : LsAt tyRw w a1 ms1) :
    Calls Try.prog 12 #[.slice a0 ms0.length cap0, .slice a1 ms1.length cap1] w fun e w' => e = .returned (.bool true) ∧ Below w.heap.size w w' := by
  have HR0 : Hid (LsAt tyRw w a0 ms0) := hr0
  clear hr0
  have HR1 : Hid (LsAt tyRw w a1 ms1) := hr1
  clear hr1
  go_enter Try.func12, Try.ntmps12
  go_wp2_with fail
  refine (szRowS_all a0 ms0.length cap0 1048576 _ hm0 (by omega) (by omega)).mono ?_
  rintro e w1 ⟨v0, rfl, hv0, hu0, HW⟩
  have HB : Hid (Below w.heap.size w w1) := HW
  have Z1 : Hid (w.heap.size ≤ w1.heap.size) := HB.out.size
  have BEL_1 : Hid (Below w.heap.size w w1) := HB.out
  clear HB HW 
  by_cases hneg0 : v0 < 0
  · go_wp2
    go_ret
    exact ⟨rfl, BEL_1.out⟩
  have hl0 : ms0.length ≤ 1048576 := by
    rcases hv0 with h | h
    · exact absurd h hneg0
    · exact h.2
  have hp0 : 0 ≤ v0 := by omega
  clear hv0
  go_wp2_with fail
  refine (szRowS_all a1 ms1.length cap1 v0 _ hm1 (by omega) (by omega)).mono ?_
  rintro e w2 ⟨v1, rfl, hv1, hu1, HW⟩
  have HB : Hid (Below w1.heap.size w1 w2) := HW
  have Z2 : Hid (w1.heap.size ≤ w2.heap.size) := HB.out.size
  have BEL_2 : Hid (Below w.heap.size w w2) := BEL_1.out.trans (HB.out.mono (by have z0 := Z1.out; have z1 := Z2.out; omega))
  clear HB HW BEL_1
  by_cases hneg1 : v1 < 0
  · go_wp2
    go_ret
    exact ⟨rfl, BEL_2.out⟩
  have hl1 : ms1.length ≤ 1048576 := by
    rcases hv1 with h | h
    · exact absurd h hneg1
    · exact h.2
  have hp1 : 0 ≤ v1 := by omega
  clear hv1
  have HL0 : Hid (ms0.length ≤ 1048576) := hl0
  have HL1 : Hid (ms1.length ≤ 1048576) := hl1
  clear hu0 hu1 hl0 hm0 hl1 hm1
  go_wp2_with fail
  refine (toRowS_any a0 cap0 ms0 _ HL0.out (HR0.out.keep BEL_2.out)).mono ?_
  rintro e w3 ⟨vc0, rfl, Oc0, HW⟩
  have HB : Hid (Below w2.heap.size w2 w3) := HW
  have Z3 : Hid (w2.heap.size ≤ w3.heap.size) := HB.out.size
  have BEL_3 : Hid (Below w.heap.size w w3) := BEL_2.out.trans (HB.out.mono (by have z0 := Z1.out; have z1 := Z2.out; have z2 := Z3.out; omega))
  have c0_3 : Hid (OwnEs tyRw 37 w2.heap.size w3.heap.size w3 vc0 ms0.length ms0) := Oc0
  clear HB HW BEL_2
  clear Oc0
  go_wp2_with fail
  refine (toRowS_any a1 cap1 ms1 _ HL1.out (HR1.out.keep BEL_3.out)).mono ?_
  rintro e w4 ⟨vc1, rfl, Oc1, HW⟩
  have HB : Hid (Below w3.heap.size w3 w4) := HW
  have Z4 : Hid (w3.heap.size ≤ w4.heap.size) := HB.out.size
  have BEL_4 : Hid (Below w.heap.size w w4) := BEL_3.out.trans (HB.out.mono (by have z0 := Z1.out; have z1 := Z2.out; have z2 := Z3.out; have z3 := Z4.out; omega))
  have c0_4 : Hid (OwnEs tyRw 37 w2.heap.size w3.heap.size w4 vc0 ms0.length ms0) := c0_3.out.keep HB.out
  have c1_4 : Hid (OwnEs tyRw 37 w3.heap.size w4.heap.size w4 vc1 ms1.length ms1) := Oc1
  clear HB HW BEL_3 c0_3
  clear Oc1
  go_wp2_with fail
  refine (Tb.lSameTable_two vc0 _ ms0.length ms0 vc1 _ ms1.length ms1 _ rfl HL0.out c0_4.out.at rfl HL1.out c1_4.out.at).mono ?_
  rintro e w5 ⟨rfl, HW⟩
  have HB : Hid (Below w4.heap.size w4 w5) := HW
  have Z5 : Hid (w4.heap.size ≤ w5.heap.size) := HB.out.size
  have BEL_5 : Hid (Below w.heap.size w w5) := BEL_4.out.trans (HB.out.mono (by have z0 := Z1.out; have z1 := Z2.out; have z2 := Z3.out; have z3 := Z4.out; have z4 := Z5.out; omega))
  clear HB HW BEL_4 c0_4 c1_4
  go_wp2_with fail
  refine (toRowS_any a0 cap0 ms0 _ HL0.out (HR0.out.keep BEL_5.out)).mono ?_
  rintro e w6 ⟨vx0, rfl, Ox0, HW⟩
  have HB : Hid (Below w5.heap.size w5 w6) := HW
  have Z6 : Hid (w5.heap.size ≤ w6.heap.size) := HB.out.size
  have BEL_6 : Hid (Below w.heap.size w w6) := BEL_5.out.trans (HB.out.mono (by have z0 := Z1.out; have z1 := Z2.out; have z2 := Z3.out; have z3 := Z4.out; have z4 := Z5.out; have z5 := Z6.out; omega))
  have x0_6 : Hid (OwnEs tyRw 37 w5.heap.size w6.heap.size w6 vx0 ms0.length ms0) := Ox0
  clear HB HW BEL_5
  clear Ox0
  go_wp2_with fail
  refine (toRowS_any a1 cap1 ms1 _ HL1.out (HR1.out.keep BEL_6.out)).mono ?_
  rintro e w7 ⟨vx1, rfl, Ox1, HW⟩
  have HB : Hid (Below w6.heap.size w6 w7) := HW
  have Z7 : Hid (w6.heap.size ≤ w7.heap.size) := HB.out.size
  have BEL_7 : Hid (Below w.heap.size w w7) := BEL_6.out.trans (HB.out.mono (by have z0 := Z1.out; have z1 := Z2.out; have z2 := Z3.out; have z3 := Z4.out; have z4 := Z5.out; have z5 := Z6.out; have z6 := Z7.out; omega))
  have x0_7 : Hid (OwnEs tyRw 37 w5.heap.size w6.heap.size w7 vx0 ms0.length ms0) := x0_6.out.keep HB.out
  have x1_7 : Hid (OwnEs tyRw 37 w6.heap.size w7.heap.size w7 vx1 ms1.length ms1) := Ox1
  clear HB HW BEL_6 x0_6
  clear Ox1
  go_wp2_with fail
  refine (Tb.SameTable_two vx0 _ ms0.length ms0 vx1 _ ms1.length ms1 _ rfl HL0.out x0_7.out.at rfl HL1.out x1_7.out.at).mono ?_
  rintro e w8 ⟨rfl, HW⟩
  have HB : Hid (Below w7.heap.size w7 w8) := HW
  have Z8 : Hid (w7.heap.size ≤ w8.heap.size) := HB.out.size
  have BEL_8 : Hid (Below w.heap.size w w8) := BEL_7.out.trans (HB.out.mono (by have z0 := Z1.out; have z1 := Z2.out; have z2 := Z3.out; have z3 := Z4.out; have z4 := Z5.out; have z5 := Z6.out; have z6 := Z7.out; have z7 := Z8.out; omega))
  have x0_8 : Hid (OwnEs tyRw 37 w5.heap.size w6.heap.size w8 vx0 ms0.length ms0) := x0_7.out.keep HB.out
  have x1_8 : Hid (OwnEs tyRw 37 w6.heap.size w7.heap.size w8 vx1 ms1.length ms1) := x1_7.out.keep HB.out
  clear HB HW BEL_7 x0_7 x1_7
  generalize sameT ms0 ms1 = ok0
  have hg0 := bne_self_bool ok0
  go_wp2_with fail
  refine (toRowS_any a0 cap0 ms0 _ HL0.out (HR0.out.keep BEL_8.out)).mono ?_
  rintro e w9 ⟨vy0, rfl, Oy0, HW⟩
  have HB : Hid (Below w8.heap.size w8 w9) := HW
  have Z9 : Hid (w8.heap.size ≤ w9.heap.size) := HB.out.size
  have BEL_9 : Hid (Below w.heap.size w w9) := BEL_8.out.trans (HB.out.mono (by have z0 := Z1.out; have z1 := Z2.out; have z2 := Z3.out; have z3 := Z4.out; have z4 := Z5.out; have z5 := Z6.out; have z6 := Z7.out; have z7 := Z8.out; have z8 := Z9.out; omega))
  have x0_9 : Hid (OwnEs tyRw 37 w5.heap.size w6.heap.size w9 vx0 ms0.length ms0) := x0_8.out.keep HB.out
  have x1_9 : Hid (OwnEs tyRw 37 w6.heap.size w7.heap.size w9 vx1 ms1.length ms1) := x1_8.out.keep HB.out
  have y0_9 : Hid (OwnEs tyRw 37 w8.heap.size w9.heap.size w9 vy0 ms0.length ms0) := Oy0
  clear HB HW BEL_8 x0_8 x1_8
  clear Oy0
  go_wp2_with fail
  refine (eqRowS_own vx0 vy0 _ _ _ ms0 _ rfl HL0.out x0_9.out.at y0_9.out.at).mono ?_
  rintro e w10 ⟨rfl, HW⟩
  have HB : Hid (Below w9.heap.size w9 w10) := HW
  have Z10 : Hid (w9.heap.size ≤ w10.heap.size) := HB.out.size
  have BEL_10 : Hid (Below w.heap.size w w10) := BEL_9.out.trans (HB.out.mono (by have z0 := Z1.out; have z1 := Z2.out; have z2 := Z3.out; have z3 := Z4.out; have z4 := Z5.out; have z5 := Z6.out; have z6 := Z7.out; have z7 := Z8.out; have z8 := Z9.out; have z9 := Z10.out; omega))
  have x0_10 : Hid (OwnEs tyRw 37 w5.heap.size w6.heap.size w10 vx0 ms0.length ms0) := x0_9.out.keep HB.out
  have x1_10 : Hid (OwnEs tyRw 37 w6.heap.size w7.heap.size w10 vx1 ms1.length ms1) := x1_9.out.keep HB.out
  clear HB HW BEL_9 x0_9 x1_9 y0_9
  go_wp2_with fail
  refine (toRowS_any a1 cap1 ms1 _ HL1.out (HR1.out.keep BEL_10.out)).mono ?_
  rintro e w11 ⟨vy1, rfl, Oy1, HW⟩
  have HB : Hid (Below w10.heap.size w10 w11) := HW
  have Z11 : Hid (w10.heap.size ≤ w11.heap.size) := HB.out.size
  have BEL_11 : Hid (Below w.heap.size w w11) := BEL_10.out.trans (HB.out.mono (by have z0 := Z1.out; have z1 := Z2.out; have z2 := Z3.out; have z3 := Z4.out; have z4 := Z5.out; have z5 := Z6.out; have z6 := Z7.out; have z7 := Z8.out; have z8 := Z9.out; have z9 := Z10.out; have z10 := Z11.out; omega))
  have x0_11 : Hid (OwnEs tyRw 37 w5.heap.size w6.heap.size w11 vx0 ms0.length ms0) := x0_10.out.keep HB.out
  have x1_11 : Hid (OwnEs tyRw 37 w6.heap.size w7.heap.size w11 vx1 ms1.length ms1) := x1_10.out.keep HB.out
  have y1_11 : Hid (OwnEs tyRw 37 w10.heap.size w11.heap.size w11 vy1 ms1.length ms1) := Oy1
  clear HB HW BEL_10 x0_10 x1_10
  clear Oy1
  go_wp2_with fail
  refine (eqRowS_own vx1 vy1 _ _ _ ms1 _ rfl HL1.out x1_11.out.at y1_11.out.at).mono ?_
  rintro e w12 ⟨rfl, HW⟩
  have HB : Hid (Below w11.heap.size w11 w12) := HW
  have Z12 : Hid (w11.heap.size ≤ w12.heap.size) := HB.out.size
  have BEL_12 : Hid (Below w.heap.size w w12) := BEL_11.out.trans (HB.out.mono (by have z0 := Z1.out; have z1 := Z2.out; have z2 := Z3.out; have z3 := Z4.out; have z4 := Z5.out; have z5 := Z6.out; have z6 := Z7.out; have z7 := Z8.out; have z8 := Z9.out; have z9 := Z10.out; have z10 := Z11.out; have z11 := Z12.out; omega))
  have x0_12 : Hid (OwnEs tyRw 37 w5.heap.size w6.heap.size w12 vx0 ms0.length ms0) := x0_11.out.keep HB.out
  have x1_12 : Hid (OwnEs tyRw 37 w6.heap.size w7.heap.size w12 vx1 ms1.length ms1) := x1_11.out.keep HB.out
  clear HB HW BEL_11 x0_11 x1_11 y1_11
  go_wp2
  go_ret
  exact ⟨rfl, BEL_12.out⟩

set_option maxRecDepth 100000 in
theorem fnExactSameTable_lifted (os : Os) (started : os.Started) (H : Type) (enc : TypeId × Value → H) :
    ReturnsInHanded {} Try.checked os 12 .any (Rows.fnExactSameTableSpec.pre6 enc Try.prog Try.f12 Rows.fnExactSameTableRow.domain false) (Rows.fnExactSameTableSpec.post enc Try.prog Try.f12 false true false false) := by
  refine returnsInHanded_of_change (C := Try.checked) own started (by kernel_rfl) Try.func12
    (ChangeSpec.witness6 (enc := enc) (C := Try.checked) false ⟨#[], #[.slice none 0 0, .slice none 0 0], []⟩ 8 (by kernel_rfl) (by kernel_rfl) (by kernel_rfl) (by kernel_rfl)) ?_
  intro W base args ds gs before hval0 hW hcnd _
  have hval : ∀ (j : Nat) t v, Try.f12.params[j]? = some t → args[j]? = some v → Value.okWide Try.prog W .any base t v := hval0
  have hW' := hW
  obtain ⟨p, q, hA0, hV, rfl, hfz, hnd⟩ := hW
  have hA : DataW.TrodAll enc Try.prog W 0 (fun _ => true) true Try.f12.params.toList args.toList ds p := hA0
  rw [Try.params12] at hA hval
  obtain ⟨v0, vs0, d0, ds0, p0, q0, hargs, rfl, rfl, h0, r0⟩ := trodAll_cons hA
  obtain ⟨v1, vs1, d1, ds1, p1, q1, rfl, rfl, rfl, h1, r1⟩ := trodAll_cons r0
  obtain ⟨rfl, rfl, rfl⟩ := trodAll_nil r1
  obtain rfl : args = #[v0, v1] := by cases args; simp_all
  obtain ⟨rfl, rfl⟩ := trodVars_none hV
  obtain ⟨a0, len0, cap0, rfl⟩ := okWide_slice Try.underlying48 (hval 0 48 v0 rfl rfl)
  have k0 := h0
  have lt0 : ∀ x ∈ p0, x.block < W.heap.size := by obtain ⟨m, hm⟩ := k0; exact DataW.trod_lt m _ _ _ hm
  obtain ⟨ms0, rfl, hm0, hr0⟩ := open_rows h0
  obtain ⟨a1, len1, cap1, rfl⟩ := okWide_slice Try.underlying48 (hval 1 48 v1 rfl rfl)
  have k1 := h1
  have lt1 : ∀ x ∈ p1, x.block < W.heap.size := by obtain ⟨m, hm⟩ := k1; exact DataW.trod_lt m _ _ _ hm
  obtain ⟨ms1, rfl, hm1, hr1⟩ := open_rows h1
  clear hA0 hval0
  refine (wFnExactSameTable a0 cap0 ms0 a1 cap1 ms1 W hm0 hr0 hm1 hr1).mono fun e W' ⟨he, bel⟩ => ?_
  subst he
  exact ⟨_, rfl, _, _, _, [], _, [], hW', trodAll_mk1 (shut_bool Try.underlying4 _), (trodAll_cons_mk (Below.trod laidOut (by kernel_rfl) (of_decide_eq_true (by kernel_rfl)) k0 bel lt0) (trodAll_cons_mk (Below.trod laidOut (by kernel_rfl) (of_decide_eq_true (by kernel_rfl)) k1 bel lt1) trodAll_mk0)), rfl, bel.frame _, fun h => by cases h⟩

theorem fnExactSameTable_holds : Rows.FnExactSameTableSaid :=
  OpenClaim.holds_of_wide 12 Try.f12 rfl rfl rfl rfl rfl rfl rfl ⟨rfl, rfl, rfl, rfl, rfl⟩ rfl rfl rfl rfl rfl (by kernel_rfl) Try.func12 (by kernel_rfl)
    (of_decide_eq_true (by kernel_rfl)) (by unfold Func.isWrapper; first | (rw [if_pos (by decide +kernel)]; kernel_rfl) | (rw [if_neg (by decide +kernel)]; exact ⟨rfl, rfl⟩))
    (fun os started H enc _ => fnExactSameTable_lifted os started H enc)
#print axioms fnExactSameTable_holds
end Go.Proofs.Ytpgngfdhnoonjaa
