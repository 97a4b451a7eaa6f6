/- For every space and two tables JoinTables answers as its specification, in memory of its own, and leaves both as they were: no condition. -/
import Derived.Test.YtpgngfdhnoonjaaOk0
import Derived.Test.YtpgngfdhnoonjaaSp4
import Derived.Test.YtpgngfdhnoonjaaTr2
namespace Go.Proofs.Ytpgngfdhnoonjaa
open Go.ChangeShapes Go.WideShapes Go.ChangeAt Go.RowKit Wire Tb
set_option linter.unusedVariables false
set_option maxRecDepth 100000 in
set_option maxHeartbeats 12800000 in
theorem wFnExactJoinTables (b0 d0 : Int) (a1 : Option Addr) (cap1 : Nat) (ms1 : List Rw) (a2 : Option Addr) (cap2 : Nat) (ms2 : List Rw) (w : World) (hm1 : ms1.length ≤ maxLen) (hr1 : LsAt tyRw w a1 ms1) (hm2 : ms2.length ≤ maxLen) (hr2 : LsAt tyRw w a2 ms2) :
    Calls Try.prog 10 #[.agg #[.int .i64 b0, .int .i64 d0], .slice a1 ms1.length cap1, .slice a2 ms2.length cap2] w fun e w' => e = .returned (.bool true) ∧ Below w.heap.size w w' := by
  have HR1 : Hid (LsAt tyRw w a1 ms1) := hr1
  clear hr1
  have HR2 : Hid (LsAt tyRw w a2 ms2) := hr2
  clear hr2
  go_enter Try.func10, Try.ntmps10
  go_wp2_with fail
  refine (szRowS_all a1 ms1.length cap1 1048576 _ hm1 (by omega) (by omega)).mono ?_
  rintro e w1 ⟨v1, rfl, hv1, hu1, HW⟩
  have HB : Hid (Below w.heap.size w w1) := belt (belA _ _) HW
  have Z1 : Hid (w.heap.size ≤ w1.heap.size) := HB.out.size
  have N1 : Hid (w.heap.size < w1.heap.size) := (bxV1 HW).lt
  have BA_1 : Hid (BxV w w1 #[.int .i64 b0, .int .i64 d0] 47) := bxV1 HW
  have BEL_1 : Hid (Below w.heap.size w w1) := belt (belA _ _) HW
  clear HB HW 
  by_cases hneg1 : v1 < 0
  · go_wp2
    go_ret
    exact ⟨rfl, BEL_1.out⟩
  have hl1 : ms1.length ≤ 1048576 := by
    rcases hv1 with h | h
    · exact absurd h hneg1
    · exact h.2
  have hp1 : 0 ≤ v1 := by omega
  clear hv1
  obtain ⟨qBA0, qBA1⟩ := BA_1.out.c2
  have lBA := BA_1.out.lt
  go_wp2_with fail
  refine (szRowS_all a2 ms2.length cap2 v1 _ hm2 (by omega) (by omega)).mono ?_
  rintro e w2 ⟨v2, rfl, hv2, hu2, HW⟩
  clear qBA0 qBA1 lBA
  have HB : Hid (Below w1.heap.size w1 w2) := HW
  have Z2 : Hid (w1.heap.size ≤ w2.heap.size) := HB.out.size
  have BA_2 : Hid (BxV w w2 #[.int .i64 b0, .int .i64 d0] 47) := BA_1.out.keep HB.out
  have BEL_2 : Hid (Below w.heap.size w w2) := BEL_1.out.trans (HB.out.mono (by have z0 := Z1.out; have z1 := N1.out; have z2 := Z2.out; omega))
  clear HB HW BA_1 BEL_1
  by_cases hneg2 : v2 < 0
  · go_wp2
    go_ret
    exact ⟨rfl, BEL_2.out⟩
  have hl2 : ms2.length ≤ 1048576 := by
    rcases hv2 with h | h
    · exact absurd h hneg2
    · exact h.2
  have hp2 : 0 ≤ v2 := by omega
  clear hv2
  have HL1 : Hid (ms1.length ≤ 1048576) := hl1
  have HL2 : Hid (ms2.length ≤ 1048576) := hl2
  clear hu1 hu2 hl1 hm1 hl2 hm2
  obtain ⟨qBA0, qBA1⟩ := BA_2.out.c2
  have lBA := BA_2.out.lt
  go_wp2_with fail
  refine (toSpace_any b0 d0 _).mono ?_
  rintro e w3 ⟨rfl, HW⟩
  clear qBA0 qBA1 lBA
  have HB : Hid (Below w2.heap.size w2 w3) := HW
  have Z3 : Hid (w2.heap.size ≤ w3.heap.size) := HB.out.size
  have BA_3 : Hid (BxV w w3 #[.int .i64 b0, .int .i64 d0] 47) := BA_2.out.keep HB.out
  have BEL_3 : Hid (Below w.heap.size w w3) := BEL_2.out.trans (HB.out.mono (by have z0 := Z1.out; have z1 := N1.out; have z2 := Z2.out; have z3 := Z3.out; omega))
  clear HB HW BA_2 BEL_2
  obtain ⟨qBA0, qBA1⟩ := BA_3.out.c2
  have lBA := BA_3.out.lt
  go_wp2_with fail
  refine (toRowS_any a1 cap1 ms1 _ HL1.out (HR1.out.keep BEL_3.out)).mono ?_
  rintro e w4 ⟨vc1, rfl, Oc1, HW⟩
  clear qBA0 qBA1 lBA
  have HB : Hid (Below w3.heap.size w3 w4) := HW
  have Z4 : Hid (w3.heap.size ≤ w4.heap.size) := HB.out.size
  have BA_4 : Hid (BxV w w4 #[.int .i64 b0, .int .i64 d0] 47) := BA_3.out.keep HB.out
  have BEL_4 : Hid (Below w.heap.size w w4) := BEL_3.out.trans (HB.out.mono (by have z0 := Z1.out; have z1 := N1.out; have z2 := Z2.out; have z3 := Z3.out; have z4 := Z4.out; omega))
  have c1_4 : Hid (OwnEs tyRw 37 w3.heap.size w4.heap.size w4 vc1 ms1.length ms1) := Oc1
  clear HB HW BA_3 BEL_3
  clear Oc1
  obtain ⟨qBA0, qBA1⟩ := BA_4.out.c2
  have lBA := BA_4.out.lt
  go_wp2_with fail
  refine (toRowS_any a2 cap2 ms2 _ HL2.out (HR2.out.keep BEL_4.out)).mono ?_
  rintro e w5 ⟨vc2, rfl, Oc2, HW⟩
  clear qBA0 qBA1 lBA
  have HB : Hid (Below w4.heap.size w4 w5) := HW
  have Z5 : Hid (w4.heap.size ≤ w5.heap.size) := HB.out.size
  have BA_5 : Hid (BxV w w5 #[.int .i64 b0, .int .i64 d0] 47) := BA_4.out.keep HB.out
  have BEL_5 : Hid (Below w.heap.size w w5) := BEL_4.out.trans (HB.out.mono (by have z0 := Z1.out; have z1 := N1.out; have z2 := Z2.out; have z3 := Z3.out; have z4 := Z4.out; have z5 := Z5.out; omega))
  have c1_5 : Hid (OwnEs tyRw 37 w3.heap.size w4.heap.size w5 vc1 ms1.length ms1) := c1_4.out.keep HB.out
  have c2_5 : Hid (OwnEs tyRw 37 w4.heap.size w5.heap.size w5 vc2 ms2.length ms2) := Oc2
  clear HB HW BA_4 BEL_4 c1_4
  clear Oc2
  obtain ⟨qBA0, qBA1⟩ := BA_5.out.c2
  have lBA := BA_5.out.lt
  go_wp2_with fail
  refine (Tb.lJoinTables_own b0 d0 vc1 _ ms1.length ms1 vc2 _ ms2.length ms2 _ rfl HL1.out c1_5.out.at rfl HL2.out c2_5.out.at rfl rfl).mono ?_
  rintro e w6 ⟨aw, nw, cw, rfl, hnw, rw0, HW⟩
  clear qBA0 qBA1 lBA
  have HB : Hid (Below w5.heap.size w5 w6) := HW
  have Z6 : Hid (w5.heap.size ≤ w6.heap.size) := HB.out.size
  have BA_6 : Hid (BxV w w6 #[.int .i64 b0, .int .i64 d0] 47) := BA_5.out.keep HB.out
  have BEL_6 : Hid (Below w.heap.size w w6) := BEL_5.out.trans (HB.out.mono (by have z0 := Z1.out; have z1 := N1.out; have z2 := Z2.out; have z3 := Z3.out; have z4 := Z4.out; have z5 := Z5.out; have z6 := Z6.out; omega))
  have RW_6 : Hid (Below w6.heap.size w6 w6) := Below.refl _ _
  clear HB HW BA_5 BEL_5 c1_5 c2_5
  have W0 : Hid (LsAt tyRw w6 aw (jnL b0 d0 ms1 ms2)) := rw0
  have HNW : Hid ((jnL b0 d0 ms1 ms2).length = nw) := hnw
  clear rw0 hnw
  obtain ⟨qBA0, qBA1⟩ := BA_6.out.c2
  have lBA := BA_6.out.lt
  go_wp2_with fail
  refine (toRowS_any a1 cap1 ms1 _ HL1.out (HR1.out.keep BEL_6.out)).mono ?_
  rintro e w7 ⟨vx1, rfl, Ox1, HW⟩
  clear qBA0 qBA1 lBA
  have HB : Hid (Below w6.heap.size w6 w7) := HW
  have Z7 : Hid (w6.heap.size ≤ w7.heap.size) := HB.out.size
  have BA_7 : Hid (BxV w w7 #[.int .i64 b0, .int .i64 d0] 47) := BA_6.out.keep HB.out
  have BEL_7 : Hid (Below w.heap.size w w7) := BEL_6.out.trans (HB.out.mono (by have z0 := Z1.out; have z1 := N1.out; have z2 := Z2.out; have z3 := Z3.out; have z4 := Z4.out; have z5 := Z5.out; have z6 := Z6.out; have z7 := Z7.out; omega))
  have RW_7 : Hid (Below w6.heap.size w6 w7) := RW_6.out.trans (HB.out.mono (by have z0 := Z1.out; have z1 := N1.out; have z2 := Z2.out; have z3 := Z3.out; have z4 := Z4.out; have z5 := Z5.out; have z6 := Z6.out; have z7 := Z7.out; omega))
  have x1_7 : Hid (OwnEs tyRw 37 w6.heap.size w7.heap.size w7 vx1 ms1.length ms1) := Ox1
  clear HB HW BA_6 BEL_6 RW_6
  clear Ox1
  obtain ⟨qBA0, qBA1⟩ := BA_7.out.c2
  have lBA := BA_7.out.lt
  go_wp2_with fail
  refine (toRowS_any a2 cap2 ms2 _ HL2.out (HR2.out.keep BEL_7.out)).mono ?_
  rintro e w8 ⟨vx2, rfl, Ox2, HW⟩
  clear qBA0 qBA1 lBA
  have HB : Hid (Below w7.heap.size w7 w8) := HW
  have Z8 : Hid (w7.heap.size ≤ w8.heap.size) := HB.out.size
  have BA_8 : Hid (BxV w w8 #[.int .i64 b0, .int .i64 d0] 47) := BA_7.out.keep HB.out
  have BEL_8 : Hid (Below w.heap.size w w8) := BEL_7.out.trans (HB.out.mono (by have z0 := Z1.out; have z1 := N1.out; have z2 := Z2.out; have z3 := Z3.out; have z4 := Z4.out; have z5 := Z5.out; have z6 := Z6.out; have z7 := Z7.out; have z8 := Z8.out; omega))
  have RW_8 : Hid (Below w6.heap.size w6 w8) := RW_7.out.trans (HB.out.mono (by have z0 := Z1.out; have z1 := N1.out; have z2 := Z2.out; have z3 := Z3.out; have z4 := Z4.out; have z5 := Z5.out; have z6 := Z6.out; have z7 := Z7.out; have z8 := Z8.out; omega))
  have x1_8 : Hid (OwnEs tyRw 37 w6.heap.size w7.heap.size w8 vx1 ms1.length ms1) := x1_7.out.keep HB.out
  have x2_8 : Hid (OwnEs tyRw 37 w7.heap.size w8.heap.size w8 vx2 ms2.length ms2) := Ox2
  clear HB HW BA_7 BEL_7 RW_7 x1_7
  clear Ox2
  obtain ⟨qBA0, qBA1⟩ := BA_8.out.c2
  have lBA := BA_8.out.lt
  go_wp2_with fail
  refine (toSpace_any b0 d0 _).mono ?_
  rintro e w9 ⟨rfl, HW⟩
  clear qBA0 qBA1 lBA
  have HB : Hid (Below w8.heap.size w8 w9) := HW
  have Z9 : Hid (w8.heap.size ≤ w9.heap.size) := HB.out.size
  have BA_9 : Hid (BxV w w9 #[.int .i64 b0, .int .i64 d0] 47) := BA_8.out.keep HB.out
  have BEL_9 : Hid (Below w.heap.size w w9) := BEL_8.out.trans (HB.out.mono (by have z0 := Z1.out; have z1 := N1.out; have z2 := Z2.out; have z3 := Z3.out; have z4 := Z4.out; have z5 := Z5.out; have z6 := Z6.out; have z7 := Z7.out; have z8 := Z8.out; have z9 := Z9.out; omega))
  have RW_9 : Hid (Below w6.heap.size w6 w9) := RW_8.out.trans (HB.out.mono (by have z0 := Z1.out; have z1 := N1.out; have z2 := Z2.out; have z3 := Z3.out; have z4 := Z4.out; have z5 := Z5.out; have z6 := Z6.out; have z7 := Z7.out; have z8 := Z8.out; have z9 := Z9.out; omega))
  have x1_9 : Hid (OwnEs tyRw 37 w6.heap.size w7.heap.size w9 vx1 ms1.length ms1) := x1_8.out.keep HB.out
  have x2_9 : Hid (OwnEs tyRw 37 w7.heap.size w8.heap.size w9 vx2 ms2.length ms2) := x2_8.out.keep HB.out
  clear HB HW BA_8 BEL_8 RW_8 x1_8 x2_8
  obtain ⟨qBA0, qBA1⟩ := BA_9.out.c2
  have lBA := BA_9.out.lt
  go_wp2_with fail
  refine (Tb.JoinTables_own b0 d0 vx1 _ ms1.length ms1 vx2 _ ms2.length ms2 _ rfl HL1.out x1_9.out.at rfl HL2.out x2_9.out.at).mono ?_
  rintro e w10 ⟨yag, yng, ycg, rfl, hng, Og, HW⟩
  clear qBA0 qBA1 lBA
  have HB : Hid (Below w9.heap.size w9 w10) := HW
  have Z10 : Hid (w9.heap.size ≤ w10.heap.size) := HB.out.size
  have BA_10 : Hid (BxV w w10 #[.int .i64 b0, .int .i64 d0] 47) := BA_9.out.keep HB.out
  have BEL_10 : Hid (Below w.heap.size w w10) := BEL_9.out.trans (HB.out.mono (by have z0 := Z1.out; have z1 := N1.out; have z2 := Z2.out; have z3 := Z3.out; have z4 := Z4.out; have z5 := Z5.out; have z6 := Z6.out; have z7 := Z7.out; have z8 := Z8.out; have z9 := Z9.out; have z10 := Z10.out; omega))
  have RW_10 : Hid (Below w6.heap.size w6 w10) := RW_9.out.trans (HB.out.mono (by have z0 := Z1.out; have z1 := N1.out; have z2 := Z2.out; have z3 := Z3.out; have z4 := Z4.out; have z5 := Z5.out; have z6 := Z6.out; have z7 := Z7.out; have z8 := Z8.out; have z9 := Z9.out; have z10 := Z10.out; omega))
  have x1_10 : Hid (OwnEs tyRw 37 w6.heap.size w7.heap.size w10 vx1 ms1.length ms1) := x1_9.out.keep HB.out
  have x2_10 : Hid (OwnEs tyRw 37 w7.heap.size w8.heap.size w10 vx2 ms2.length ms2) := x2_9.out.keep HB.out
  have Gg_10 : Hid (OwnEs tyRw 37 w9.heap.size w10.heap.size w10 yag yng (jnL b0 d0 ms1 ms2)) := Og
  clear HB HW BA_9 BEL_9 RW_9 x1_9 x2_9
  have eg : nw = yng := by rw [← HNW.out, ← hng]
  subst eg
  clear hng Og
  have HN2 : Hid (nw ≤ 1048576) := by unfold Hid; rw [← HNW.out]; exact jnL_big b0 d0 ms1 ms2
  have hgb := bne_self_bool (jnB b0 d0 ms1 ms2)
  obtain ⟨qBA0, qBA1⟩ := BA_10.out.c2
  have lBA := BA_10.out.lt
  go_wp2_with fail
  refine (eqRowS_own yag aw ycg cw _ (jnL b0 d0 ms1 ms2) _ HNW.out HN2.out Gg_10.out.at (W0.out.keep RW_10.out)).mono ?_
  rintro e w11 ⟨rfl, HW⟩
  clear qBA0 qBA1 lBA
  have HB : Hid (Below w10.heap.size w10 w11) := HW
  have Z11 : Hid (w10.heap.size ≤ w11.heap.size) := HB.out.size
  have BA_11 : Hid (BxV w w11 #[.int .i64 b0, .int .i64 d0] 47) := BA_10.out.keep HB.out
  have BEL_11 : Hid (Below w.heap.size w w11) := BEL_10.out.trans (HB.out.mono (by have z0 := Z1.out; have z1 := N1.out; have z2 := Z2.out; have z3 := Z3.out; have z4 := Z4.out; have z5 := Z5.out; have z6 := Z6.out; have z7 := Z7.out; have z8 := Z8.out; have z9 := Z9.out; have z10 := Z10.out; have z11 := Z11.out; omega))
  have RW_11 : Hid (Below w6.heap.size w6 w11) := RW_10.out.trans (HB.out.mono (by have z0 := Z1.out; have z1 := N1.out; have z2 := Z2.out; have z3 := Z3.out; have z4 := Z4.out; have z5 := Z5.out; have z6 := Z6.out; have z7 := Z7.out; have z8 := Z8.out; have z9 := Z9.out; have z10 := Z10.out; have z11 := Z11.out; omega))
  have x1_11 : Hid (OwnEs tyRw 37 w6.heap.size w7.heap.size w11 vx1 ms1.length ms1) := x1_10.out.keep HB.out
  have x2_11 : Hid (OwnEs tyRw 37 w7.heap.size w8.heap.size w11 vx2 ms2.length ms2) := x2_10.out.keep HB.out
  have Gg_11 : Hid (OwnEs tyRw 37 w9.heap.size w10.heap.size w11 yag nw (jnL b0 d0 ms1 ms2)) := Gg_10.out.keep HB.out
  clear HB HW BA_10 BEL_10 RW_10 x1_10 x2_10 Gg_10
  obtain ⟨qBA0, qBA1⟩ := BA_11.out.c2
  have lBA := BA_11.out.lt
  go_wp2_with fail
  refine (toRowS_any a1 cap1 ms1 _ HL1.out (HR1.out.keep BEL_11.out)).mono ?_
  rintro e w12 ⟨vy1, rfl, Oy1, HW⟩
  clear qBA0 qBA1 lBA
  have HB : Hid (Below w11.heap.size w11 w12) := HW
  have Z12 : Hid (w11.heap.size ≤ w12.heap.size) := HB.out.size
  have BA_12 : Hid (BxV w w12 #[.int .i64 b0, .int .i64 d0] 47) := BA_11.out.keep HB.out
  have BEL_12 : Hid (Below w.heap.size w w12) := BEL_11.out.trans (HB.out.mono (by have z0 := Z1.out; have z1 := N1.out; have z2 := Z2.out; have z3 := Z3.out; have z4 := Z4.out; have z5 := Z5.out; have z6 := Z6.out; have z7 := Z7.out; have z8 := Z8.out; have z9 := Z9.out; have z10 := Z10.out; have z11 := Z11.out; have z12 := Z12.out; omega))
  have RW_12 : Hid (Below w6.heap.size w6 w12) := RW_11.out.trans (HB.out.mono (by have z0 := Z1.out; have z1 := N1.out; have z2 := Z2.out; have z3 := Z3.out; have z4 := Z4.out; have z5 := Z5.out; have z6 := Z6.out; have z7 := Z7.out; have z8 := Z8.out; have z9 := Z9.out; have z10 := Z10.out; have z11 := Z11.out; have z12 := Z12.out; omega))
  have x1_12 : Hid (OwnEs tyRw 37 w6.heap.size w7.heap.size w12 vx1 ms1.length ms1) := x1_11.out.keep HB.out
  have x2_12 : Hid (OwnEs tyRw 37 w7.heap.size w8.heap.size w12 vx2 ms2.length ms2) := x2_11.out.keep HB.out
  have Gg_12 : Hid (OwnEs tyRw 37 w9.heap.size w10.heap.size w12 yag nw (jnL b0 d0 ms1 ms2)) := Gg_11.out.keep HB.out
  have y1_12 : Hid (OwnEs tyRw 37 w11.heap.size w12.heap.size w12 vy1 ms1.length ms1) := Oy1
  clear HB HW BA_11 BEL_11 RW_11 x1_11 x2_11 Gg_11
  clear Oy1
  obtain ⟨qBA0, qBA1⟩ := BA_12.out.c2
  have lBA := BA_12.out.lt
  go_wp2_with fail
  refine (eqRowS_own vx1 vy1 _ _ _ ms1 _ rfl HL1.out x1_12.out.at y1_12.out.at).mono ?_
  rintro e w13 ⟨rfl, HW⟩
  clear qBA0 qBA1 lBA
  have HB : Hid (Below w12.heap.size w12 w13) := HW
  have Z13 : Hid (w12.heap.size ≤ w13.heap.size) := HB.out.size
  have BA_13 : Hid (BxV w w13 #[.int .i64 b0, .int .i64 d0] 47) := BA_12.out.keep HB.out
  have BEL_13 : Hid (Below w.heap.size w w13) := BEL_12.out.trans (HB.out.mono (by have z0 := Z1.out; have z1 := N1.out; have z2 := Z2.out; have z3 := Z3.out; have z4 := Z4.out; have z5 := Z5.out; have z6 := Z6.out; have z7 := Z7.out; have z8 := Z8.out; have z9 := Z9.out; have z10 := Z10.out; have z11 := Z11.out; have z12 := Z12.out; have z13 := Z13.out; omega))
  have RW_13 : Hid (Below w6.heap.size w6 w13) := RW_12.out.trans (HB.out.mono (by have z0 := Z1.out; have z1 := N1.out; have z2 := Z2.out; have z3 := Z3.out; have z4 := Z4.out; have z5 := Z5.out; have z6 := Z6.out; have z7 := Z7.out; have z8 := Z8.out; have z9 := Z9.out; have z10 := Z10.out; have z11 := Z11.out; have z12 := Z12.out; have z13 := Z13.out; omega))
  have x1_13 : Hid (OwnEs tyRw 37 w6.heap.size w7.heap.size w13 vx1 ms1.length ms1) := x1_12.out.keep HB.out
  have x2_13 : Hid (OwnEs tyRw 37 w7.heap.size w8.heap.size w13 vx2 ms2.length ms2) := x2_12.out.keep HB.out
  have Gg_13 : Hid (OwnEs tyRw 37 w9.heap.size w10.heap.size w13 yag nw (jnL b0 d0 ms1 ms2)) := Gg_12.out.keep HB.out
  clear HB HW BA_12 BEL_12 RW_12 x1_12 x2_12 Gg_12 y1_12
  obtain ⟨qBA0, qBA1⟩ := BA_13.out.c2
  have lBA := BA_13.out.lt
  go_wp2_with fail
  refine (toRowS_any a2 cap2 ms2 _ HL2.out (HR2.out.keep BEL_13.out)).mono ?_
  rintro e w14 ⟨vy2, rfl, Oy2, HW⟩
  clear qBA0 qBA1 lBA
  have HB : Hid (Below w13.heap.size w13 w14) := HW
  have Z14 : Hid (w13.heap.size ≤ w14.heap.size) := HB.out.size
  have BA_14 : Hid (BxV w w14 #[.int .i64 b0, .int .i64 d0] 47) := BA_13.out.keep HB.out
  have BEL_14 : Hid (Below w.heap.size w w14) := BEL_13.out.trans (HB.out.mono (by have z0 := Z1.out; have z1 := N1.out; have z2 := Z2.out; have z3 := Z3.out; have z4 := Z4.out; have z5 := Z5.out; have z6 := Z6.out; have z7 := Z7.out; have z8 := Z8.out; have z9 := Z9.out; have z10 := Z10.out; have z11 := Z11.out; have z12 := Z12.out; have z13 := Z13.out; have z14 := Z14.out; omega))
  have RW_14 : Hid (Below w6.heap.size w6 w14) := RW_13.out.trans (HB.out.mono (by have z0 := Z1.out; have z1 := N1.out; have z2 := Z2.out; have z3 := Z3.out; have z4 := Z4.out; have z5 := Z5.out; have z6 := Z6.out; have z7 := Z7.out; have z8 := Z8.out; have z9 := Z9.out; have z10 := Z10.out; have z11 := Z11.out; have z12 := Z12.out; have z13 := Z13.out; have z14 := Z14.out; omega))
  have x1_14 : Hid (OwnEs tyRw 37 w6.heap.size w7.heap.size w14 vx1 ms1.length ms1) := x1_13.out.keep HB.out
  have x2_14 : Hid (OwnEs tyRw 37 w7.heap.size w8.heap.size w14 vx2 ms2.length ms2) := x2_13.out.keep HB.out
  have Gg_14 : Hid (OwnEs tyRw 37 w9.heap.size w10.heap.size w14 yag nw (jnL b0 d0 ms1 ms2)) := Gg_13.out.keep HB.out
  have y2_14 : Hid (OwnEs tyRw 37 w13.heap.size w14.heap.size w14 vy2 ms2.length ms2) := Oy2
  clear HB HW BA_13 BEL_13 RW_13 x1_13 x2_13 Gg_13
  clear Oy2
  obtain ⟨qBA0, qBA1⟩ := BA_14.out.c2
  have lBA := BA_14.out.lt
  go_wp2_with fail
  refine (eqRowS_own vx2 vy2 _ _ _ ms2 _ rfl HL2.out x2_14.out.at y2_14.out.at).mono ?_
  rintro e w15 ⟨rfl, HW⟩
  clear qBA0 qBA1 lBA
  have HB : Hid (Below w14.heap.size w14 w15) := HW
  have Z15 : Hid (w14.heap.size ≤ w15.heap.size) := HB.out.size
  have BA_15 : Hid (BxV w w15 #[.int .i64 b0, .int .i64 d0] 47) := BA_14.out.keep HB.out
  have BEL_15 : Hid (Below w.heap.size w w15) := BEL_14.out.trans (HB.out.mono (by have z0 := Z1.out; have z1 := N1.out; have z2 := Z2.out; have z3 := Z3.out; have z4 := Z4.out; have z5 := Z5.out; have z6 := Z6.out; have z7 := Z7.out; have z8 := Z8.out; have z9 := Z9.out; have z10 := Z10.out; have z11 := Z11.out; have z12 := Z12.out; have z13 := Z13.out; have z14 := Z14.out; have z15 := Z15.out; omega))
  have RW_15 : Hid (Below w6.heap.size w6 w15) := RW_14.out.trans (HB.out.mono (by have z0 := Z1.out; have z1 := N1.out; have z2 := Z2.out; have z3 := Z3.out; have z4 := Z4.out; have z5 := Z5.out; have z6 := Z6.out; have z7 := Z7.out; have z8 := Z8.out; have z9 := Z9.out; have z10 := Z10.out; have z11 := Z11.out; have z12 := Z12.out; have z13 := Z13.out; have z14 := Z14.out; have z15 := Z15.out; omega))
  have x1_15 : Hid (OwnEs tyRw 37 w6.heap.size w7.heap.size w15 vx1 ms1.length ms1) := x1_14.out.keep HB.out
  have x2_15 : Hid (OwnEs tyRw 37 w7.heap.size w8.heap.size w15 vx2 ms2.length ms2) := x2_14.out.keep HB.out
  have Gg_15 : Hid (OwnEs tyRw 37 w9.heap.size w10.heap.size w15 yag nw (jnL b0 d0 ms1 ms2)) := Gg_14.out.keep HB.out
  clear HB HW BA_14 BEL_14 RW_14 x1_14 x2_14 Gg_14 y2_14
  obtain ⟨qBA0, qBA1⟩ := BA_15.out.c2
  have lBA := BA_15.out.lt
  go_wp2_with fail
  refine (markRowS_own w6.heap.size w7.heap.size _ vx1 _ ms1 (1) _ (by omega) (by have := HL1.out; omega) x1_15.out).mono ?_
  rintro e w16 ⟨rfl, MK, OM⟩
  clear qBA0 qBA1 lBA
  have HB : Hid (Mk w6.heap.size w7.heap.size w15 w16) := MK
  have Z16 : Hid (w15.heap.size ≤ w16.heap.size) := HB.out.size
  have BA_16 : Hid (BxV w w16 #[.int .i64 b0, .int .i64 d0] 47) := BA_15.out.mkd HB.out (by first | exact .inl (by have z0 := Z1.out; have z1 := N1.out; have z2 := Z2.out; have z3 := Z3.out; have z4 := Z4.out; have z5 := Z5.out; have z6 := Z6.out; have z7 := Z7.out; have z8 := Z8.out; have z9 := Z9.out; have z10 := Z10.out; have z11 := Z11.out; have z12 := Z12.out; have z13 := Z13.out; have z14 := Z14.out; have z15 := Z15.out; have z16 := Z16.out; omega) | exact .inr (by have z0 := Z1.out; have z1 := N1.out; have z2 := Z2.out; have z3 := Z3.out; have z4 := Z4.out; have z5 := Z5.out; have z6 := Z6.out; have z7 := Z7.out; have z8 := Z8.out; have z9 := Z9.out; have z10 := Z10.out; have z11 := Z11.out; have z12 := Z12.out; have z13 := Z13.out; have z14 := Z14.out; have z15 := Z15.out; have z16 := Z16.out; omega))
  have BEL_16 : Hid (Below w.heap.size w w16) := HB.out.below _ _ (by have z0 := Z1.out; have z1 := N1.out; have z2 := Z2.out; have z3 := Z3.out; have z4 := Z4.out; have z5 := Z5.out; have z6 := Z6.out; have z7 := Z7.out; have z8 := Z8.out; have z9 := Z9.out; have z10 := Z10.out; have z11 := Z11.out; have z12 := Z12.out; have z13 := Z13.out; have z14 := Z14.out; have z15 := Z15.out; have z16 := Z16.out; omega) BEL_15.out
  have RW_16 : Hid (Below w6.heap.size w6 w16) := HB.out.below _ _ (by have z0 := Z1.out; have z1 := N1.out; have z2 := Z2.out; have z3 := Z3.out; have z4 := Z4.out; have z5 := Z5.out; have z6 := Z6.out; have z7 := Z7.out; have z8 := Z8.out; have z9 := Z9.out; have z10 := Z10.out; have z11 := Z11.out; have z12 := Z12.out; have z13 := Z13.out; have z14 := Z14.out; have z15 := Z15.out; have z16 := Z16.out; omega) RW_15.out
  have x2_16 : Hid (OwnEs tyRw 37 w7.heap.size w8.heap.size w16 vx2 ms2.length ms2) := x2_15.out.mkd HB.out (by first | exact .inl (by have z0 := Z1.out; have z1 := N1.out; have z2 := Z2.out; have z3 := Z3.out; have z4 := Z4.out; have z5 := Z5.out; have z6 := Z6.out; have z7 := Z7.out; have z8 := Z8.out; have z9 := Z9.out; have z10 := Z10.out; have z11 := Z11.out; have z12 := Z12.out; have z13 := Z13.out; have z14 := Z14.out; have z15 := Z15.out; have z16 := Z16.out; omega) | exact .inr (by have z0 := Z1.out; have z1 := N1.out; have z2 := Z2.out; have z3 := Z3.out; have z4 := Z4.out; have z5 := Z5.out; have z6 := Z6.out; have z7 := Z7.out; have z8 := Z8.out; have z9 := Z9.out; have z10 := Z10.out; have z11 := Z11.out; have z12 := Z12.out; have z13 := Z13.out; have z14 := Z14.out; have z15 := Z15.out; have z16 := Z16.out; omega))
  have Gg_16 : Hid (OwnEs tyRw 37 w9.heap.size w10.heap.size w16 yag nw (jnL b0 d0 ms1 ms2)) := Gg_15.out.mkd HB.out (by first | exact .inl (by have z0 := Z1.out; have z1 := N1.out; have z2 := Z2.out; have z3 := Z3.out; have z4 := Z4.out; have z5 := Z5.out; have z6 := Z6.out; have z7 := Z7.out; have z8 := Z8.out; have z9 := Z9.out; have z10 := Z10.out; have z11 := Z11.out; have z12 := Z12.out; have z13 := Z13.out; have z14 := Z14.out; have z15 := Z15.out; have z16 := Z16.out; omega) | exact .inr (by have z0 := Z1.out; have z1 := N1.out; have z2 := Z2.out; have z3 := Z3.out; have z4 := Z4.out; have z5 := Z5.out; have z6 := Z6.out; have z7 := Z7.out; have z8 := Z8.out; have z9 := Z9.out; have z10 := Z10.out; have z11 := Z11.out; have z12 := Z12.out; have z13 := Z13.out; have z14 := Z14.out; have z15 := Z15.out; have z16 := Z16.out; omega))
  have x1_16 : Hid (OwnEs tyRw 37 w6.heap.size w7.heap.size w16 vx1 ms1.length (mrkTr (1) ms1)) := OM
  clear HB MK BA_15 BEL_15 RW_15 x1_15 x2_15 Gg_15
  clear OM
  obtain ⟨qBA0, qBA1⟩ := BA_16.out.c2
  have lBA := BA_16.out.lt
  go_wp2_with fail
  refine (markRowS_own w7.heap.size w8.heap.size _ vx2 _ ms2 (1 + 4 * (ms1.length : Int)) _ (by omega) (by have := HL2.out; have := HL1.out; omega) x2_16.out).mono ?_
  rintro e w17 ⟨rfl, MK, OM⟩
  clear qBA0 qBA1 lBA
  have HB : Hid (Mk w7.heap.size w8.heap.size w16 w17) := MK
  have Z17 : Hid (w16.heap.size ≤ w17.heap.size) := HB.out.size
  have BA_17 : Hid (BxV w w17 #[.int .i64 b0, .int .i64 d0] 47) := BA_16.out.mkd HB.out (by first | exact .inl (by have z0 := Z1.out; have z1 := N1.out; have z2 := Z2.out; have z3 := Z3.out; have z4 := Z4.out; have z5 := Z5.out; have z6 := Z6.out; have z7 := Z7.out; have z8 := Z8.out; have z9 := Z9.out; have z10 := Z10.out; have z11 := Z11.out; have z12 := Z12.out; have z13 := Z13.out; have z14 := Z14.out; have z15 := Z15.out; have z16 := Z16.out; have z17 := Z17.out; omega) | exact .inr (by have z0 := Z1.out; have z1 := N1.out; have z2 := Z2.out; have z3 := Z3.out; have z4 := Z4.out; have z5 := Z5.out; have z6 := Z6.out; have z7 := Z7.out; have z8 := Z8.out; have z9 := Z9.out; have z10 := Z10.out; have z11 := Z11.out; have z12 := Z12.out; have z13 := Z13.out; have z14 := Z14.out; have z15 := Z15.out; have z16 := Z16.out; have z17 := Z17.out; omega))
  have BEL_17 : Hid (Below w.heap.size w w17) := HB.out.below _ _ (by have z0 := Z1.out; have z1 := N1.out; have z2 := Z2.out; have z3 := Z3.out; have z4 := Z4.out; have z5 := Z5.out; have z6 := Z6.out; have z7 := Z7.out; have z8 := Z8.out; have z9 := Z9.out; have z10 := Z10.out; have z11 := Z11.out; have z12 := Z12.out; have z13 := Z13.out; have z14 := Z14.out; have z15 := Z15.out; have z16 := Z16.out; have z17 := Z17.out; omega) BEL_16.out
  have RW_17 : Hid (Below w6.heap.size w6 w17) := HB.out.below _ _ (by have z0 := Z1.out; have z1 := N1.out; have z2 := Z2.out; have z3 := Z3.out; have z4 := Z4.out; have z5 := Z5.out; have z6 := Z6.out; have z7 := Z7.out; have z8 := Z8.out; have z9 := Z9.out; have z10 := Z10.out; have z11 := Z11.out; have z12 := Z12.out; have z13 := Z13.out; have z14 := Z14.out; have z15 := Z15.out; have z16 := Z16.out; have z17 := Z17.out; omega) RW_16.out
  have Gg_17 : Hid (OwnEs tyRw 37 w9.heap.size w10.heap.size w17 yag nw (jnL b0 d0 ms1 ms2)) := Gg_16.out.mkd HB.out (by first | exact .inl (by have z0 := Z1.out; have z1 := N1.out; have z2 := Z2.out; have z3 := Z3.out; have z4 := Z4.out; have z5 := Z5.out; have z6 := Z6.out; have z7 := Z7.out; have z8 := Z8.out; have z9 := Z9.out; have z10 := Z10.out; have z11 := Z11.out; have z12 := Z12.out; have z13 := Z13.out; have z14 := Z14.out; have z15 := Z15.out; have z16 := Z16.out; have z17 := Z17.out; omega) | exact .inr (by have z0 := Z1.out; have z1 := N1.out; have z2 := Z2.out; have z3 := Z3.out; have z4 := Z4.out; have z5 := Z5.out; have z6 := Z6.out; have z7 := Z7.out; have z8 := Z8.out; have z9 := Z9.out; have z10 := Z10.out; have z11 := Z11.out; have z12 := Z12.out; have z13 := Z13.out; have z14 := Z14.out; have z15 := Z15.out; have z16 := Z16.out; have z17 := Z17.out; omega))
  have x1_17 : Hid (OwnEs tyRw 37 w6.heap.size w7.heap.size w17 vx1 ms1.length (mrkTr (1) ms1)) := x1_16.out.mkd HB.out (by first | exact .inl (by have z0 := Z1.out; have z1 := N1.out; have z2 := Z2.out; have z3 := Z3.out; have z4 := Z4.out; have z5 := Z5.out; have z6 := Z6.out; have z7 := Z7.out; have z8 := Z8.out; have z9 := Z9.out; have z10 := Z10.out; have z11 := Z11.out; have z12 := Z12.out; have z13 := Z13.out; have z14 := Z14.out; have z15 := Z15.out; have z16 := Z16.out; have z17 := Z17.out; omega) | exact .inr (by have z0 := Z1.out; have z1 := N1.out; have z2 := Z2.out; have z3 := Z3.out; have z4 := Z4.out; have z5 := Z5.out; have z6 := Z6.out; have z7 := Z7.out; have z8 := Z8.out; have z9 := Z9.out; have z10 := Z10.out; have z11 := Z11.out; have z12 := Z12.out; have z13 := Z13.out; have z14 := Z14.out; have z15 := Z15.out; have z16 := Z16.out; have z17 := Z17.out; omega))
  have x2_17 : Hid (OwnEs tyRw 37 w7.heap.size w8.heap.size w17 vx2 ms2.length (mrkTr (1 + 4 * (ms1.length : Int)) ms2)) := OM
  clear HB MK BA_16 BEL_16 RW_16 x2_16 Gg_16 x1_16
  clear OM
  have hl1 := HL1.out
  have hl2 := HL2.out
  obtain ⟨qBA0, qBA1⟩ := BA_17.out.c2
  have lBA := BA_17.out.lt
  go_wp2_with fail
  refine (eqRowS_own yag aw ycg cw _ (jnL b0 d0 ms1 ms2) _ HNW.out HN2.out Gg_17.out.at (W0.out.keep RW_17.out)).mono ?_
  rintro e w18 ⟨rfl, HW⟩
  clear qBA0 qBA1 lBA
  have HB : Hid (Below w17.heap.size w17 w18) := HW
  have Z18 : Hid (w17.heap.size ≤ w18.heap.size) := HB.out.size
  have BA_18 : Hid (BxV w w18 #[.int .i64 b0, .int .i64 d0] 47) := BA_17.out.keep HB.out
  have BEL_18 : Hid (Below w.heap.size w w18) := BEL_17.out.trans (HB.out.mono (by have z0 := Z1.out; have z1 := N1.out; have z2 := Z2.out; have z3 := Z3.out; have z4 := Z4.out; have z5 := Z5.out; have z6 := Z6.out; have z7 := Z7.out; have z8 := Z8.out; have z9 := Z9.out; have z10 := Z10.out; have z11 := Z11.out; have z12 := Z12.out; have z13 := Z13.out; have z14 := Z14.out; have z15 := Z15.out; have z16 := Z16.out; have z17 := Z17.out; have z18 := Z18.out; omega))
  have RW_18 : Hid (Below w6.heap.size w6 w18) := RW_17.out.trans (HB.out.mono (by have z0 := Z1.out; have z1 := N1.out; have z2 := Z2.out; have z3 := Z3.out; have z4 := Z4.out; have z5 := Z5.out; have z6 := Z6.out; have z7 := Z7.out; have z8 := Z8.out; have z9 := Z9.out; have z10 := Z10.out; have z11 := Z11.out; have z12 := Z12.out; have z13 := Z13.out; have z14 := Z14.out; have z15 := Z15.out; have z16 := Z16.out; have z17 := Z17.out; have z18 := Z18.out; omega))
  have Gg_18 : Hid (OwnEs tyRw 37 w9.heap.size w10.heap.size w18 yag nw (jnL b0 d0 ms1 ms2)) := Gg_17.out.keep HB.out
  have x1_18 : Hid (OwnEs tyRw 37 w6.heap.size w7.heap.size w18 vx1 ms1.length (mrkTr (1) ms1)) := x1_17.out.keep HB.out
  have x2_18 : Hid (OwnEs tyRw 37 w7.heap.size w8.heap.size w18 vx2 ms2.length (mrkTr (1 + 4 * (ms1.length : Int)) ms2)) := x2_17.out.keep HB.out
  clear HB HW BA_17 BEL_17 RW_17 Gg_17 x1_17 x2_17
  obtain ⟨qBA0, qBA1⟩ := BA_18.out.c2
  have lBA := BA_18.out.lt
  go_wp2_with fail
  refine (markRowS_own w9.heap.size w10.heap.size _ yag _ (jnL b0 d0 ms1 ms2) 1 _ (by omega) (by omega) Gg_18.out).mono ?_
  rintro e w19 ⟨rfl, MK, OM⟩
  clear qBA0 qBA1 lBA
  have HB : Hid (Mk w9.heap.size w10.heap.size w18 w19) := MK
  have Z19 : Hid (w18.heap.size ≤ w19.heap.size) := HB.out.size
  have BA_19 : Hid (BxV w w19 #[.int .i64 b0, .int .i64 d0] 47) := BA_18.out.mkd HB.out (by first | exact .inl (by have z0 := Z1.out; have z1 := N1.out; have z2 := Z2.out; have z3 := Z3.out; have z4 := Z4.out; have z5 := Z5.out; have z6 := Z6.out; have z7 := Z7.out; have z8 := Z8.out; have z9 := Z9.out; have z10 := Z10.out; have z11 := Z11.out; have z12 := Z12.out; have z13 := Z13.out; have z14 := Z14.out; have z15 := Z15.out; have z16 := Z16.out; have z17 := Z17.out; have z18 := Z18.out; have z19 := Z19.out; omega) | exact .inr (by have z0 := Z1.out; have z1 := N1.out; have z2 := Z2.out; have z3 := Z3.out; have z4 := Z4.out; have z5 := Z5.out; have z6 := Z6.out; have z7 := Z7.out; have z8 := Z8.out; have z9 := Z9.out; have z10 := Z10.out; have z11 := Z11.out; have z12 := Z12.out; have z13 := Z13.out; have z14 := Z14.out; have z15 := Z15.out; have z16 := Z16.out; have z17 := Z17.out; have z18 := Z18.out; have z19 := Z19.out; omega))
  have BEL_19 : Hid (Below w.heap.size w w19) := HB.out.below _ _ (by have z0 := Z1.out; have z1 := N1.out; have z2 := Z2.out; have z3 := Z3.out; have z4 := Z4.out; have z5 := Z5.out; have z6 := Z6.out; have z7 := Z7.out; have z8 := Z8.out; have z9 := Z9.out; have z10 := Z10.out; have z11 := Z11.out; have z12 := Z12.out; have z13 := Z13.out; have z14 := Z14.out; have z15 := Z15.out; have z16 := Z16.out; have z17 := Z17.out; have z18 := Z18.out; have z19 := Z19.out; omega) BEL_18.out
  have RW_19 : Hid (Below w6.heap.size w6 w19) := HB.out.below _ _ (by have z0 := Z1.out; have z1 := N1.out; have z2 := Z2.out; have z3 := Z3.out; have z4 := Z4.out; have z5 := Z5.out; have z6 := Z6.out; have z7 := Z7.out; have z8 := Z8.out; have z9 := Z9.out; have z10 := Z10.out; have z11 := Z11.out; have z12 := Z12.out; have z13 := Z13.out; have z14 := Z14.out; have z15 := Z15.out; have z16 := Z16.out; have z17 := Z17.out; have z18 := Z18.out; have z19 := Z19.out; omega) RW_18.out
  have Gg_19 : Hid (OwnEs tyRw 37 w9.heap.size w10.heap.size w19 yag nw (mrkTr 1 (jnL b0 d0 ms1 ms2))) := OM
  clear HB MK BA_18 BEL_18 RW_18 Gg_18 x1_18 x2_18
  clear OM
  have hng : nw ≤ 1048576 := HN2.out
  obtain ⟨qBA0, qBA1⟩ := BA_19.out.c2
  have lBA := BA_19.out.lt
  go_wp2_with fail
  refine (heldRowS_own w9.heap.size w10.heap.size _ yag _ (jnL b0 d0 ms1 ms2) 1 _ HN2.out HNW.out (by omega) (by omega) Gg_19.out).mono ?_
  rintro e w20 ⟨rfl, HW⟩
  clear qBA0 qBA1 lBA
  have HB : Hid (Below w19.heap.size w19 w20) := HW
  have Z20 : Hid (w19.heap.size ≤ w20.heap.size) := HB.out.size
  have BA_20 : Hid (BxV w w20 #[.int .i64 b0, .int .i64 d0] 47) := BA_19.out.keep HB.out
  have BEL_20 : Hid (Below w.heap.size w w20) := BEL_19.out.trans (HB.out.mono (by have z0 := Z1.out; have z1 := N1.out; have z2 := Z2.out; have z3 := Z3.out; have z4 := Z4.out; have z5 := Z5.out; have z6 := Z6.out; have z7 := Z7.out; have z8 := Z8.out; have z9 := Z9.out; have z10 := Z10.out; have z11 := Z11.out; have z12 := Z12.out; have z13 := Z13.out; have z14 := Z14.out; have z15 := Z15.out; have z16 := Z16.out; have z17 := Z17.out; have z18 := Z18.out; have z19 := Z19.out; have z20 := Z20.out; omega))
  have RW_20 : Hid (Below w6.heap.size w6 w20) := RW_19.out.trans (HB.out.mono (by have z0 := Z1.out; have z1 := N1.out; have z2 := Z2.out; have z3 := Z3.out; have z4 := Z4.out; have z5 := Z5.out; have z6 := Z6.out; have z7 := Z7.out; have z8 := Z8.out; have z9 := Z9.out; have z10 := Z10.out; have z11 := Z11.out; have z12 := Z12.out; have z13 := Z13.out; have z14 := Z14.out; have z15 := Z15.out; have z16 := Z16.out; have z17 := Z17.out; have z18 := Z18.out; have z19 := Z19.out; have z20 := Z20.out; omega))
  have Gg_20 : Hid (OwnEs tyRw 37 w9.heap.size w10.heap.size w20 yag nw (mrkTr 1 (jnL b0 d0 ms1 ms2))) := Gg_19.out.keep HB.out
  clear HB HW BA_19 BEL_19 RW_19 Gg_19
  obtain ⟨qBA0, qBA1⟩ := BA_20.out.c2
  have lBA := BA_20.out.lt
  go_wp2_with fail
  refine (toSpace_any b0 d0 _).mono ?_
  rintro e w21 ⟨rfl, HW⟩
  clear qBA0 qBA1 lBA
  have HB : Hid (Below w20.heap.size w20 w21) := HW
  have Z21 : Hid (w20.heap.size ≤ w21.heap.size) := HB.out.size
  have BA_21 : Hid (BxV w w21 #[.int .i64 b0, .int .i64 d0] 47) := BA_20.out.keep HB.out
  have BEL_21 : Hid (Below w.heap.size w w21) := BEL_20.out.trans (HB.out.mono (by have z0 := Z1.out; have z1 := N1.out; have z2 := Z2.out; have z3 := Z3.out; have z4 := Z4.out; have z5 := Z5.out; have z6 := Z6.out; have z7 := Z7.out; have z8 := Z8.out; have z9 := Z9.out; have z10 := Z10.out; have z11 := Z11.out; have z12 := Z12.out; have z13 := Z13.out; have z14 := Z14.out; have z15 := Z15.out; have z16 := Z16.out; have z17 := Z17.out; have z18 := Z18.out; have z19 := Z19.out; have z20 := Z20.out; have z21 := Z21.out; omega))
  have RW_21 : Hid (Below w6.heap.size w6 w21) := RW_20.out.trans (HB.out.mono (by have z0 := Z1.out; have z1 := N1.out; have z2 := Z2.out; have z3 := Z3.out; have z4 := Z4.out; have z5 := Z5.out; have z6 := Z6.out; have z7 := Z7.out; have z8 := Z8.out; have z9 := Z9.out; have z10 := Z10.out; have z11 := Z11.out; have z12 := Z12.out; have z13 := Z13.out; have z14 := Z14.out; have z15 := Z15.out; have z16 := Z16.out; have z17 := Z17.out; have z18 := Z18.out; have z19 := Z19.out; have z20 := Z20.out; have z21 := Z21.out; omega))
  have Gg_21 : Hid (OwnEs tyRw 37 w9.heap.size w10.heap.size w21 yag nw (mrkTr 1 (jnL b0 d0 ms1 ms2))) := Gg_20.out.keep HB.out
  clear HB HW BA_20 BEL_20 RW_20 Gg_20
  obtain ⟨qBA0, qBA1⟩ := BA_21.out.c2
  have lBA := BA_21.out.lt
  go_wp2_with fail
  refine (toRowS_any a1 cap1 ms1 _ HL1.out (HR1.out.keep BEL_21.out)).mono ?_
  rintro e w22 ⟨vh1, rfl, Oh1, HW⟩
  clear qBA0 qBA1 lBA
  have HB : Hid (Below w21.heap.size w21 w22) := HW
  have Z22 : Hid (w21.heap.size ≤ w22.heap.size) := HB.out.size
  have BA_22 : Hid (BxV w w22 #[.int .i64 b0, .int .i64 d0] 47) := BA_21.out.keep HB.out
  have BEL_22 : Hid (Below w.heap.size w w22) := BEL_21.out.trans (HB.out.mono (by have z0 := Z1.out; have z1 := N1.out; have z2 := Z2.out; have z3 := Z3.out; have z4 := Z4.out; have z5 := Z5.out; have z6 := Z6.out; have z7 := Z7.out; have z8 := Z8.out; have z9 := Z9.out; have z10 := Z10.out; have z11 := Z11.out; have z12 := Z12.out; have z13 := Z13.out; have z14 := Z14.out; have z15 := Z15.out; have z16 := Z16.out; have z17 := Z17.out; have z18 := Z18.out; have z19 := Z19.out; have z20 := Z20.out; have z21 := Z21.out; have z22 := Z22.out; omega))
  have RW_22 : Hid (Below w6.heap.size w6 w22) := RW_21.out.trans (HB.out.mono (by have z0 := Z1.out; have z1 := N1.out; have z2 := Z2.out; have z3 := Z3.out; have z4 := Z4.out; have z5 := Z5.out; have z6 := Z6.out; have z7 := Z7.out; have z8 := Z8.out; have z9 := Z9.out; have z10 := Z10.out; have z11 := Z11.out; have z12 := Z12.out; have z13 := Z13.out; have z14 := Z14.out; have z15 := Z15.out; have z16 := Z16.out; have z17 := Z17.out; have z18 := Z18.out; have z19 := Z19.out; have z20 := Z20.out; have z21 := Z21.out; have z22 := Z22.out; omega))
  have Gg_22 : Hid (OwnEs tyRw 37 w9.heap.size w10.heap.size w22 yag nw (mrkTr 1 (jnL b0 d0 ms1 ms2))) := Gg_21.out.keep HB.out
  have h1_22 : Hid (OwnEs tyRw 37 w21.heap.size w22.heap.size w22 vh1 ms1.length ms1) := Oh1
  clear HB HW BA_21 BEL_21 RW_21 Gg_21
  clear Oh1
  obtain ⟨qBA0, qBA1⟩ := BA_22.out.c2
  have lBA := BA_22.out.lt
  go_wp2_with fail
  refine (toRowS_any a2 cap2 ms2 _ HL2.out (HR2.out.keep BEL_22.out)).mono ?_
  rintro e w23 ⟨vh2, rfl, Oh2, HW⟩
  clear qBA0 qBA1 lBA
  have HB : Hid (Below w22.heap.size w22 w23) := HW
  have Z23 : Hid (w22.heap.size ≤ w23.heap.size) := HB.out.size
  have BA_23 : Hid (BxV w w23 #[.int .i64 b0, .int .i64 d0] 47) := BA_22.out.keep HB.out
  have BEL_23 : Hid (Below w.heap.size w w23) := BEL_22.out.trans (HB.out.mono (by have z0 := Z1.out; have z1 := N1.out; have z2 := Z2.out; have z3 := Z3.out; have z4 := Z4.out; have z5 := Z5.out; have z6 := Z6.out; have z7 := Z7.out; have z8 := Z8.out; have z9 := Z9.out; have z10 := Z10.out; have z11 := Z11.out; have z12 := Z12.out; have z13 := Z13.out; have z14 := Z14.out; have z15 := Z15.out; have z16 := Z16.out; have z17 := Z17.out; have z18 := Z18.out; have z19 := Z19.out; have z20 := Z20.out; have z21 := Z21.out; have z22 := Z22.out; have z23 := Z23.out; omega))
  have RW_23 : Hid (Below w6.heap.size w6 w23) := RW_22.out.trans (HB.out.mono (by have z0 := Z1.out; have z1 := N1.out; have z2 := Z2.out; have z3 := Z3.out; have z4 := Z4.out; have z5 := Z5.out; have z6 := Z6.out; have z7 := Z7.out; have z8 := Z8.out; have z9 := Z9.out; have z10 := Z10.out; have z11 := Z11.out; have z12 := Z12.out; have z13 := Z13.out; have z14 := Z14.out; have z15 := Z15.out; have z16 := Z16.out; have z17 := Z17.out; have z18 := Z18.out; have z19 := Z19.out; have z20 := Z20.out; have z21 := Z21.out; have z22 := Z22.out; have z23 := Z23.out; omega))
  have Gg_23 : Hid (OwnEs tyRw 37 w9.heap.size w10.heap.size w23 yag nw (mrkTr 1 (jnL b0 d0 ms1 ms2))) := Gg_22.out.keep HB.out
  have h1_23 : Hid (OwnEs tyRw 37 w21.heap.size w22.heap.size w23 vh1 ms1.length ms1) := h1_22.out.keep HB.out
  have h2_23 : Hid (OwnEs tyRw 37 w22.heap.size w23.heap.size w23 vh2 ms2.length ms2) := Oh2
  clear HB HW BA_22 BEL_22 RW_22 Gg_22 h1_22
  clear Oh2
  obtain ⟨qBA0, qBA1⟩ := BA_23.out.c2
  have lBA := BA_23.out.lt
  go_wp2_with fail
  refine (Tb.JoinTables_own b0 d0 vh1 _ ms1.length ms1 vh2 _ ms2.length ms2 _ rfl HL1.out h1_23.out.at rfl HL2.out h2_23.out.at).mono ?_
  rintro e w24 ⟨yah, ynh, ych, rfl, hnh, Oh, HW⟩
  clear qBA0 qBA1 lBA
  have HB : Hid (Below w23.heap.size w23 w24) := HW
  have Z24 : Hid (w23.heap.size ≤ w24.heap.size) := HB.out.size
  have BA_24 : Hid (BxV w w24 #[.int .i64 b0, .int .i64 d0] 47) := BA_23.out.keep HB.out
  have BEL_24 : Hid (Below w.heap.size w w24) := BEL_23.out.trans (HB.out.mono (by have z0 := Z1.out; have z1 := N1.out; have z2 := Z2.out; have z3 := Z3.out; have z4 := Z4.out; have z5 := Z5.out; have z6 := Z6.out; have z7 := Z7.out; have z8 := Z8.out; have z9 := Z9.out; have z10 := Z10.out; have z11 := Z11.out; have z12 := Z12.out; have z13 := Z13.out; have z14 := Z14.out; have z15 := Z15.out; have z16 := Z16.out; have z17 := Z17.out; have z18 := Z18.out; have z19 := Z19.out; have z20 := Z20.out; have z21 := Z21.out; have z22 := Z22.out; have z23 := Z23.out; have z24 := Z24.out; omega))
  have RW_24 : Hid (Below w6.heap.size w6 w24) := RW_23.out.trans (HB.out.mono (by have z0 := Z1.out; have z1 := N1.out; have z2 := Z2.out; have z3 := Z3.out; have z4 := Z4.out; have z5 := Z5.out; have z6 := Z6.out; have z7 := Z7.out; have z8 := Z8.out; have z9 := Z9.out; have z10 := Z10.out; have z11 := Z11.out; have z12 := Z12.out; have z13 := Z13.out; have z14 := Z14.out; have z15 := Z15.out; have z16 := Z16.out; have z17 := Z17.out; have z18 := Z18.out; have z19 := Z19.out; have z20 := Z20.out; have z21 := Z21.out; have z22 := Z22.out; have z23 := Z23.out; have z24 := Z24.out; omega))
  have Gg_24 : Hid (OwnEs tyRw 37 w9.heap.size w10.heap.size w24 yag nw (mrkTr 1 (jnL b0 d0 ms1 ms2))) := Gg_23.out.keep HB.out
  have Gh_24 : Hid (OwnEs tyRw 37 w23.heap.size w24.heap.size w24 yah ynh (jnL b0 d0 ms1 ms2)) := Oh
  clear HB HW BA_23 BEL_23 RW_23 Gg_23 h1_23 h2_23
  have eh : nw = ynh := by rw [← HNW.out, ← hnh]
  subst eh
  clear hnh Oh
  obtain ⟨qBA0, qBA1⟩ := BA_24.out.c2
  have lBA := BA_24.out.lt
  go_wp2_with fail
  refine (eqRowS_own yah aw ych cw _ (jnL b0 d0 ms1 ms2) _ HNW.out HN2.out Gh_24.out.at (W0.out.keep RW_24.out)).mono ?_
  rintro e w25 ⟨rfl, HW⟩
  clear qBA0 qBA1 lBA
  have HB : Hid (Below w24.heap.size w24 w25) := HW
  have Z25 : Hid (w24.heap.size ≤ w25.heap.size) := HB.out.size
  have BA_25 : Hid (BxV w w25 #[.int .i64 b0, .int .i64 d0] 47) := BA_24.out.keep HB.out
  have BEL_25 : Hid (Below w.heap.size w w25) := BEL_24.out.trans (HB.out.mono (by have z0 := Z1.out; have z1 := N1.out; have z2 := Z2.out; have z3 := Z3.out; have z4 := Z4.out; have z5 := Z5.out; have z6 := Z6.out; have z7 := Z7.out; have z8 := Z8.out; have z9 := Z9.out; have z10 := Z10.out; have z11 := Z11.out; have z12 := Z12.out; have z13 := Z13.out; have z14 := Z14.out; have z15 := Z15.out; have z16 := Z16.out; have z17 := Z17.out; have z18 := Z18.out; have z19 := Z19.out; have z20 := Z20.out; have z21 := Z21.out; have z22 := Z22.out; have z23 := Z23.out; have z24 := Z24.out; have z25 := Z25.out; omega))
  have RW_25 : Hid (Below w6.heap.size w6 w25) := RW_24.out.trans (HB.out.mono (by have z0 := Z1.out; have z1 := N1.out; have z2 := Z2.out; have z3 := Z3.out; have z4 := Z4.out; have z5 := Z5.out; have z6 := Z6.out; have z7 := Z7.out; have z8 := Z8.out; have z9 := Z9.out; have z10 := Z10.out; have z11 := Z11.out; have z12 := Z12.out; have z13 := Z13.out; have z14 := Z14.out; have z15 := Z15.out; have z16 := Z16.out; have z17 := Z17.out; have z18 := Z18.out; have z19 := Z19.out; have z20 := Z20.out; have z21 := Z21.out; have z22 := Z22.out; have z23 := Z23.out; have z24 := Z24.out; have z25 := Z25.out; omega))
  have Gg_25 : Hid (OwnEs tyRw 37 w9.heap.size w10.heap.size w25 yag nw (mrkTr 1 (jnL b0 d0 ms1 ms2))) := Gg_24.out.keep HB.out
  have Gh_25 : Hid (OwnEs tyRw 37 w23.heap.size w24.heap.size w25 yah nw (jnL b0 d0 ms1 ms2)) := Gh_24.out.keep HB.out
  clear HB HW BA_24 BEL_24 RW_24 Gg_24 Gh_24
  obtain ⟨qBA0, qBA1⟩ := BA_25.out.c2
  have lBA := BA_25.out.lt
  go_wp2_with fail
  refine (heldRowS_own w9.heap.size w10.heap.size _ yag _ (jnL b0 d0 ms1 ms2) 1 _ HN2.out HNW.out (by omega) (by omega) Gg_25.out).mono ?_
  rintro e w26 ⟨rfl, HW⟩
  clear qBA0 qBA1 lBA
  have HB : Hid (Below w25.heap.size w25 w26) := HW
  have Z26 : Hid (w25.heap.size ≤ w26.heap.size) := HB.out.size
  have BA_26 : Hid (BxV w w26 #[.int .i64 b0, .int .i64 d0] 47) := BA_25.out.keep HB.out
  have BEL_26 : Hid (Below w.heap.size w w26) := BEL_25.out.trans (HB.out.mono (by have z0 := Z1.out; have z1 := N1.out; have z2 := Z2.out; have z3 := Z3.out; have z4 := Z4.out; have z5 := Z5.out; have z6 := Z6.out; have z7 := Z7.out; have z8 := Z8.out; have z9 := Z9.out; have z10 := Z10.out; have z11 := Z11.out; have z12 := Z12.out; have z13 := Z13.out; have z14 := Z14.out; have z15 := Z15.out; have z16 := Z16.out; have z17 := Z17.out; have z18 := Z18.out; have z19 := Z19.out; have z20 := Z20.out; have z21 := Z21.out; have z22 := Z22.out; have z23 := Z23.out; have z24 := Z24.out; have z25 := Z25.out; have z26 := Z26.out; omega))
  have RW_26 : Hid (Below w6.heap.size w6 w26) := RW_25.out.trans (HB.out.mono (by have z0 := Z1.out; have z1 := N1.out; have z2 := Z2.out; have z3 := Z3.out; have z4 := Z4.out; have z5 := Z5.out; have z6 := Z6.out; have z7 := Z7.out; have z8 := Z8.out; have z9 := Z9.out; have z10 := Z10.out; have z11 := Z11.out; have z12 := Z12.out; have z13 := Z13.out; have z14 := Z14.out; have z15 := Z15.out; have z16 := Z16.out; have z17 := Z17.out; have z18 := Z18.out; have z19 := Z19.out; have z20 := Z20.out; have z21 := Z21.out; have z22 := Z22.out; have z23 := Z23.out; have z24 := Z24.out; have z25 := Z25.out; have z26 := Z26.out; omega))
  have Gg_26 : Hid (OwnEs tyRw 37 w9.heap.size w10.heap.size w26 yag nw (mrkTr 1 (jnL b0 d0 ms1 ms2))) := Gg_25.out.keep HB.out
  have Gh_26 : Hid (OwnEs tyRw 37 w23.heap.size w24.heap.size w26 yah nw (jnL b0 d0 ms1 ms2)) := Gh_25.out.keep HB.out
  clear HB HW BA_25 BEL_25 RW_25 Gg_25 Gh_25
  go_wp2
  go_ret
  exact ⟨rfl, BEL_26.out⟩

set_option maxRecDepth 100000 in
theorem fnExactJoinTables_lifted (os : Os) (started : os.Started) (H : Type) (enc : TypeId × Value → H) :
    ReturnsInHanded {} Try.checked os 10 .any (Rows.fnExactJoinTablesSpec.pre6 enc Try.prog Try.f10 Rows.fnExactJoinTablesRow.domain false) (Rows.fnExactJoinTablesSpec.post enc Try.prog Try.f10 false true false false) := by
  refine returnsInHanded_of_change (C := Try.checked) own started (by kernel_rfl) Try.func10
    (ChangeSpec.witness6 (enc := enc) (C := Try.checked) false ⟨#[], #[.agg #[.int .i64 0, .int .i64 0], .slice none 0 0, .slice none 0 0], []⟩ 8 (by kernel_rfl) (by kernel_rfl) (by kernel_rfl) (by kernel_rfl)) ?_
  intro W base args ds gs before hval0 hW hcnd _
  have hval : ∀ (j : Nat) t v, Try.f10.params[j]? = some t → args[j]? = some v → Value.okWide Try.prog W .any base t v := hval0
  have hW' := hW
  obtain ⟨p, q, hA0, hV, rfl, hfz, hnd⟩ := hW
  have hA : DataW.TrodAll enc Try.prog W 0 (fun _ => true) true Try.f10.params.toList args.toList ds p := hA0
  rw [Try.params10] at hA hval
  obtain ⟨v0, vs0, d0, ds0, p0, q0, hargs, rfl, rfl, h0, r0⟩ := trodAll_cons hA
  obtain ⟨v1, vs1, d1, ds1, p1, q1, rfl, rfl, rfl, h1, r1⟩ := trodAll_cons r0
  obtain ⟨v2, vs2, d2, ds2, p2, q2, rfl, rfl, rfl, h2, r2⟩ := trodAll_cons r1
  obtain ⟨rfl, rfl, rfl⟩ := trodAll_nil r2
  obtain rfl : args = #[v0, v1, v2] := by cases args; simp_all
  obtain ⟨rfl, rfl⟩ := trodVars_none hV
  have k0 := h0
  have lt0 : ∀ x ∈ p0, x.block < W.heap.size := by obtain ⟨m, hm⟩ := k0; exact DataW.trod_lt m _ _ _ hm
  obtain ⟨c0, c1, y0, y1, m, rfl, hd0, hp0, hy0, hy1⟩ := Joins.open_agg2 Try.underlying47 (by kernel_rfl) cellsS (hval 0 47 v0 rfl rfl) h0
  obtain ⟨a, e0, _, wa⟩ := DataW.trod_int Try.underlying3 hy0
  obtain ⟨b, e1, _, wb⟩ := DataW.trod_int Try.underlying3 hy1
  simp at e0 e1
  subst e0 e1
  obtain ⟨a1, len1, cap1, rfl⟩ := okWide_slice Try.underlying48 (hval 1 48 v1 rfl rfl)
  have k1 := h1
  have lt1 : ∀ x ∈ p1, x.block < W.heap.size := by obtain ⟨m, hm⟩ := k1; exact DataW.trod_lt m _ _ _ hm
  obtain ⟨ms1, rfl, hm1, hr1⟩ := open_rows h1
  obtain ⟨a2, len2, cap2, rfl⟩ := okWide_slice Try.underlying48 (hval 2 48 v2 rfl rfl)
  have k2 := h2
  have lt2 : ∀ x ∈ p2, x.block < W.heap.size := by obtain ⟨m, hm⟩ := k2; exact DataW.trod_lt m _ _ _ hm
  obtain ⟨ms2, rfl, hm2, hr2⟩ := open_rows h2
  clear hA0 hval0
  refine (wFnExactJoinTables a b a1 cap1 ms1 a2 cap2 ms2 W hm1 hr1 hm2 hr2).mono fun e W' ⟨he, bel⟩ => ?_
  subst he
  exact ⟨_, rfl, _, _, _, [], _, [], hW', trodAll_mk1 (shut_bool Try.underlying4 _), (trodAll_cons_mk (Below.trod laidOut (by kernel_rfl) (of_decide_eq_true (by kernel_rfl)) k0 bel lt0) (trodAll_cons_mk (Below.trod laidOut (by kernel_rfl) (of_decide_eq_true (by kernel_rfl)) k1 bel lt1) (trodAll_cons_mk (Below.trod laidOut (by kernel_rfl) (of_decide_eq_true (by kernel_rfl)) k2 bel lt2) trodAll_mk0))), rfl, bel.frame _, fun h => by cases h⟩

theorem fnExactJoinTables_holds : Rows.FnExactJoinTablesSaid :=
  OpenClaim.holds_of_wide 10 Try.f10 rfl rfl rfl rfl rfl rfl rfl ⟨rfl, rfl, rfl, rfl, rfl⟩ rfl rfl rfl rfl rfl (by kernel_rfl) Try.func10 (by kernel_rfl)
    (of_decide_eq_true (by kernel_rfl)) (by unfold Func.isWrapper; first | (rw [if_pos (by decide +kernel)]; kernel_rfl) | (rw [if_neg (by decide +kernel)]; exact ⟨rfl, rfl⟩))
    (fun os started H enc _ => fnExactJoinTables_lifted os started H enc)
#print axioms fnExactJoinTables_holds
end Go.Proofs.Ytpgngfdhnoonjaa
