/- For every two messages SameMsg answers as its specification, and writes into none: no condition. -/
import Derived.Test.YtabbicfakkehpaaF4
import Derived.Test.YtabbicfakkehpaaK0
namespace Go.Proofs.Ytabbicfakkehpaa
open Go.ChangeShapes Go.WideShapes Go.ChangeAt Go.RowKit Go.Deep
set_option linter.unusedVariables false
set_option linter.unusedSimpArgs false
set_option maxRecDepth 100000 in
set_option maxHeartbeats 12800000 in
theorem wFnExactSameMsg (y00 y01 y02 y03 y04 y05 y06 y07 : Int) (a0 : Option Addr) (cap0 : Nat) (zs0 : List Int) (y10 y11 y12 y13 y14 y15 y16 y17 : Int) (a1 : Option Addr) (cap1 : Nat) (zs1 : List Int) (w : World) (hm0 : zs0.length ≤ maxLen) (hr0 : RowAt w a0 zs0) (hm1 : zs1.length ≤ maxLen) (hr1 : RowAt w a1 zs1) :
    Calls Try.prog 7 #[.agg #[.int .i64 y00, .int .i64 y01, .int .i64 y02, .int .i64 y03, .int .i64 y04, .int .i64 y05, .int .i64 y06, .int .i64 y07, .slice a0 zs0.length cap0], .agg #[.int .i64 y10, .int .i64 y11, .int .i64 y12, .int .i64 y13, .int .i64 y14, .int .i64 y15, .int .i64 y16, .int .i64 y17, .slice a1 zs1.length cap1]] w fun e w' => e = .returned (.bool true) ∧ Below w.heap.size w w' := by
  have HR0 : Hid (RowAt w a0 zs0) := hr0
  have HR1 : Hid (RowAt w a1 zs1) := hr1
  clear hr0 hr1
  go_enter Try.func7, Try.ntmps7
  go_wp2_with fail
  refine (szMsg_any _ _ _ _ _ _ _ _ _ _ _ _ _ hm0 (by omega) (by omega)).mono ?_
  rintro e w1 ⟨rfl, HW⟩
  obtain ⟨KA, KB, HB⟩ := bkAB HW
  have A_1 : Hid (Bk w1 w.heap.size #[.int .i64 y00, .int .i64 y01, .int .i64 y02, .int .i64 y03, .int .i64 y04, .int .i64 y05, .int .i64 y06, .int .i64 y07, .slice a0 zs0.length cap0] 39) := KA
  have B_1 : Hid (Bk w1 (w.heap.size + 1) #[.int .i64 y10, .int .i64 y11, .int .i64 y12, .int .i64 y13, .int .i64 y14, .int .i64 y15, .int .i64 y16, .int .i64 y17, .slice a1 zs1.length cap1] 39) := KB
  have BEL_1 : Hid (Below w.heap.size w w1) := HB
  clear HW KA KB HB
  by_cases hb0 : (1048576 : Int) < zs0.length
  · rw [szl_lo hb0]
    go_wp2
    go_ret
    exact ⟨rfl, BEL_1.out⟩
  rw [szl_hi hb0]
  have hl0 : zs0.length ≤ 1048576 := by omega
  have hl0' : ¬ (1048576 - (zs0.length : Int) < 0) := by omega
  clear hb0
  obtain ⟨qB0, qB1, qB2, qB3, qB4, qB5, qB6, qB7, qB8⟩ := Bk.c9 B_1.out
  have lB := Bk.lt B_1.out
  go_wp2_with fail
  refine (szMsg_any _ _ _ _ _ _ _ _ _ _ _ _ _ hm1 (by omega) (by omega)).mono ?_
  rintro e w2 ⟨rfl, HW⟩
  clear qB0 qB1 qB2 qB3 qB4 qB5 qB6 qB7 qB8 lB
  have A_2 : Hid (Bk w2 w.heap.size #[.int .i64 y00, .int .i64 y01, .int .i64 y02, .int .i64 y03, .int .i64 y04, .int .i64 y05, .int .i64 y06, .int .i64 y07, .slice a0 zs0.length cap0] 39) := A_1.out.keep (HW)
  have B_2 : Hid (Bk w2 (w.heap.size + 1) #[.int .i64 y10, .int .i64 y11, .int .i64 y12, .int .i64 y13, .int .i64 y14, .int .i64 y15, .int .i64 y16, .int .i64 y17, .slice a1 zs1.length cap1] 39) := B_1.out.keep (HW)
  have BEL_2 : Hid (Below w.heap.size w w2) := belt BEL_1.out (HW)
  clear A_1 B_1 BEL_1
  clear HW
  by_cases hb1 : (1048576 - (zs0.length : Int)) < zs1.length
  · rw [szl_lo hb1]
    go_wp2
    go_ret
    exact ⟨rfl, BEL_2.out⟩
  rw [szl_hi hb1]
  have hl1 : zs1.length ≤ 1048576 := by omega
  have hl1' : ¬ (1048576 - (zs0.length : Int) - (zs1.length : Int) < 0) := by omega
  clear hb1
  obtain ⟨sv, hsv⟩ : ∃ z, Hid ((hdB y00 y01 y02 y03 y04 y05 y06 y07 y10 y11 y12 y13 y14 y15 y16 y17 && sameB zs0 zs1) = z) := ⟨_, rfl⟩
  obtain ⟨qA0, qA1, qA2, qA3, qA4, qA5, qA6, qA7, qA8⟩ := Bk.c9 A_2.out
  have lA := Bk.lt A_2.out
  obtain ⟨qB0, qB1, qB2, qB3, qB4, qB5, qB6, qB7, qB8⟩ := Bk.c9 B_2.out
  have lB := Bk.lt B_2.out
  go_wp2_with fail
  clear qA0 qA1 qA2 qA3 qA4 qA5 qA6 qA7 qA8 lA qB0 qB1 qB2 qB3 qB4 qB5 qB6 qB7 qB8 lB
  refine wp_region_held_drew (S := fun w' => Below w2.heap.size w2 w') (by kernel_rfl) ((Below.refl _ _).drew) (fun hs0 => ?_)
  refine wpAnyH_take (i := 0) (oi := _) (v := _) rfl (by kernel_rfl) (by kernel_rfl) (by kernel_rfl) (fun _ _ _ h => h) (yieldsIf_bk rfl rfl rfl (fun w' h => (A_2.out).keep h) Try.underlying39 rfl (by kernel_rfl)) hs0 ?_
  simp only [Act.put, List.setIfInBounds_toArray, List.set_cons_zero, List.set_cons_succ]
  refine wpAnyH_take (i := 2) (oi := _) (v := _) rfl (by kernel_rfl) (by kernel_rfl) (by kernel_rfl) (fun _ _ _ h => h) (yieldsIf_bk rfl rfl rfl (fun w' h => (B_2.out).keep h) Try.underlying39 rfl (by kernel_rfl)) hs0 ?_
  simp only [Act.put, List.setIfInBounds_toArray, List.set_cons_zero, List.set_cons_succ]
  refine wpAnyH_ready (rs := [1]) (by kernel_rfl) (by simp) ?_
  refine AllReadyH.cons rfl (fun K hK => ?_) AllReadyH.nil
  go_simp
  refine (toMsg_any y00 y01 y02 y03 y04 y05 y06 y07 a0 cap0 _ zs0 _ rfl hl0 (HR0.out.keep (belt BEL_2.out hs0))).mono ?_
  rintro e wa ⟨va, rfl, OA, hw1⟩
  have hs1 := belt hs0 hw1
  refine hK.out _ _ hs1 (fun _ => ?_)
  clear hK K
  refine wpAnyH_ready (rs := [3]) (by kernel_rfl) (by simp) ?_
  refine AllReadyH.cons rfl (fun K hK => ?_) AllReadyH.nil
  go_simp
  refine (toMsg_any y10 y11 y12 y13 y14 y15 y16 y17 a1 cap1 _ zs1 _ rfl hl1 (HR1.out.keep (belt BEL_2.out hs1))).mono ?_
  rintro e wb ⟨vb, rfl, OB, hw2⟩
  have hs2 := belt hs1 hw2
  have OA2 := OA.keep hw2
  refine hK.out _ _ hs2 (fun _ => ?_)
  clear hK K
  refine wpAnyH_ready (rs := [4]) (by kernel_rfl) (by simp) ?_
  refine AllReadyH.cons rfl (fun K hK => ?_) AllReadyH.nil
  go_simp
  refine (lSameMsg_any y00 y01 y02 y03 y04 y05 y06 y07 y10 y11 y12 y13 y14 y15 y16 y17 va vb _ _ _ _ zs0 zs1 _ rfl rfl (by unfold maxLen; omega) OA2.rowAt OB.rowAt).mono ?_
  rintro e w3 ⟨rfl, hw3⟩
  have hs3 := belt hs2 hw3
  rw [hsv.out]
  refine hK.out _ _ hs3 (fun _ => ?_)
  clear hK K
  refine wpAnyH_ready (rs := [5]) (by kernel_rfl) (by simp) ?_
  refine AllReadyH.cons rfl (fun K hK => ?_) AllReadyH.nil
  go_simp
  refine hK.out _ _ hs3 (fun _ => ?_)
  clear hK K
  refine wpAnyH_done (by kernel_rfl) ?_ _
  have A_3 : Hid (Bk w3 w.heap.size #[.int .i64 y00, .int .i64 y01, .int .i64 y02, .int .i64 y03, .int .i64 y04, .int .i64 y05, .int .i64 y06, .int .i64 y07, .slice a0 zs0.length cap0] 39) := A_2.out.keep (hs3)
  have B_3 : Hid (Bk w3 (w.heap.size + 1) #[.int .i64 y10, .int .i64 y11, .int .i64 y12, .int .i64 y13, .int .i64 y14, .int .i64 y15, .int .i64 y16, .int .i64 y17, .slice a1 zs1.length cap1] 39) := B_2.out.keep (hs3)
  have BEL_3 : Hid (Below w.heap.size w w3) := belt BEL_2.out (hs3)
  clear A_2 B_2 BEL_2
  clear hs0 hs1 hs2 hs3 hw1 hw2 hw3
  clear OA OA2 OB
  obtain ⟨qA0, qA1, qA2, qA3, qA4, qA5, qA6, qA7, qA8⟩ := Bk.c9 A_3.out
  have lA := Bk.lt A_3.out
  go_wp2_with fail
  refine (toMsg_any y00 y01 y02 y03 y04 y05 y06 y07 a0 cap0 _ zs0 _ rfl hl0 (HR0.out.keep BEL_3.out)).mono ?_
  rintro e w4 ⟨v4, rfl, OX, HW⟩
  clear qA0 qA1 qA2 qA3 qA4 qA5 qA6 qA7 qA8 lA
  have A_4 : Hid (Bk w4 w.heap.size #[.int .i64 y00, .int .i64 y01, .int .i64 y02, .int .i64 y03, .int .i64 y04, .int .i64 y05, .int .i64 y06, .int .i64 y07, .slice a0 zs0.length cap0] 39) := A_3.out.keep (HW)
  have B_4 : Hid (Bk w4 (w.heap.size + 1) #[.int .i64 y10, .int .i64 y11, .int .i64 y12, .int .i64 y13, .int .i64 y14, .int .i64 y15, .int .i64 y16, .int .i64 y17, .slice a1 zs1.length cap1] 39) := B_3.out.keep (HW)
  have BEL_4 : Hid (Below w.heap.size w w4) := belt BEL_3.out (HW)
  clear A_3 B_3 BEL_3
  have XA_4 : Hid (OwnLs w3.heap.size w4.heap.size w4 v4 zs0.length zs0) := OX
  clear HW
  clear OX
  obtain ⟨qB0, qB1, qB2, qB3, qB4, qB5, qB6, qB7, qB8⟩ := Bk.c9 B_4.out
  have lB := Bk.lt B_4.out
  go_wp2_with fail
  refine (toMsg_any y10 y11 y12 y13 y14 y15 y16 y17 a1 cap1 _ zs1 _ rfl hl1 (HR1.out.keep (belt BEL_4.out (belA _ _)))).mono ?_
  rintro e w5 ⟨v5, rfl, OY, HW⟩
  clear qB0 qB1 qB2 qB3 qB4 qB5 qB6 qB7 qB8 lB
  have A_5 : Hid (Bk w5 w.heap.size #[.int .i64 y00, .int .i64 y01, .int .i64 y02, .int .i64 y03, .int .i64 y04, .int .i64 y05, .int .i64 y06, .int .i64 y07, .slice a0 zs0.length cap0] 39) := A_4.out.keep (bel1 HW (by simp))
  have B_5 : Hid (Bk w5 (w.heap.size + 1) #[.int .i64 y10, .int .i64 y11, .int .i64 y12, .int .i64 y13, .int .i64 y14, .int .i64 y15, .int .i64 y16, .int .i64 y17, .slice a1 zs1.length cap1] 39) := B_4.out.keep (bel1 HW (by simp))
  have BEL_5 : Hid (Below w.heap.size w w5) := belt BEL_4.out (bel1 HW (by simp))
  have XA_5 : Hid (OwnLs w3.heap.size w4.heap.size w5 v4 zs0.length zs0) := XA_4.out.keep (bel1 HW (by simp))
  clear A_4 B_4 BEL_4 XA_4
  have PA_5 : Hid (Bk w5 w4.heap.size #[.int .i64 y00, .int .i64 y01, .int .i64 y02, .int .i64 y03, .int .i64 y04, .int .i64 y05, .int .i64 y06, .int .i64 y07, .slice v4 zs0.length zs0.length] 33) := (Bk.new _ _ _).keep HW
  have XB_5 : Hid (OwnLs (w4.heap.size + 1) w5.heap.size w5 v5 zs1.length zs1) := (by have h := OY; simp only [World.size_alloc] at h; exact h)
  clear HW
  clear OY
  obtain ⟨qPA0, qPA1, qPA2, qPA3, qPA4, qPA5, qPA6, qPA7, qPA8⟩ := Bk.c9 PA_5.out
  have lPA := Bk.lt PA_5.out
  go_wp2_with fail
  refine (SameMsg_any y00 y01 y02 y03 y04 y05 y06 y07 y10 y11 y12 y13 y14 y15 y16 y17 v4 v5 _ _ _ _ zs0 zs1 _ rfl rfl (by unfold maxLen; omega) (XA_5.out.rowAt.keep (belA _ _)) (XB_5.out.rowAt.keep (belA _ _))).mono ?_
  rintro e w6 ⟨rfl, HW⟩
  clear qPA0 qPA1 qPA2 qPA3 qPA4 qPA5 qPA6 qPA7 qPA8 lPA
  rw [hsv.out]
  have A_6 : Hid (Bk w6 w.heap.size #[.int .i64 y00, .int .i64 y01, .int .i64 y02, .int .i64 y03, .int .i64 y04, .int .i64 y05, .int .i64 y06, .int .i64 y07, .slice a0 zs0.length cap0] 39) := A_5.out.keep (bel1 HW (by simp))
  have B_6 : Hid (Bk w6 (w.heap.size + 1) #[.int .i64 y10, .int .i64 y11, .int .i64 y12, .int .i64 y13, .int .i64 y14, .int .i64 y15, .int .i64 y16, .int .i64 y17, .slice a1 zs1.length cap1] 39) := B_5.out.keep (bel1 HW (by simp))
  have BEL_6 : Hid (Below w.heap.size w w6) := belt BEL_5.out (bel1 HW (by simp))
  have XA_6 : Hid (OwnLs w3.heap.size w4.heap.size w6 v4 zs0.length zs0) := XA_5.out.keep (bel1 HW (by simp))
  have PA_6 : Hid (Bk w6 w4.heap.size #[.int .i64 y00, .int .i64 y01, .int .i64 y02, .int .i64 y03, .int .i64 y04, .int .i64 y05, .int .i64 y06, .int .i64 y07, .slice v4 zs0.length zs0.length] 33) := PA_5.out.keep (bel1 HW (by simp))
  have XB_6 : Hid (OwnLs (w4.heap.size + 1) w5.heap.size w6 v5 zs1.length zs1) := XB_5.out.keep (bel1 HW (by simp))
  clear A_5 B_5 BEL_5 XA_5 PA_5 XB_5
  have PB_6 : Hid (Bk w6 w5.heap.size #[.int .i64 y10, .int .i64 y11, .int .i64 y12, .int .i64 y13, .int .i64 y14, .int .i64 y15, .int .i64 y16, .int .i64 y17, .slice v5 zs1.length zs1.length] 33) := (Bk.new _ _ _).keep HW
  clear HW
  have hbb := bne_self_bool sv
  obtain ⟨qPA0, qPA1, qPA2, qPA3, qPA4, qPA5, qPA6, qPA7, qPA8⟩ := Bk.c9 PA_6.out
  have lPA := Bk.lt PA_6.out
  obtain ⟨qA0, qA1, qA2, qA3, qA4, qA5, qA6, qA7, qA8⟩ := Bk.c9 A_6.out
  have lA := Bk.lt A_6.out
  go_wp2_with fail
  clear qPA0 qPA1 qPA2 qPA3 qPA4 qPA5 qPA6 qPA7 qPA8 lPA qA0 qA1 qA2 qA3 qA4 qA5 qA6 qA7 qA8 lA
  refine wp_region_held_drew (S := fun w' => Below w6.heap.size w6 w') (by kernel_rfl) ((Below.refl _ _).drew) (fun hs0 => ?_)
  refine wpAnyH_take (i := 0) (oi := _) (v := _) rfl (by kernel_rfl) (by kernel_rfl) (by kernel_rfl) (fun _ _ _ h => h) (yieldsIf_bk rfl rfl rfl (fun w' h => (PA_6.out).keep h) Try.underlying33 rfl (by kernel_rfl)) hs0 ?_
  simp only [Act.put, List.setIfInBounds_toArray, List.set_cons_zero, List.set_cons_succ]
  refine wpAnyH_take (i := 1) (oi := _) (v := _) rfl (by kernel_rfl) (by kernel_rfl) (by kernel_rfl) (fun _ _ _ h => h) (yieldsIf_bk rfl rfl rfl (fun w' h => (A_6.out).keep h) Try.underlying39 rfl (by kernel_rfl)) hs0 ?_
  simp only [Act.put, List.setIfInBounds_toArray, List.set_cons_zero, List.set_cons_succ]
  refine wpAnyH_ready (rs := [2]) (by kernel_rfl) (by simp) ?_
  refine AllReadyH.cons rfl (fun K hK => ?_) AllReadyH.nil
  go_simp
  refine (toMsg_any y00 y01 y02 y03 y04 y05 y06 y07 a0 cap0 _ zs0 _ rfl hl0 (HR0.out.keep (belt BEL_6.out hs0))).mono ?_
  rintro e wa ⟨va, rfl, OA, hw1⟩
  have hs1 := belt hs0 hw1
  have RX := XA_6.out.rowAt.keep hs1
  refine hK.out _ _ hs1 (fun _ => ?_)
  clear hK K
  refine wpAnyH_ready (rs := [3]) (by kernel_rfl) (by simp) ?_
  refine AllReadyH.cons rfl (fun K hK => ?_) AllReadyH.nil
  go_simp
  refine (eqMsg_own y00 y01 y02 y03 y04 y05 y06 y07 _ _ _ _ _ zs0 _ rfl hl0 RX OA.rowAt).mono ?_
  rintro e w7 ⟨rfl, hw2⟩
  have hs2 := belt hs1 hw2
  refine hK.out _ _ hs2 (fun _ => ?_)
  clear hK K
  refine wpAnyH_ready (rs := [4]) (by kernel_rfl) (by simp) ?_
  refine AllReadyH.cons rfl (fun K hK => ?_) AllReadyH.nil
  go_simp
  refine hK.out _ _ hs2 (fun _ => ?_)
  clear hK K
  refine wpAnyH_done (by kernel_rfl) ?_ _
  have A_7 : Hid (Bk w7 w.heap.size #[.int .i64 y00, .int .i64 y01, .int .i64 y02, .int .i64 y03, .int .i64 y04, .int .i64 y05, .int .i64 y06, .int .i64 y07, .slice a0 zs0.length cap0] 39) := A_6.out.keep (hs2)
  have B_7 : Hid (Bk w7 (w.heap.size + 1) #[.int .i64 y10, .int .i64 y11, .int .i64 y12, .int .i64 y13, .int .i64 y14, .int .i64 y15, .int .i64 y16, .int .i64 y17, .slice a1 zs1.length cap1] 39) := B_6.out.keep (hs2)
  have BEL_7 : Hid (Below w.heap.size w w7) := belt BEL_6.out (hs2)
  have XA_7 : Hid (OwnLs w3.heap.size w4.heap.size w7 v4 zs0.length zs0) := XA_6.out.keep (hs2)
  have PA_7 : Hid (Bk w7 w4.heap.size #[.int .i64 y00, .int .i64 y01, .int .i64 y02, .int .i64 y03, .int .i64 y04, .int .i64 y05, .int .i64 y06, .int .i64 y07, .slice v4 zs0.length zs0.length] 33) := PA_6.out.keep (hs2)
  have XB_7 : Hid (OwnLs (w4.heap.size + 1) w5.heap.size w7 v5 zs1.length zs1) := XB_6.out.keep (hs2)
  have PB_7 : Hid (Bk w7 w5.heap.size #[.int .i64 y10, .int .i64 y11, .int .i64 y12, .int .i64 y13, .int .i64 y14, .int .i64 y15, .int .i64 y16, .int .i64 y17, .slice v5 zs1.length zs1.length] 33) := PB_6.out.keep (hs2)
  clear A_6 B_6 BEL_6 XA_6 PA_6 XB_6 PB_6
  clear hs0 hs1 hs2 hw1 hw2
  clear OA RX
  obtain ⟨qPB0, qPB1, qPB2, qPB3, qPB4, qPB5, qPB6, qPB7, qPB8⟩ := Bk.c9 PB_7.out
  have lPB := Bk.lt PB_7.out
  obtain ⟨qB0, qB1, qB2, qB3, qB4, qB5, qB6, qB7, qB8⟩ := Bk.c9 B_7.out
  have lB := Bk.lt B_7.out
  go_wp2_with fail
  clear qPB0 qPB1 qPB2 qPB3 qPB4 qPB5 qPB6 qPB7 qPB8 lPB qB0 qB1 qB2 qB3 qB4 qB5 qB6 qB7 qB8 lB
  refine wp_region_held_drew (S := fun w' => Below w7.heap.size w7 w') (by kernel_rfl) ((Below.refl _ _).drew) (fun hs0 => ?_)
  refine wpAnyH_take (i := 0) (oi := _) (v := _) rfl (by kernel_rfl) (by kernel_rfl) (by kernel_rfl) (fun _ _ _ h => h) (yieldsIf_bk rfl rfl rfl (fun w' h => (PB_7.out).keep h) Try.underlying33 rfl (by kernel_rfl)) hs0 ?_
  simp only [Act.put, List.setIfInBounds_toArray, List.set_cons_zero, List.set_cons_succ]
  refine wpAnyH_take (i := 1) (oi := _) (v := _) rfl (by kernel_rfl) (by kernel_rfl) (by kernel_rfl) (fun _ _ _ h => h) (yieldsIf_bk rfl rfl rfl (fun w' h => (B_7.out).keep h) Try.underlying39 rfl (by kernel_rfl)) hs0 ?_
  simp only [Act.put, List.setIfInBounds_toArray, List.set_cons_zero, List.set_cons_succ]
  refine wpAnyH_ready (rs := [2]) (by kernel_rfl) (by simp) ?_
  refine AllReadyH.cons rfl (fun K hK => ?_) AllReadyH.nil
  go_simp
  refine (toMsg_any y10 y11 y12 y13 y14 y15 y16 y17 a1 cap1 _ zs1 _ rfl hl1 (HR1.out.keep (belt BEL_7.out hs0))).mono ?_
  rintro e wa ⟨va, rfl, OA, hw1⟩
  have hs1 := belt hs0 hw1
  have RX := XB_7.out.rowAt.keep hs1
  refine hK.out _ _ hs1 (fun _ => ?_)
  clear hK K
  refine wpAnyH_ready (rs := [3]) (by kernel_rfl) (by simp) ?_
  refine AllReadyH.cons rfl (fun K hK => ?_) AllReadyH.nil
  go_simp
  refine (eqMsg_own y10 y11 y12 y13 y14 y15 y16 y17 _ _ _ _ _ zs1 _ rfl hl1 RX OA.rowAt).mono ?_
  rintro e w8 ⟨rfl, hw2⟩
  have hs2 := belt hs1 hw2
  refine hK.out _ _ hs2 (fun _ => ?_)
  clear hK K
  refine wpAnyH_ready (rs := [4]) (by kernel_rfl) (by simp) ?_
  refine AllReadyH.cons rfl (fun K hK => ?_) AllReadyH.nil
  go_simp
  refine hK.out _ _ hs2 (fun _ => ?_)
  clear hK K
  refine wpAnyH_done (by kernel_rfl) ?_ _
  have A_8 : Hid (Bk w8 w.heap.size #[.int .i64 y00, .int .i64 y01, .int .i64 y02, .int .i64 y03, .int .i64 y04, .int .i64 y05, .int .i64 y06, .int .i64 y07, .slice a0 zs0.length cap0] 39) := A_7.out.keep (hs2)
  have B_8 : Hid (Bk w8 (w.heap.size + 1) #[.int .i64 y10, .int .i64 y11, .int .i64 y12, .int .i64 y13, .int .i64 y14, .int .i64 y15, .int .i64 y16, .int .i64 y17, .slice a1 zs1.length cap1] 39) := B_7.out.keep (hs2)
  have BEL_8 : Hid (Below w.heap.size w w8) := belt BEL_7.out (hs2)
  have XA_8 : Hid (OwnLs w3.heap.size w4.heap.size w8 v4 zs0.length zs0) := XA_7.out.keep (hs2)
  have PA_8 : Hid (Bk w8 w4.heap.size #[.int .i64 y00, .int .i64 y01, .int .i64 y02, .int .i64 y03, .int .i64 y04, .int .i64 y05, .int .i64 y06, .int .i64 y07, .slice v4 zs0.length zs0.length] 33) := PA_7.out.keep (hs2)
  have XB_8 : Hid (OwnLs (w4.heap.size + 1) w5.heap.size w8 v5 zs1.length zs1) := XB_7.out.keep (hs2)
  have PB_8 : Hid (Bk w8 w5.heap.size #[.int .i64 y10, .int .i64 y11, .int .i64 y12, .int .i64 y13, .int .i64 y14, .int .i64 y15, .int .i64 y16, .int .i64 y17, .slice v5 zs1.length zs1.length] 33) := PB_7.out.keep (hs2)
  clear A_7 B_7 BEL_7 XA_7 PA_7 XB_7 PB_7
  clear hs0 hs1 hs2 hw1 hw2
  go_wp2
  go_ret
  exact ⟨rfl, BEL_8.out⟩

set_option maxRecDepth 100000 in
theorem fnExactSameMsg_lifted (os : Os) (started : os.Started) (H : Type) (enc : TypeId × Value → H) :
    ReturnsInHanded {} Try.checked os 7 .any (Rows.fnExactSameMsgSpec.pre6 enc Try.prog Try.f7 Rows.fnExactSameMsgRow.domain false) (Rows.fnExactSameMsgSpec.post enc Try.prog Try.f7 false true false false) := by
  refine returnsInHanded_of_change (C := Try.checked) own started (by kernel_rfl) Try.func7
    (ChangeSpec.witness6 (enc := enc) (C := Try.checked) false ⟨#[], #[.agg #[.int .i64 0, .int .i64 0, .int .i64 0, .int .i64 0, .int .i64 0, .int .i64 0, .int .i64 0, .int .i64 0, .slice none 0 0], .agg #[.int .i64 0, .int .i64 0, .int .i64 0, .int .i64 0, .int .i64 0, .int .i64 0, .int .i64 0, .int .i64 0, .slice none 0 0]], []⟩ 8 (by kernel_rfl) (by kernel_rfl) (by kernel_rfl) (by kernel_rfl)) ?_
  intro W base args ds gs before hval0 hW hcnd _
  have hval : ∀ (j : Nat) t v, Try.f7.params[j]? = some t → args[j]? = some v → Value.okWide Try.prog W .any base t v := hval0
  have hW' := hW
  obtain ⟨p, q, hA0, hV, rfl, hfz, hnd⟩ := hW
  have hA : DataW.TrodAll enc Try.prog W 0 (fun _ => true) true Try.f7.params.toList args.toList ds p := hA0
  rw [Try.params7] at hA hval
  obtain ⟨v0, vs0, d0, ds0, p0, q0, hargs, rfl, rfl, h0, r0⟩ := trodAll_cons hA
  obtain ⟨v1, vs1, d1, ds1, p1, q1, rfl, rfl, rfl, h1, r1⟩ := trodAll_cons r0
  obtain ⟨rfl, rfl, rfl⟩ := trodAll_nil r1
  obtain rfl : args = #[v0, v1] := by cases args; simp_all
  obtain ⟨rfl, rfl⟩ := trodVars_none hV
  have k0 := h0
  have lt0 : ∀ x ∈ p0, x.block < W.heap.size := by obtain ⟨m, hm⟩ := k0; exact DataW.trod_lt m _ _ _ hm
  obtain ⟨n00, n01, n02, n03, n04, n05, n06, n07, a0, cap0, zs0, rfl, hz0, hr0⟩ := open_msg (hval 0 39 v0 rfl rfl) h0
  have k1 := h1
  have lt1 : ∀ x ∈ p1, x.block < W.heap.size := by obtain ⟨m, hm⟩ := k1; exact DataW.trod_lt m _ _ _ hm
  obtain ⟨n10, n11, n12, n13, n14, n15, n16, n17, a1, cap1, zs1, rfl, hz1, hr1⟩ := open_msg (hval 1 39 v1 rfl rfl) h1
  clear hA0 hval0
  refine (wFnExactSameMsg n00 n01 n02 n03 n04 n05 n06 n07 a0 cap0 zs0 n10 n11 n12 n13 n14 n15 n16 n17 a1 cap1 zs1 W hz0 hr0 hz1 hr1).mono fun e W' ⟨he, bel⟩ => ?_
  subst he
  exact ⟨_, rfl, _, _, _, [], _, [], hW', trodAll_mk1 (shut_bool Try.underlying4 _), (trodAll_cons_mk (Below.trod laidOut (by kernel_rfl) (of_decide_eq_true (by kernel_rfl)) k0 bel lt0) (trodAll_cons_mk (Below.trod laidOut (by kernel_rfl) (of_decide_eq_true (by kernel_rfl)) k1 bel lt1) trodAll_mk0)), rfl, bel.frame _, fun h => by cases h⟩

theorem fnExactSameMsg_holds : Rows.FnExactSameMsgSaid :=
  OpenClaim.holds_of_wide 7 Try.f7 rfl rfl rfl rfl rfl rfl rfl ⟨rfl, rfl, rfl, rfl, rfl⟩ rfl rfl rfl rfl rfl (by kernel_rfl) Try.func7 (by kernel_rfl)
    (of_decide_eq_true (by kernel_rfl)) (by unfold Func.isWrapper; first | (rw [if_pos (by decide +kernel)]; kernel_rfl) | (rw [if_neg (by decide +kernel)]; exact ⟨rfl, rfl⟩))
    (fun os started H enc _ => fnExactSameMsg_lifted os started H enc)
#print axioms fnExactSameMsg_holds
end Go.Proofs.Ytabbicfakkehpaa
