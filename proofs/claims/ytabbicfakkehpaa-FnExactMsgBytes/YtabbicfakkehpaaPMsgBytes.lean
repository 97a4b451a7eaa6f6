/- For every space and message MsgBytes answers as its specification, and writes into no argument: no condition. -/
import Derived.Test.YtabbicfakkehpaaBy3
import Derived.Test.YtabbicfakkehpaaK0
namespace Go.Proofs.Ytabbicfakkehpaa
open Go.ChangeShapes Go.WideShapes Go.ChangeAt Go.RowKit Go.Deep
set_option linter.unusedVariables false
set_option linter.unusedSimpArgs false
set_option maxRecDepth 100000 in
set_option maxHeartbeats 12800000 in
theorem wFnExactMsgBytes (b0 d0 : Int) (y10 y11 y12 y13 y14 y15 y16 y17 : Int) (a1 : Option Addr) (cap1 : Nat) (zs1 : List Int) (w : World) (hm1 : zs1.length ≤ maxLen) (hr1 : RowAt w a1 zs1) :
    Calls Try.prog 5 #[.agg #[.int .i64 b0, .int .i64 d0], .agg #[.int .i64 y10, .int .i64 y11, .int .i64 y12, .int .i64 y13, .int .i64 y14, .int .i64 y15, .int .i64 y16, .int .i64 y17, .slice a1 zs1.length cap1]] w fun e w' => e = .returned (.bool true) ∧ Below w.heap.size w w' := by
  have HR1 : Hid (RowAt w a1 zs1) := hr1
  clear hr1
  go_enter Try.func5, Try.ntmps5
  go_wp2_with fail
  refine (szMsg_any _ _ _ _ _ _ _ _ _ _ _ _ _ hm1 (by omega) (by omega)).mono ?_
  rintro e w1 ⟨rfl, HW⟩
  obtain ⟨KA, KB, HB⟩ := bkAB HW
  have A_1 : Hid (Bk w1 w.heap.size #[.int .i64 b0, .int .i64 d0] 38) := KA
  have B_1 : Hid (Bk w1 (w.heap.size + 1) #[.int .i64 y10, .int .i64 y11, .int .i64 y12, .int .i64 y13, .int .i64 y14, .int .i64 y15, .int .i64 y16, .int .i64 y17, .slice a1 zs1.length cap1] 39) := KB
  have BEL_1 : Hid (Below w.heap.size w w1) := HB
  clear HW KA KB HB
  by_cases hb1 : (1048576 : Int) < zs1.length
  · rw [szl_lo hb1]
    go_wp2
    go_ret
    exact ⟨rfl, BEL_1.out⟩
  rw [szl_hi hb1]
  have hl1 : zs1.length ≤ 1048576 := by omega
  have hl1' : ¬ (1048576 - (zs1.length : Int) < 0) := by omega
  clear hb1
  obtain ⟨sv, hsv⟩ : ∃ z, Hid (mbS b0 d0 y10 y11 y12 y13 y14 y15 y16 y17 zs1 = z) := ⟨_, rfl⟩
  obtain ⟨ov, hov⟩ : ∃ z, Hid (gmB b0 d0 y10 y11 y12 y13 y14 y15 y16 y17 zs1 = z) := ⟨_, rfl⟩
  obtain ⟨qA0, qA1⟩ := Bk.c2 A_1.out
  have lA := Bk.lt A_1.out
  obtain ⟨qB0, qB1, qB2, qB3, qB4, qB5, qB6, qB7, qB8⟩ := Bk.c9 B_1.out
  have lB := Bk.lt B_1.out
  go_wp2_with fail
  clear qA0 qA1 lA qB0 qB1 qB2 qB3 qB4 qB5 qB6 qB7 qB8 lB
  refine wp_region_held_drew (S := fun w' => Below w1.heap.size w1 w') (by kernel_rfl) ((Below.refl _ _).drew) (fun hs0 => ?_)
  refine wpAnyH_take (i := 0) (oi := _) (v := _) rfl (by kernel_rfl) (by kernel_rfl) (by kernel_rfl) (fun _ _ _ h => h) (yieldsIf_bk rfl rfl rfl (fun w' h => (A_1.out).keep h) Try.underlying38 rfl (by kernel_rfl)) hs0 ?_
  simp only [Act.put, List.setIfInBounds_toArray, List.set_cons_zero, List.set_cons_succ]
  refine wpAnyH_take (i := 2) (oi := _) (v := _) rfl (by kernel_rfl) (by kernel_rfl) (by kernel_rfl) (fun _ _ _ h => h) (yieldsIf_bk rfl rfl rfl (fun w' h => (B_1.out).keep h) Try.underlying39 rfl (by kernel_rfl)) hs0 ?_
  simp only [Act.put, List.setIfInBounds_toArray, List.set_cons_zero, List.set_cons_succ]
  refine wpAnyH_ready (rs := [1]) (by kernel_rfl) (by simp) ?_
  refine AllReadyH.cons rfl (fun K hK => ?_) AllReadyH.nil
  go_simp
  refine (toSpace_any b0 d0 _).mono ?_
  rintro e wa ⟨rfl, hw1⟩
  have hs1 := belt hs0 hw1
  refine hK.out _ _ hs1 (fun _ => ?_)
  clear hK K
  refine wpAnyH_ready (rs := [3]) (by kernel_rfl) (by simp) ?_
  refine AllReadyH.cons rfl (fun K hK => ?_) AllReadyH.nil
  go_simp
  refine (toMsg_any y10 y11 y12 y13 y14 y15 y16 y17 a1 cap1 _ zs1 _ rfl hl1 (HR1.out.keep (belt BEL_1.out hs1))).mono ?_
  rintro e wb ⟨vb, rfl, OB, hw2⟩
  have hs2 := belt hs1 hw2
  refine hK.out _ _ hs2 (fun _ => ?_)
  clear hK K
  refine wpAnyH_ready (rs := [4]) (by kernel_rfl) (by simp) ?_
  refine AllReadyH.cons rfl (fun K hK => ?_) AllReadyH.nil
  go_simp
  refine (lMsgBytes_any b0 d0 y10 y11 y12 y13 y14 y15 y16 y17 vb _ _ zs1 _ rfl hl1 OB.rowAt).mono ?_
  rintro e w2 ⟨rfl, hw3⟩
  have hs3 := belt hs2 hw3
  rw [hsv.out, hov.out]
  refine hK.out _ _ hs3 (fun _ => ?_)
  clear hK K
  refine wpAnyH_take (i := 5) (oi := _) (v := _) rfl (by kernel_rfl) (by kernel_rfl) (by kernel_rfl) (fun _ _ _ h => h) (.inl ⟨by rfl, by intro w hSw; go_simp; with_reducible rfl⟩) hs3 ?_
  simp only [Act.put, List.setIfInBounds_toArray, List.set_cons_zero, List.set_cons_succ]
  refine wpAnyH_take (i := 6) (oi := _) (v := _) rfl (by kernel_rfl) (by kernel_rfl) (by kernel_rfl) (fun _ _ _ h => h) (.inl ⟨by rfl, by intro w hSw; go_simp; with_reducible rfl⟩) hs3 ?_
  simp only [Act.put, List.setIfInBounds_toArray, List.set_cons_zero, List.set_cons_succ]
  refine wpAnyH_take (i := 7) (oi := _) (v := _) rfl (by kernel_rfl) (by kernel_rfl) (by kernel_rfl) (fun _ _ _ h => h) (.inl ⟨by rfl, by intro w hSw; go_simp; with_reducible rfl⟩) hs3 ?_
  simp only [Act.put, List.setIfInBounds_toArray, List.set_cons_zero, List.set_cons_succ]
  refine wpAnyH_take (i := 8) (oi := _) (v := _) rfl (by kernel_rfl) (by kernel_rfl) (by kernel_rfl) (fun _ _ _ h => h) (.inl ⟨by rfl, by intro w hSw; go_simp; with_reducible rfl⟩) hs3 ?_
  simp only [Act.put, List.setIfInBounds_toArray, List.set_cons_zero, List.set_cons_succ]
  refine wpAnyH_take (i := 9) (oi := _) (v := _) rfl (by kernel_rfl) (by kernel_rfl) (by kernel_rfl) (fun _ _ _ h => h) (.inl ⟨by rfl, by intro w hSw; go_simp; with_reducible rfl⟩) hs3 ?_
  simp only [Act.put, List.setIfInBounds_toArray, List.set_cons_zero, List.set_cons_succ]
  refine wpAnyH_done (by kernel_rfl) ?_ _
  have A_2 : Hid (Bk w2 w.heap.size #[.int .i64 b0, .int .i64 d0] 38) := A_1.out.keep (hs3)
  have B_2 : Hid (Bk w2 (w.heap.size + 1) #[.int .i64 y10, .int .i64 y11, .int .i64 y12, .int .i64 y13, .int .i64 y14, .int .i64 y15, .int .i64 y16, .int .i64 y17, .slice a1 zs1.length cap1] 39) := B_1.out.keep (hs3)
  have BEL_2 : Hid (Below w.heap.size w w2) := belt BEL_1.out (hs3)
  clear A_1 B_1 BEL_1
  clear hs0 hs1 hs2 hs3 hw1 hw2 hw3
  clear OB
  obtain ⟨qB0, qB1, qB2, qB3, qB4, qB5, qB6, qB7, qB8⟩ := Bk.c9 B_2.out
  have lB := Bk.lt B_2.out
  go_wp2_with fail
  refine (toMsg_any y10 y11 y12 y13 y14 y15 y16 y17 a1 cap1 _ zs1 _ rfl hl1 (HR1.out.keep BEL_2.out)).mono ?_
  rintro e w3 ⟨v3, rfl, OX, HW⟩
  clear qB0 qB1 qB2 qB3 qB4 qB5 qB6 qB7 qB8 lB
  have A_3 : Hid (Bk w3 w.heap.size #[.int .i64 b0, .int .i64 d0] 38) := A_2.out.keep (HW)
  have B_3 : Hid (Bk w3 (w.heap.size + 1) #[.int .i64 y10, .int .i64 y11, .int .i64 y12, .int .i64 y13, .int .i64 y14, .int .i64 y15, .int .i64 y16, .int .i64 y17, .slice a1 zs1.length cap1] 39) := B_2.out.keep (HW)
  have BEL_3 : Hid (Below w.heap.size w w3) := belt BEL_2.out (HW)
  clear A_2 B_2 BEL_2
  have XB_3 : Hid (OwnLs w2.heap.size w3.heap.size w3 v3 zs1.length zs1) := OX
  clear HW
  clear OX
  obtain ⟨qA0, qA1⟩ := Bk.c2 A_3.out
  have lA := Bk.lt A_3.out
  obtain ⟨qB0, qB1, qB2, qB3, qB4, qB5, qB6, qB7, qB8⟩ := Bk.c9 B_3.out
  have lB := Bk.lt B_3.out
  go_wp2_with fail
  clear qA0 qA1 lA qB0 qB1 qB2 qB3 qB4 qB5 qB6 qB7 qB8 lB
  have P_3 : Hid (Bk (w3.alloc (.cells #[.int .i64 y10, .int .i64 y11, .int .i64 y12, .int .i64 y13, .int .i64 y14, .int .i64 y15, .int .i64 y16, .int .i64 y17, .slice v3 zs1.length zs1.length] 33)) w3.heap.size #[.int .i64 y10, .int .i64 y11, .int .i64 y12, .int .i64 y13, .int .i64 y14, .int .i64 y15, .int .i64 y16, .int .i64 y17, .slice v3 zs1.length zs1.length] 33) := Bk.new _ _ _
  have hb4 : Below w3.heap.size w3 (w3.alloc (.cells #[.int .i64 y10, .int .i64 y11, .int .i64 y12, .int .i64 y13, .int .i64 y14, .int .i64 y15, .int .i64 y16, .int .i64 y17, .slice v3 zs1.length zs1.length] 33)) := belA _ _
  obtain ⟨w4, hw4⟩ : ∃ z, w3.alloc (.cells #[.int .i64 y10, .int .i64 y11, .int .i64 y12, .int .i64 y13, .int .i64 y14, .int .i64 y15, .int .i64 y16, .int .i64 y17, .slice v3 zs1.length zs1.length] 33) = z := ⟨_, rfl⟩
  rw [hw4] at P_3 hb4
  rw [hw4]
  clear hw4
  have P_4 : Hid (Bk w4 w3.heap.size #[.int .i64 y10, .int .i64 y11, .int .i64 y12, .int .i64 y13, .int .i64 y14, .int .i64 y15, .int .i64 y16, .int .i64 y17, .slice v3 zs1.length zs1.length] 33) := P_3
  clear P_3
  have A_4 : Hid (Bk w4 w.heap.size #[.int .i64 b0, .int .i64 d0] 38) := A_3.out.keep (hb4)
  have B_4 : Hid (Bk w4 (w.heap.size + 1) #[.int .i64 y10, .int .i64 y11, .int .i64 y12, .int .i64 y13, .int .i64 y14, .int .i64 y15, .int .i64 y16, .int .i64 y17, .slice a1 zs1.length cap1] 39) := B_3.out.keep (hb4)
  have BEL_4 : Hid (Below w.heap.size w w4) := belt BEL_3.out (hb4)
  have XB_4 : Hid (OwnLs w2.heap.size w3.heap.size w4 v3 zs1.length zs1) := XB_3.out.keep (hb4)
  clear A_3 B_3 BEL_3 XB_3
  clear hb4
  refine wp_region_held_drew (S := fun w' => Below w4.heap.size w4 w') (by kernel_rfl) ((Below.refl _ _).drew) (fun hs0 => ?_)
  refine wpAnyH_take (i := 0) (oi := _) (v := _) rfl (by kernel_rfl) (by kernel_rfl) (by kernel_rfl) (fun _ _ _ h => h) (yieldsIf_bk rfl rfl rfl (fun w' h => (A_4.out).keep h) Try.underlying38 rfl (by kernel_rfl)) hs0 ?_
  simp only [Act.put, List.setIfInBounds_toArray, List.set_cons_zero, List.set_cons_succ]
  refine wpAnyH_take (i := 2) (oi := _) (v := _) rfl (by kernel_rfl) (by kernel_rfl) (by kernel_rfl) (fun _ _ _ h => h) (yieldsIf_bk rfl rfl rfl (fun w' h => (P_4.out).keep h) Try.underlying33 rfl (by kernel_rfl)) hs0 ?_
  simp only [Act.put, List.setIfInBounds_toArray, List.set_cons_zero, List.set_cons_succ]
  refine wpAnyH_ready (rs := [1]) (by kernel_rfl) (by simp) ?_
  refine AllReadyH.cons rfl (fun K hK => ?_) AllReadyH.nil
  go_simp
  refine (toSpace_any b0 d0 _).mono ?_
  rintro e wa ⟨rfl, hw1⟩
  have hs1 := belt hs0 hw1
  refine hK.out _ _ hs1 (fun _ => ?_)
  clear hK K
  refine wpAnyH_ready (rs := [3]) (by kernel_rfl) (by simp) ?_
  refine AllReadyH.cons rfl (fun K hK => ?_) AllReadyH.nil
  go_simp
  refine (MsgBytes_any b0 d0 y10 y11 y12 y13 y14 y15 y16 y17 v3 _ _ zs1 _ rfl hl1 (XB_4.out.rowAt.keep hs1)).mono ?_
  rintro e w5 ⟨rfl, hw2⟩
  have hs2 := belt hs1 hw2
  rw [hsv.out, hov.out]
  refine hK.out _ _ hs2 (fun _ => ?_)
  clear hK K
  refine wpAnyH_take (i := 4) (oi := _) (v := _) rfl (by kernel_rfl) (by kernel_rfl) (by kernel_rfl) (fun _ _ _ h => h) (.inl ⟨by rfl, by intro w hSw; go_simp; with_reducible rfl⟩) hs2 ?_
  simp only [Act.put, List.setIfInBounds_toArray, List.set_cons_zero, List.set_cons_succ]
  refine wpAnyH_take (i := 5) (oi := _) (v := _) rfl (by kernel_rfl) (by kernel_rfl) (by kernel_rfl) (fun _ _ _ h => h) (.inl ⟨by rfl, by intro w hSw; go_simp; with_reducible rfl⟩) hs2 ?_
  simp only [Act.put, List.setIfInBounds_toArray, List.set_cons_zero, List.set_cons_succ]
  refine wpAnyH_take (i := 6) (oi := _) (v := _) rfl (by kernel_rfl) (by kernel_rfl) (by kernel_rfl) (fun _ _ _ h => h) (.inl ⟨by rfl, by intro w hSw; go_simp; with_reducible rfl⟩) hs2 ?_
  simp only [Act.put, List.setIfInBounds_toArray, List.set_cons_zero, List.set_cons_succ]
  refine wpAnyH_take (i := 7) (oi := _) (v := _) rfl (by kernel_rfl) (by kernel_rfl) (by kernel_rfl) (fun _ _ _ h => h) (.inl ⟨by rfl, by intro w hSw; go_simp; with_reducible rfl⟩) hs2 ?_
  simp only [Act.put, List.setIfInBounds_toArray, List.set_cons_zero, List.set_cons_succ]
  refine wpAnyH_take (i := 8) (oi := _) (v := _) rfl (by kernel_rfl) (by kernel_rfl) (by kernel_rfl) (fun _ _ _ h => h) (.inl ⟨by rfl, by intro w hSw; go_simp; with_reducible rfl⟩) hs2 ?_
  simp only [Act.put, List.setIfInBounds_toArray, List.set_cons_zero, List.set_cons_succ]
  refine wpAnyH_done (by kernel_rfl) ?_ _
  have A_5 : Hid (Bk w5 w.heap.size #[.int .i64 b0, .int .i64 d0] 38) := A_4.out.keep (hs2)
  have B_5 : Hid (Bk w5 (w.heap.size + 1) #[.int .i64 y10, .int .i64 y11, .int .i64 y12, .int .i64 y13, .int .i64 y14, .int .i64 y15, .int .i64 y16, .int .i64 y17, .slice a1 zs1.length cap1] 39) := B_4.out.keep (hs2)
  have BEL_5 : Hid (Below w.heap.size w w5) := belt BEL_4.out (hs2)
  have XB_5 : Hid (OwnLs w2.heap.size w3.heap.size w5 v3 zs1.length zs1) := XB_4.out.keep (hs2)
  have P_5 : Hid (Bk w5 w3.heap.size #[.int .i64 y10, .int .i64 y11, .int .i64 y12, .int .i64 y13, .int .i64 y14, .int .i64 y15, .int .i64 y16, .int .i64 y17, .slice v3 zs1.length zs1.length] 33) := P_4.out.keep (hs2)
  clear A_4 B_4 BEL_4 XB_4 P_4
  clear hs0 hs1 hs2 hw1 hw2
  have hbb := bne_self_bool ov
  have hbs : (sv.toList == sv.toList) = true := by simp
  obtain ⟨qP0, qP1, qP2, qP3, qP4, qP5, qP6, qP7, qP8⟩ := Bk.c9 P_5.out
  have lP := Bk.lt P_5.out
  obtain ⟨qB0, qB1, qB2, qB3, qB4, qB5, qB6, qB7, qB8⟩ := Bk.c9 B_5.out
  have lB := Bk.lt B_5.out
  go_wp2_with fail
  clear qP0 qP1 qP2 qP3 qP4 qP5 qP6 qP7 qP8 lP qB0 qB1 qB2 qB3 qB4 qB5 qB6 qB7 qB8 lB
  refine wp_region_held_drew (S := fun w' => Below w5.heap.size w5 w') (by kernel_rfl) ((Below.refl _ _).drew) (fun hs0 => ?_)
  refine wpAnyH_take (i := 0) (oi := _) (v := _) rfl (by kernel_rfl) (by kernel_rfl) (by kernel_rfl) (fun _ _ _ h => h) (yieldsIf_bk rfl rfl rfl (fun w' h => (P_5.out).keep h) Try.underlying33 rfl (by kernel_rfl)) hs0 ?_
  simp only [Act.put, List.setIfInBounds_toArray, List.set_cons_zero, List.set_cons_succ]
  refine wpAnyH_take (i := 1) (oi := _) (v := _) rfl (by kernel_rfl) (by kernel_rfl) (by kernel_rfl) (fun _ _ _ h => h) (yieldsIf_bk rfl rfl rfl (fun w' h => (B_5.out).keep h) Try.underlying39 rfl (by kernel_rfl)) hs0 ?_
  simp only [Act.put, List.setIfInBounds_toArray, List.set_cons_zero, List.set_cons_succ]
  refine wpAnyH_ready (rs := [2]) (by kernel_rfl) (by simp) ?_
  refine AllReadyH.cons rfl (fun K hK => ?_) AllReadyH.nil
  go_simp
  refine (toMsg_any y10 y11 y12 y13 y14 y15 y16 y17 a1 cap1 _ zs1 _ rfl hl1 (HR1.out.keep (belt BEL_5.out hs0))).mono ?_
  rintro e wa ⟨va, rfl, OA, hw1⟩
  have hs1 := belt hs0 hw1
  have RX := XB_5.out.rowAt.keep hs1
  refine hK.out _ _ hs1 (fun _ => ?_)
  clear hK K
  refine wpAnyH_ready (rs := [3]) (by kernel_rfl) (by simp) ?_
  refine AllReadyH.cons rfl (fun K hK => ?_) AllReadyH.nil
  go_simp
  refine (eqMsg_own y10 y11 y12 y13 y14 y15 y16 y17 _ _ _ _ _ zs1 _ rfl hl1 RX OA.rowAt).mono ?_
  rintro e w6 ⟨rfl, hw2⟩
  have hs2 := belt hs1 hw2
  refine hK.out _ _ hs2 (fun _ => ?_)
  clear hK K
  refine wpAnyH_ready (rs := [4]) (by kernel_rfl) (by simp) ?_
  refine AllReadyH.cons rfl (fun K hK => ?_) AllReadyH.nil
  go_simp
  refine hK.out _ _ hs2 (fun _ => ?_)
  clear hK K
  refine wpAnyH_done (by kernel_rfl) ?_ _
  have A_6 : Hid (Bk w6 w.heap.size #[.int .i64 b0, .int .i64 d0] 38) := A_5.out.keep (hs2)
  have B_6 : Hid (Bk w6 (w.heap.size + 1) #[.int .i64 y10, .int .i64 y11, .int .i64 y12, .int .i64 y13, .int .i64 y14, .int .i64 y15, .int .i64 y16, .int .i64 y17, .slice a1 zs1.length cap1] 39) := B_5.out.keep (hs2)
  have BEL_6 : Hid (Below w.heap.size w w6) := belt BEL_5.out (hs2)
  have XB_6 : Hid (OwnLs w2.heap.size w3.heap.size w6 v3 zs1.length zs1) := XB_5.out.keep (hs2)
  have P_6 : Hid (Bk w6 w3.heap.size #[.int .i64 y10, .int .i64 y11, .int .i64 y12, .int .i64 y13, .int .i64 y14, .int .i64 y15, .int .i64 y16, .int .i64 y17, .slice v3 zs1.length zs1.length] 33) := P_5.out.keep (hs2)
  clear A_5 B_5 BEL_5 XB_5 P_5
  clear hs0 hs1 hs2 hw1 hw2
  go_wp2
  go_ret
  exact ⟨rfl, BEL_6.out⟩

set_option maxRecDepth 100000 in
theorem fnExactMsgBytes_lifted (os : Os) (started : os.Started) (H : Type) (enc : TypeId × Value → H) :
    ReturnsInHanded {} Try.checked os 5 .any (Rows.fnExactMsgBytesSpec.pre6 enc Try.prog Try.f5 Rows.fnExactMsgBytesRow.domain false) (Rows.fnExactMsgBytesSpec.post enc Try.prog Try.f5 false true false false) := by
  refine returnsInHanded_of_change (C := Try.checked) own started (by kernel_rfl) Try.func5
    (ChangeSpec.witness6 (enc := enc) (C := Try.checked) false ⟨#[], #[.agg #[.int .i64 0, .int .i64 0], .agg #[.int .i64 0, .int .i64 0, .int .i64 0, .int .i64 0, .int .i64 0, .int .i64 0, .int .i64 0, .int .i64 0, .slice none 0 0]], []⟩ 8 (by kernel_rfl) (by kernel_rfl) (by kernel_rfl) (by kernel_rfl)) ?_
  intro W base args ds gs before hval0 hW hcnd _
  have hval : ∀ (j : Nat) t v, Try.f5.params[j]? = some t → args[j]? = some v → Value.okWide Try.prog W .any base t v := hval0
  have hW' := hW
  obtain ⟨p, q, hA0, hV, rfl, hfz, hnd⟩ := hW
  have hA : DataW.TrodAll enc Try.prog W 0 (fun _ => true) true Try.f5.params.toList args.toList ds p := hA0
  rw [Try.params5] at hA hval
  obtain ⟨v0, vs0, d0, ds0, p0, q0, hargs, rfl, rfl, h0, r0⟩ := trodAll_cons hA
  obtain ⟨v1, vs1, d1, ds1, p1, q1, rfl, rfl, rfl, h1, r1⟩ := trodAll_cons r0
  obtain ⟨rfl, rfl, rfl⟩ := trodAll_nil r1
  obtain rfl : args = #[v0, v1] := by cases args; simp_all
  obtain ⟨rfl, rfl⟩ := trodVars_none hV
  have k0 := h0
  have lt0 : ∀ x ∈ p0, x.block < W.heap.size := by obtain ⟨m, hm⟩ := k0; exact DataW.trod_lt m _ _ _ hm
  obtain ⟨c0, c1, y0, y1, m, rfl, hd0, hp0, hy0, hy1⟩ := Joins.open_agg2 Try.underlying38 (by kernel_rfl) cellsS (hval 0 38 v0 rfl rfl) h0
  obtain ⟨a, e0, _, wa⟩ := DataW.trod_int Try.underlying3 hy0
  obtain ⟨b, e1, _, wb⟩ := DataW.trod_int Try.underlying3 hy1
  simp at e0 e1
  subst e0 e1
  have k1 := h1
  have lt1 : ∀ x ∈ p1, x.block < W.heap.size := by obtain ⟨m, hm⟩ := k1; exact DataW.trod_lt m _ _ _ hm
  obtain ⟨n10, n11, n12, n13, n14, n15, n16, n17, a1, cap1, zs1, rfl, hz1, hr1⟩ := open_msg (hval 1 39 v1 rfl rfl) h1
  clear hA0 hval0
  refine (wFnExactMsgBytes a b n10 n11 n12 n13 n14 n15 n16 n17 a1 cap1 zs1 W hz1 hr1).mono fun e W' ⟨he, bel⟩ => ?_
  subst he
  exact ⟨_, rfl, _, _, _, [], _, [], hW', trodAll_mk1 (shut_bool Try.underlying4 _), (trodAll_cons_mk (Below.trod laidOut (by kernel_rfl) (of_decide_eq_true (by kernel_rfl)) k0 bel lt0) (trodAll_cons_mk (Below.trod laidOut (by kernel_rfl) (of_decide_eq_true (by kernel_rfl)) k1 bel lt1) trodAll_mk0)), rfl, bel.frame _, fun h => by cases h⟩

theorem fnExactMsgBytes_holds : Rows.FnExactMsgBytesSaid :=
  OpenClaim.holds_of_wide 5 Try.f5 rfl rfl rfl rfl rfl rfl rfl ⟨rfl, rfl, rfl, rfl, rfl⟩ rfl rfl rfl rfl rfl (by kernel_rfl) Try.func5 (by kernel_rfl)
    (of_decide_eq_true (by kernel_rfl)) (by unfold Func.isWrapper; first | (rw [if_pos (by decide +kernel)]; kernel_rfl) | (rw [if_neg (by decide +kernel)]; exact ⟨rfl, rfl⟩))
    (fun os started H enc _ => fnExactMsgBytes_lifted os started H enc)
#print axioms fnExactMsgBytes_holds
end Go.Proofs.Ytabbicfakkehpaa
