/- For every space and text ReadMsg answers as its specification, field by field, and its answer owns its memory: no condition but that the package's own variable reads as laid, which the card ties to the program's text. -/
import Derived.Test.YtabbicfakkehpaaDoorRd9
import Derived.Test.YtabbicfakkehpaaDoorK0
namespace Go.Proofs.YtabbicfakkehpaaDoor
open Go.ChangeShapes Go.WideShapes Go.ChangeAt Go.RowKit Go.Deep
set_option linter.unusedVariables false
set_option linter.unusedSimpArgs false
theorem rl_big (b d : Int) (s : ByteArray) : (rl b d s).length ≤ 1048576 := by
  unfold rl
  split
  · exact Nat.le_trans (fL_big s (bt_bd s 9).2) (by decide)
  · simp
theorem ans_form (b d : Int) (s : ByteArray) : ∃ (y0 y1 y2 y3 y4 y5 y6 y7 c : Int) (ok : Bool), ∀ va vn vc, ansV b d s va vn vc = .tuple #[.agg #[.int .i64 y0, .int .i64 y1, .int .i64 y2, .int .i64 y3, .int .i64 y4, .int .i64 y5, .int .i64 y6, .int .i64 y7, .slice va vn vc], .int .i64 c, .bool ok] :=
  ⟨_, _, _, _, _, _, _, _, _, _, fun _ _ _ => rfl⟩
set_option maxRecDepth 100000 in
set_option maxHeartbeats 12800000 in
theorem wFnExactReadMsg (b d : Int) (s : ByteArray) (w : World) (hag : AsG w) :
    Calls Tryd.prog 3 #[.agg #[.int .i64 b, .int .i64 d], .string s] w fun e w' => e = .returned (.bool true) ∧ Below w.heap.size w w' := by
  by_cases hbig : (1048576 : Int) < (s.size : Int)
  · have cbig : ((1048576 : Int) < (s.size : Int)) = True := eq_true hbig
    clear hbig
    go_enter Tryd.func3, Tryd.ntmps3
    go_wp2
    go_ret
    exact ⟨rfl, belA _ _⟩
  have hs : s.size ≤ 1048576 := by omega
  have cbig : ((1048576 : Int) < (s.size : Int)) = False := eq_false hbig
  clear hbig
  obtain ⟨y0, y1, y2, y3, y4, y5, y6, y7, cd, ok, hans⟩ := ans_form b d s
  obtain ⟨L, hL⟩ : ∃ L, rl b d s = L := ⟨_, rfl⟩
  have hLb := rl_big b d s
  rw [hL] at hLb
  have CS : Hid (∀ w, Calls Tryd.prog 4 #[.agg #[.int .i64 b, .int .i64 d], .string s] w fun e w' => ∃ va vc, e = .returned (.tuple #[.agg #[.int .i64 y0, .int .i64 y1, .int .i64 y2, .int .i64 y3, .int .i64 y4, .int .i64 y5, .int .i64 y6, .int .i64 y7, .slice va L.length vc], .int .i64 cd, .bool ok]) ∧ RowAt w' va L ∧ Below w.heap.size w w') := by
    intro w
    refine (lRead_any b d s w hs).mono ?_
    rintro e w1 ⟨va, vn, vc, rfl, h1, h2, h3⟩
    rw [hL] at h1 h2
    subst h1
    exact ⟨va, vc, by rw [hans], h2, h3⟩
  have CI : Hid (∀ w, AsG w → Calls Tryd.prog 6 #[.agg #[.int .i64 b, .int .i64 d], .string s] w fun e w' => ∃ va vc, e = .returned (.tuple #[.agg #[.int .i64 y0, .int .i64 y1, .int .i64 y2, .int .i64 y3, .int .i64 y4, .int .i64 y5, .int .i64 y6, .int .i64 y7, .slice va L.length vc], .int .i64 cd, .bool ok]) ∧ OwnLs w.heap.size w'.heap.size w' va L.length L ∧ Below w.heap.size w w') := by
    intro w ha
    refine (ReadMsg_any b d s w hs ha).mono ?_
    rintro e w1 ⟨va, vn, vc, rfl, h2, h3⟩
    rw [hL] at h2
    obtain rfl := h2.1
    exact ⟨va, vc, by rw [hans], h2, h3⟩
  clear hans hL
  obtain ⟨n, hn⟩ : ∃ n, Hid (L.length = n) := ⟨_, rfl⟩
  rw [hn.out] at CS CI hLb
  have hbb := bne_self_bool ok
  have HAG : Hid (AsG w) := hag
  clear hag
  go_enter Tryd.func3, Tryd.ntmps3
  go_wp2_with fail
  refine (toSpace_any b d _).mono ?_
  rintro e w1 ⟨rfl, HW⟩
  have hbx : Below w.heap.size w (w.alloc (.cells #[.int .i64 b, .int .i64 d] 23)) := belA _ _
  have BEL_1 : Hid (Below w.heap.size w w1) := belt hbx HW
  have BOX_1 : Hid (Bk w1 w.heap.size #[.int .i64 b, .int .i64 d] 23) := (Bk.new _ _ _).keep HW
  clear HW hbx
  go_wp2_with fail
  refine (CS.out _).mono ?_
  rintro e w2 ⟨va, vc, rfl, hrow, HW⟩
  have Z_2 : Hid (w1.heap.size ≤ w2.heap.size) := (HW).size
  have BEL_2 : Hid (Below w.heap.size w w2) := belt BEL_1.out (HW)
  have BOX_2 : Hid (Bk w2 w.heap.size #[.int .i64 b, .int .i64 d] 23) := BOX_1.out.keep (HW)
  clear BEL_1 BOX_1
  have WL_2 : Hid (RowAt w2 va L) := hrow
  clear HW hrow
  obtain ⟨s0, s1⟩ := Bk.c2 BOX_2.out
  have ls := BOX_2.out.lt
  go_wp2_with fail
  clear s0 s1 ls
  have hal : Below w2.heap.size w2 (w2.alloc (.cells #[.int .i64 y0, .int .i64 y1, .int .i64 y2, .int .i64 y3, .int .i64 y4, .int .i64 y5, .int .i64 y6, .int .i64 y7, .slice va n vc] 26)) := belA _ _
  have hnw : Hid (Bk (w2.alloc (.cells #[.int .i64 y0, .int .i64 y1, .int .i64 y2, .int .i64 y3, .int .i64 y4, .int .i64 y5, .int .i64 y6, .int .i64 y7, .slice va n vc] 26)) w2.heap.size #[.int .i64 y0, .int .i64 y1, .int .i64 y2, .int .i64 y3, .int .i64 y4, .int .i64 y5, .int .i64 y6, .int .i64 y7, .slice va n vc] 26) := Bk.new _ _ _
  generalize (w2.alloc (.cells #[.int .i64 y0, .int .i64 y1, .int .i64 y2, .int .i64 y3, .int .i64 y4, .int .i64 y5, .int .i64 y6, .int .i64 y7, .slice va n vc] 26)) = w3 at *
  have Z_3 : Hid (w2.heap.size ≤ w3.heap.size) := (hal).size
  have BEL_3 : Hid (Below w.heap.size w w3) := belt BEL_2.out (hal)
  have BOX_3 : Hid (Bk w3 w.heap.size #[.int .i64 b, .int .i64 d] 23) := BOX_2.out.keep (hal)
  have WL_3 : Hid (RowAt w3 va L) := WL_2.out.keep (hal)
  clear BEL_2 BOX_2 WL_2
  have K5_3 : Hid (Bk w3 w2.heap.size #[.int .i64 y0, .int .i64 y1, .int .i64 y2, .int .i64 y3, .int .i64 y4, .int .i64 y5, .int .i64 y6, .int .i64 y7, .slice va n vc] 26) := hnw
  clear hal hnw
  have RW_3 : Hid (Below w3.heap.size w3 w3) := Below.refl _ _
  have BOX : Hid _ := BOX_3
  have K5 : Hid _ := K5_3
  have WL : Hid _ := WL_3
  clear BOX_3 K5_3 WL_3
  refine (toSpace_any b d _).mono ?_
  rintro e w4 ⟨rfl, HW⟩
  have hw4 : Hid (w.heap.size ≤ w4.heap.size) := by have h := BEL_3.out.size; have h2 := HW.size; unfold Hid; omega
  have Z_4 : Hid (w3.heap.size ≤ w4.heap.size) := (HW).size
  have BEL_4 : Hid (Below w.heap.size w w4) := belt BEL_3.out (HW)
  have RW_4 : Hid (Below w3.heap.size w3 w4) := belt RW_3.out (HW)
  clear BEL_3 RW_3
  clear HW
  go_wp2_with fail
  refine (CI.out _ (HAG.out.keep BEL_4.out)).mono ?_
  rintro e w5 ⟨ag, cg, rfl, hol, HW⟩
  have Z_5 : Hid (w4.heap.size ≤ w5.heap.size) := (HW).size
  have BEL_5 : Hid (Below w.heap.size w w5) := belt BEL_4.out (HW)
  have RW_5 : Hid (Below w3.heap.size w3 w5) := belt RW_4.out (HW)
  clear BEL_4 RW_4
  have GL_5 : Hid (OwnLs w4.heap.size w5.heap.size w5 ag n L) := hol
  clear HW hol
  obtain ⟨q0, q1, q2, q3, q4, q5, q6, q7, q8⟩ := Bk.c9 (K5.out.keep RW_5.out)
  have lq := (K5.out.keep RW_5.out).lt
  go_wp2_with fail
  clear q0 q1 q2 q3 q4 q5 q6 q7 q8 lq
  have hal : Below w5.heap.size w5 (w5.alloc (.cells #[.int .i64 y0, .int .i64 y1, .int .i64 y2, .int .i64 y3, .int .i64 y4, .int .i64 y5, .int .i64 y6, .int .i64 y7, .slice ag n cg] 26)) := belA _ _
  have hnw : Hid (Bk (w5.alloc (.cells #[.int .i64 y0, .int .i64 y1, .int .i64 y2, .int .i64 y3, .int .i64 y4, .int .i64 y5, .int .i64 y6, .int .i64 y7, .slice ag n cg] 26)) w5.heap.size #[.int .i64 y0, .int .i64 y1, .int .i64 y2, .int .i64 y3, .int .i64 y4, .int .i64 y5, .int .i64 y6, .int .i64 y7, .slice ag n cg] 26) := Bk.new _ _ _
  generalize (w5.alloc (.cells #[.int .i64 y0, .int .i64 y1, .int .i64 y2, .int .i64 y3, .int .i64 y4, .int .i64 y5, .int .i64 y6, .int .i64 y7, .slice ag n cg] 26)) = w6 at *
  have Z_6 : Hid (w5.heap.size ≤ w6.heap.size) := (hal).size
  have BEL_6 : Hid (Below w.heap.size w w6) := belt BEL_5.out (hal)
  have RW_6 : Hid (Below w3.heap.size w3 w6) := belt RW_5.out (hal)
  have GL_6 : Hid (OwnLs w4.heap.size w5.heap.size w6 ag n L) := GL_5.out.keep (hal)
  clear BEL_5 RW_5 GL_5
  have K8_6 : Hid (Bk w6 w5.heap.size #[.int .i64 y0, .int .i64 y1, .int .i64 y2, .int .i64 y3, .int .i64 y4, .int .i64 y5, .int .i64 y6, .int .i64 y7, .slice ag n cg] 26) := hnw
  clear hal hnw
  refine (eqMsg_own y0 y1 y2 y3 y4 y5 y6 y7 ag va _ _ n L _ hn.out hLb (GL_6.out.rowAt) (WL.out.keep RW_6.out)).mono ?_
  rintro e w7 ⟨rfl, HW⟩
  have Z_7 : Hid (w6.heap.size ≤ w7.heap.size) := (HW).size
  have BEL_7 : Hid (Below w.heap.size w w7) := belt BEL_6.out (HW)
  have RW_7 : Hid (Below w3.heap.size w3 w7) := belt RW_6.out (HW)
  have GL_7 : Hid (OwnLs w4.heap.size w5.heap.size w7 ag n L) := GL_6.out.keep (HW)
  have K8_7 : Hid (Bk w7 w5.heap.size #[.int .i64 y0, .int .i64 y1, .int .i64 y2, .int .i64 y3, .int .i64 y4, .int .i64 y5, .int .i64 y6, .int .i64 y7, .slice ag n cg] 26) := K8_6.out.keep (HW)
  clear BEL_6 RW_6 GL_6 K8_6
  clear HW
  obtain ⟨q0, q1, q2, q3, q4, q5, q6, q7, q8⟩ := Bk.c9 K8_7.out
  have lq := K8_7.out.lt
  go_wp2_with fail
  clear q0 q1 q2 q3 q4 q5 q6 q7 q8 lq
  refine (markMsg_own w4.heap.size w5.heap.size _ ag n y0 y1 y2 y3 y4 y5 y6 y7 L 1 _ hLb (by omega) (by omega) GL_7.out (by have := Z_5.out; have := Z_6.out; have := Z_7.out; omega) (by have := Z_6.out; have := Z_7.out; omega)).mono ?_
  rintro e w8 ⟨rfl, MK, OM⟩
  have hz48 : Hid (w7.heap.size ≤ w8.heap.size) := MK.size
  have BEL_8 : Hid (Below w.heap.size w w8) := MK.below _ _ (by have := hw4.out; omega) BEL_7.out
  have RW_8 : Hid (Below w3.heap.size w3 w8) := MK.below _ _ Z_4.out RW_7.out
  have K8_8 : Hid (Bk w8 w5.heap.size #[.int .i64 y0, .int .i64 y1, .int .i64 y2, .int .i64 y3, .int .i64 y4, .int .i64 y5, .int .i64 y6, .int .i64 y7, .slice ag n cg] 26) := (MK.block _ K8_7.out.lt (by omega)).trans K8_7.out
  have GL_8 : Hid (OwnLs w4.heap.size w5.heap.size w8 ag n (mrk 1 L n)) := OM
  clear MK OM BEL_7 RW_7 K8_7 GL_7
  obtain ⟨q0, q1, q2, q3, q4, q5, q6, q7, q8⟩ := Bk.c9 K8_8.out
  have lq := K8_8.out.lt
  go_wp2_with fail
  clear q0 q1 q2 q3 q4 q5 q6 q7 q8 lq
  refine (heldMsg_own w4.heap.size w5.heap.size _ ag n y0 y1 y2 y3 y4 y5 y6 y7 L 1 _ hLb hn.out (by omega) (by omega) GL_8.out).mono ?_
  rintro e w9 ⟨rfl, HW⟩
  have Z_9 : Hid (w8.heap.size ≤ w9.heap.size) := (HW).size
  have BEL_9 : Hid (Below w.heap.size w w9) := belt BEL_8.out (HW)
  have RW_9 : Hid (Below w3.heap.size w3 w9) := belt RW_8.out (HW)
  have GL_9 : Hid (OwnLs w4.heap.size w5.heap.size w9 ag n (mrk 1 L n)) := GL_8.out.keep (HW)
  have K8_9 : Hid (Bk w9 w5.heap.size #[.int .i64 y0, .int .i64 y1, .int .i64 y2, .int .i64 y3, .int .i64 y4, .int .i64 y5, .int .i64 y6, .int .i64 y7, .slice ag n cg] 26) := K8_8.out.keep (HW)
  clear BEL_8 RW_8 GL_8 K8_8
  clear HW
  have hn1 : ¬ (1 + (n : Int) < 0) := by omega
  obtain ⟨s0, s1⟩ := Bk.c2 (BOX.out.keep RW_9.out)
  go_wp2_with fail
  clear s0 s1
  refine (toSpace_any b d _).mono ?_
  rintro e w10 ⟨rfl, HW⟩
  have Z_10 : Hid (w9.heap.size ≤ w10.heap.size) := (HW).size
  have BEL_10 : Hid (Below w.heap.size w w10) := belt BEL_9.out (HW)
  have RW_10 : Hid (Below w3.heap.size w3 w10) := belt RW_9.out (HW)
  have GL_10 : Hid (OwnLs w4.heap.size w5.heap.size w10 ag n (mrk 1 L n)) := GL_9.out.keep (HW)
  have K8_10 : Hid (Bk w10 w5.heap.size #[.int .i64 y0, .int .i64 y1, .int .i64 y2, .int .i64 y3, .int .i64 y4, .int .i64 y5, .int .i64 y6, .int .i64 y7, .slice ag n cg] 26) := K8_9.out.keep (HW)
  clear BEL_9 RW_9 GL_9 K8_9
  clear HW
  go_wp2_with fail
  refine (CI.out _ (HAG.out.keep BEL_10.out)).mono ?_
  rintro e w11 ⟨ah, ch, rfl, hol, HW⟩
  have Z_11 : Hid (w10.heap.size ≤ w11.heap.size) := (HW).size
  have BEL_11 : Hid (Below w.heap.size w w11) := belt BEL_10.out (HW)
  have RW_11 : Hid (Below w3.heap.size w3 w11) := belt RW_10.out (HW)
  have GL_11 : Hid (OwnLs w4.heap.size w5.heap.size w11 ag n (mrk 1 L n)) := GL_10.out.keep (HW)
  have K8_11 : Hid (Bk w11 w5.heap.size #[.int .i64 y0, .int .i64 y1, .int .i64 y2, .int .i64 y3, .int .i64 y4, .int .i64 y5, .int .i64 y6, .int .i64 y7, .slice ag n cg] 26) := K8_10.out.keep (HW)
  clear BEL_10 RW_10 GL_10 K8_10
  have HL_11 : Hid (OwnLs w10.heap.size w11.heap.size w11 ah n L) := hol
  clear HW hol
  obtain ⟨q0, q1, q2, q3, q4, q5, q6, q7, q8⟩ := Bk.c9 (K5.out.keep RW_11.out)
  have lq := (K5.out.keep RW_11.out).lt
  go_wp2_with fail
  clear q0 q1 q2 q3 q4 q5 q6 q7 q8 lq
  have hal : Below w11.heap.size w11 (w11.alloc (.cells #[.int .i64 y0, .int .i64 y1, .int .i64 y2, .int .i64 y3, .int .i64 y4, .int .i64 y5, .int .i64 y6, .int .i64 y7, .slice ah n ch] 26)) := belA _ _
  have hnw : Hid (Bk (w11.alloc (.cells #[.int .i64 y0, .int .i64 y1, .int .i64 y2, .int .i64 y3, .int .i64 y4, .int .i64 y5, .int .i64 y6, .int .i64 y7, .slice ah n ch] 26)) w11.heap.size #[.int .i64 y0, .int .i64 y1, .int .i64 y2, .int .i64 y3, .int .i64 y4, .int .i64 y5, .int .i64 y6, .int .i64 y7, .slice ah n ch] 26) := Bk.new _ _ _
  generalize (w11.alloc (.cells #[.int .i64 y0, .int .i64 y1, .int .i64 y2, .int .i64 y3, .int .i64 y4, .int .i64 y5, .int .i64 y6, .int .i64 y7, .slice ah n ch] 26)) = w12 at *
  have Z_12 : Hid (w11.heap.size ≤ w12.heap.size) := (hal).size
  have BEL_12 : Hid (Below w.heap.size w w12) := belt BEL_11.out (hal)
  have RW_12 : Hid (Below w3.heap.size w3 w12) := belt RW_11.out (hal)
  have GL_12 : Hid (OwnLs w4.heap.size w5.heap.size w12 ag n (mrk 1 L n)) := GL_11.out.keep (hal)
  have K8_12 : Hid (Bk w12 w5.heap.size #[.int .i64 y0, .int .i64 y1, .int .i64 y2, .int .i64 y3, .int .i64 y4, .int .i64 y5, .int .i64 y6, .int .i64 y7, .slice ag n cg] 26) := K8_11.out.keep (hal)
  have HL_12 : Hid (OwnLs w10.heap.size w11.heap.size w12 ah n L) := HL_11.out.keep (hal)
  clear BEL_11 RW_11 GL_11 K8_11 HL_11
  have K13_12 : Hid (Bk w12 w11.heap.size #[.int .i64 y0, .int .i64 y1, .int .i64 y2, .int .i64 y3, .int .i64 y4, .int .i64 y5, .int .i64 y6, .int .i64 y7, .slice ah n ch] 26) := hnw
  clear hal hnw
  refine (eqMsg_own y0 y1 y2 y3 y4 y5 y6 y7 ah va _ _ n L _ hn.out hLb (HL_12.out.rowAt) (WL.out.keep RW_12.out)).mono ?_
  rintro e w13 ⟨rfl, HW⟩
  have Z_13 : Hid (w12.heap.size ≤ w13.heap.size) := (HW).size
  have BEL_13 : Hid (Below w.heap.size w w13) := belt BEL_12.out (HW)
  have RW_13 : Hid (Below w3.heap.size w3 w13) := belt RW_12.out (HW)
  have GL_13 : Hid (OwnLs w4.heap.size w5.heap.size w13 ag n (mrk 1 L n)) := GL_12.out.keep (HW)
  have K8_13 : Hid (Bk w13 w5.heap.size #[.int .i64 y0, .int .i64 y1, .int .i64 y2, .int .i64 y3, .int .i64 y4, .int .i64 y5, .int .i64 y6, .int .i64 y7, .slice ag n cg] 26) := K8_12.out.keep (HW)
  have HL_13 : Hid (OwnLs w10.heap.size w11.heap.size w13 ah n L) := HL_12.out.keep (HW)
  have K13_13 : Hid (Bk w13 w11.heap.size #[.int .i64 y0, .int .i64 y1, .int .i64 y2, .int .i64 y3, .int .i64 y4, .int .i64 y5, .int .i64 y6, .int .i64 y7, .slice ah n ch] 26) := K13_12.out.keep (HW)
  clear BEL_12 RW_12 GL_12 K8_12 HL_12 K13_12
  clear HW
  obtain ⟨q0, q1, q2, q3, q4, q5, q6, q7, q8⟩ := Bk.c9 K8_13.out
  have lq := K8_13.out.lt
  go_wp2_with fail
  clear q0 q1 q2 q3 q4 q5 q6 q7 q8 lq
  refine (heldMsg_own w4.heap.size w5.heap.size _ ag n y0 y1 y2 y3 y4 y5 y6 y7 L 1 _ hLb hn.out (by omega) (by omega) GL_13.out).mono ?_
  rintro e w14 ⟨rfl, HW⟩
  have Z_14 : Hid (w13.heap.size ≤ w14.heap.size) := (HW).size
  have BEL_14 : Hid (Below w.heap.size w w14) := belt BEL_13.out (HW)
  have RW_14 : Hid (Below w3.heap.size w3 w14) := belt RW_13.out (HW)
  have GL_14 : Hid (OwnLs w4.heap.size w5.heap.size w14 ag n (mrk 1 L n)) := GL_13.out.keep (HW)
  have K8_14 : Hid (Bk w14 w5.heap.size #[.int .i64 y0, .int .i64 y1, .int .i64 y2, .int .i64 y3, .int .i64 y4, .int .i64 y5, .int .i64 y6, .int .i64 y7, .slice ag n cg] 26) := K8_13.out.keep (HW)
  have HL_14 : Hid (OwnLs w10.heap.size w11.heap.size w14 ah n L) := HL_13.out.keep (HW)
  have K13_14 : Hid (Bk w14 w11.heap.size #[.int .i64 y0, .int .i64 y1, .int .i64 y2, .int .i64 y3, .int .i64 y4, .int .i64 y5, .int .i64 y6, .int .i64 y7, .slice ah n ch] 26) := K13_13.out.keep (HW)
  clear BEL_13 RW_13 GL_13 K8_13 HL_13 K13_13
  clear HW
  go_wp2
  go_ret
  exact ⟨rfl, BEL_14.out⟩
end Go.Proofs.YtabbicfakkehpaaDoor
