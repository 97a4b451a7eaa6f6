/- FnWalks: for all bytes that are drawn from, StepWalk, GoodWalk, StartAt and BestImag answer as the specification; a step of a good walk leaves it good, goes one forward at most, and has one digit fewer left just where a pointer was taken; and the digits that are left behind the best number make the key: no condition. -/
import Derived.Test.YtejajlloipkkhaaH7
import Derived.Test.YtejajlloipkkhaaH8
import Derived.Test.YtejajlloipkkhaaI1
import Derived.Test.YtejajlloipkkhaaI2
namespace Go.Proofs.Ytejajlloipkkhaa
open Go.ChangeShapes Go.WideShapes Go.ChangeAt Go.RowKit Go.Deep
set_option linter.unusedVariables false
set_option maxRecDepth 100000 in
set_option maxHeartbeats 12800000 in
theorem wFnWalks (a a' : Option Addr) (cap cap' : Nat) (xs ys : List Int) (w : World) (hx : xs.length ≤ maxLen) (hy : ys.length ≤ maxLen) (hr1 : RowB w a xs) (hr2 : RowB w a' ys) :
    Calls Try.prog 4 #[.slice a xs.length cap, .slice a' ys.length cap'] w fun e w' => e = .returned (.bool true) ∧ Below w.heap.size w w' := by
  have HX : Hid (xs.length ≤ maxLen) := hx
  have HY : Hid (ys.length ≤ maxLen) := hy
  have HR1 : Hid (RowB w a xs) := hr1
  have HR2 : Hid (RowB w a' ys) := hr2
  clear hx hy hr1 hr2
  cases hbig : bigB xs.length ys.length
  · have hnb := of_decide_eq_false hbig
    have hm1 : xs.length ≤ 1048576 := by omega
    have hm2 : ys.length ≤ 1048576 := by omega
    clear hnb
    have CB := big_any a a' xs.length ys.length cap cap' w HX.out HY.out
    rw [hbig] at CB
    go_enter Try.func4, Try.ntmps4
    go_wp2_with fail
    refine CB.mono ?_
    rintro e w0 ⟨rfl, hw0⟩
    replace hw0 := hw0.symm
    subst hw0
    clear CB hbig
    go_wp2_with fail
    refine (drawStepWalk_any _ _ xs _ hm1 HR1.out).mono ?_
    rintro e w1 ⟨b, d, ap, cp, ps, k, t, ⟨ua, ui, ul, up, us, ut, uo⟩, rfl, ow1, l16, hw1⟩
    dsimp only
    have hbA := belt (belA w1 (.cells #[.int .i64 b, .int .i64 d, .slice ap ps.length cp] 28)) (belA _ (.cells #[.int .i64 ua, .int .i64 ui, .int .i64 ul, .int .i64 up, .int .i64 us, .int .i64 ut, .int .i64 uo] 32))
    have HP2 : Hid (PeersAt ((w1.alloc (.cells #[.int .i64 b, .int .i64 d, .slice ap ps.length cp] 28)).alloc (.cells #[.int .i64 ua, .int .i64 ui, .int .i64 ul, .int .i64 up, .int .i64 us, .int .i64 ut, .int .i64 uo] 32)) ap ps) := ow1.peersAt.keep hbA
    have BE2 : Hid (Below w.heap.size w ((w1.alloc (.cells #[.int .i64 b, .int .i64 d, .slice ap ps.length cp] 28)).alloc (.cells #[.int .i64 ua, .int .i64 ui, .int .i64 ul, .int .i64 up, .int .i64 us, .int .i64 ut, .int .i64 uo] 32))) := belt hw1 hbA
    have KP2 : Hid (Bk ((w1.alloc (.cells #[.int .i64 b, .int .i64 d, .slice ap ps.length cp] 28)).alloc (.cells #[.int .i64 ua, .int .i64 ui, .int .i64 ul, .int .i64 up, .int .i64 us, .int .i64 ut, .int .i64 uo] 32)) w1.heap.size #[.int .i64 b, .int .i64 d, .slice ap ps.length cp] 28) := (Bk.new _ _ _).alloc _
    have KU2 : Hid (Bk ((w1.alloc (.cells #[.int .i64 b, .int .i64 d, .slice ap ps.length cp] 28)).alloc (.cells #[.int .i64 ua, .int .i64 ui, .int .i64 ul, .int .i64 up, .int .i64 us, .int .i64 ut, .int .i64 uo] 32)) (w1.heap.size + 1) #[.int .i64 ua, .int .i64 ui, .int .i64 ul, .int .i64 up, .int .i64 us, .int .i64 ut, .int .i64 uo] 32) := by
      have := Bk.new (w1.alloc (.cells #[.int .i64 b, .int .i64 d, .slice ap ps.length cp] 28)) #[.int .i64 ua, .int .i64 ui, .int .i64 ul, .int .i64 up, .int .i64 us, .int .i64 ut, .int .i64 uo] 32
      rwa [World.size_alloc] at this
    clear hbA ow1 hw1
    go_upto_region 4 with (fail)
    generalize (w1.alloc (.cells #[.int .i64 b, .int .i64 d, .slice ap ps.length cp] 28)).alloc (.cells #[.int .i64 ua, .int .i64 ui, .int .i64 ul, .int .i64 up, .int .i64 us, .int .i64 ut, .int .i64 uo] 32) = w2 at *
    generalize w1.heap.size = P at *
    have CS := StepWalk_own b d ap cp ps k t ⟨ua, ui, ul, up, us, ut, uo⟩ w2 (by omega) HP2.out
    have CL : ∀ wq, PeersAt wq ap ps → _ := fun wq h => lStepWalk_own b d ap cp ps k t ⟨ua, ui, ul, up, us, ut, uo⟩ wq (by omega) h
    have CG : ∀ wq v, PeersAt wq ap ps → _ := fun wq v h => GoodWalk_own b d ap cp ps k v wq (by omega) h
    have CH : ∀ wq v, PeersAt wq ap ps → _ := fun wq v h => lGoodWalk_own b d ap cp ps k v wq (by omega) h
    have HF : Hid (swOk b d ps k t ⟨ua, ui, ul, up, us, ut, uo⟩ = true → _) := fun h => step_end h
    generalize swV b d ps k t ⟨ua, ui, ul, up, us, ut, uo⟩ = V at *
    generalize swOk b d ps k t ⟨ua, ui, ul, up, us, ut, uo⟩ = ok at *
    obtain ⟨sa, si, sl, sp, ss, st, so⟩ := V
    dsimp only at CS CL HF
    obtain ⟨p0, p1, p2⟩ := Bk.c3 KP2.out
    obtain ⟨q0, q1, q2, q3, q4, q5, q6⟩ := Bk.c7 KU2.out
    go_wp2_with fail
    refine CS.mono ?_
    rintro e w3 ⟨rfl, HW⟩
    have hbA := belt HW (belA w3 (.cells #[.int .i64 sa, .int .i64 si, .int .i64 sl, .int .i64 sp, .int .i64 ss, .int .i64 st, .int .i64 so] 32))
    have KP4 : Hid (Bk (w3.alloc (.cells #[.int .i64 sa, .int .i64 si, .int .i64 sl, .int .i64 sp, .int .i64 ss, .int .i64 st, .int .i64 so] 32)) P #[.int .i64 b, .int .i64 d, .slice ap ps.length cp] 28) := KP2.out.keep hbA
    have KU4 : Hid (Bk (w3.alloc (.cells #[.int .i64 sa, .int .i64 si, .int .i64 sl, .int .i64 sp, .int .i64 ss, .int .i64 st, .int .i64 so] 32)) (P + 1) #[.int .i64 ua, .int .i64 ui, .int .i64 ul, .int .i64 up, .int .i64 us, .int .i64 ut, .int .i64 uo] 32) := KU2.out.keep hbA
    have HP4 : Hid (PeersAt (w3.alloc (.cells #[.int .i64 sa, .int .i64 si, .int .i64 sl, .int .i64 sp, .int .i64 ss, .int .i64 st, .int .i64 so] 32)) ap ps) := HP2.out.keep hbA
    have BE4 : Hid (Below w.heap.size w (w3.alloc (.cells #[.int .i64 sa, .int .i64 si, .int .i64 sl, .int .i64 sp, .int .i64 ss, .int .i64 st, .int .i64 so] 32))) := belt BE2.out hbA
    have KS4 : Hid (Bk (w3.alloc (.cells #[.int .i64 sa, .int .i64 si, .int .i64 sl, .int .i64 sp, .int .i64 ss, .int .i64 st, .int .i64 so] 32)) w3.heap.size #[.int .i64 sa, .int .i64 si, .int .i64 sl, .int .i64 sp, .int .i64 ss, .int .i64 st, .int .i64 so] 32) := Bk.new _ _ _
    clear hbA HW CS KP2 KU2 HP2 BE2 p0 p1 p2 q0 q1 q2 q3 q4 q5 q6
    go_upto_region 5 with (fail)
    generalize w3.alloc (.cells #[.int .i64 sa, .int .i64 si, .int .i64 sl, .int .i64 sp, .int .i64 ss, .int .i64 st, .int .i64 so] 32) = w4 at *
    generalize w3.heap.size = S1 at *
    obtain ⟨p0, p1, p2⟩ := Bk.c3 KP4.out
    obtain ⟨q0, q1, q2, q3, q4, q5, q6⟩ := Bk.c7 KU4.out
    go_wp2_with fail
    refine (CL _ HP4.out).mono ?_
    rintro e w5 ⟨rfl, HW⟩
    have hbA := belt HW (belA w5 (.cells #[.int .i64 sa, .int .i64 si, .int .i64 sl, .int .i64 sp, .int .i64 ss, .int .i64 st, .int .i64 so] 32))
    have KP6 : Hid (Bk (w5.alloc (.cells #[.int .i64 sa, .int .i64 si, .int .i64 sl, .int .i64 sp, .int .i64 ss, .int .i64 st, .int .i64 so] 32)) P #[.int .i64 b, .int .i64 d, .slice ap ps.length cp] 28) := KP4.out.keep hbA
    have KU6 : Hid (Bk (w5.alloc (.cells #[.int .i64 sa, .int .i64 si, .int .i64 sl, .int .i64 sp, .int .i64 ss, .int .i64 st, .int .i64 so] 32)) (P + 1) #[.int .i64 ua, .int .i64 ui, .int .i64 ul, .int .i64 up, .int .i64 us, .int .i64 ut, .int .i64 uo] 32) := KU4.out.keep hbA
    have HP6 : Hid (PeersAt (w5.alloc (.cells #[.int .i64 sa, .int .i64 si, .int .i64 sl, .int .i64 sp, .int .i64 ss, .int .i64 st, .int .i64 so] 32)) ap ps) := HP4.out.keep hbA
    have BE6 : Hid (Below w.heap.size w (w5.alloc (.cells #[.int .i64 sa, .int .i64 si, .int .i64 sl, .int .i64 sp, .int .i64 ss, .int .i64 st, .int .i64 so] 32))) := belt BE4.out hbA
    have KS6 : Hid (Bk (w5.alloc (.cells #[.int .i64 sa, .int .i64 si, .int .i64 sl, .int .i64 sp, .int .i64 ss, .int .i64 st, .int .i64 so] 32)) S1 #[.int .i64 sa, .int .i64 si, .int .i64 sl, .int .i64 sp, .int .i64 ss, .int .i64 st, .int .i64 so] 32) := KS4.out.keep hbA
    have KT6 : Hid (Bk (w5.alloc (.cells #[.int .i64 sa, .int .i64 si, .int .i64 sl, .int .i64 sp, .int .i64 ss, .int .i64 st, .int .i64 so] 32)) w5.heap.size #[.int .i64 sa, .int .i64 si, .int .i64 sl, .int .i64 sp, .int .i64 ss, .int .i64 st, .int .i64 so] 32) := Bk.new _ _ _
    clear hbA HW CL KP4 KU4 HP4 BE4 KS4 p0 p1 p2 q0 q1 q2 q3 q4 q5 q6
    go_upto_region 6 with (fail)
    generalize w5.alloc (.cells #[.int .i64 sa, .int .i64 si, .int .i64 sl, .int .i64 sp, .int .i64 ss, .int .i64 st, .int .i64 so] 32) = w6 at *
    generalize w5.heap.size = S2 at *
    have ep0 : ∀ q : Kin w6.heap.size w6, q.v.cell? ⟨P, 0, none⟩ = some (.int .i64 b) := kin_cell KP6.out.lt (KP6.out.cell 0)
    have ep1 : ∀ q : Kin w6.heap.size w6, q.v.cell? ⟨P, 1, none⟩ = some (.int .i64 d) := kin_cell KP6.out.lt (KP6.out.cell 1)
    have ep2 : ∀ q : Kin w6.heap.size w6, q.v.cell? ⟨P, 2, none⟩ = some (.slice ap ps.length cp) := kin_cell KP6.out.lt (KP6.out.cell 2)
    have eu0 : ∀ q : Kin w6.heap.size w6, q.v.cell? ⟨P + 1, 0, none⟩ = some (.int .i64 ua) := kin_cell KU6.out.lt (KU6.out.cell 0)
    have eu1 : ∀ q : Kin w6.heap.size w6, q.v.cell? ⟨P + 1, 1, none⟩ = some (.int .i64 ui) := kin_cell KU6.out.lt (KU6.out.cell 1)
    have eu2 : ∀ q : Kin w6.heap.size w6, q.v.cell? ⟨P + 1, 2, none⟩ = some (.int .i64 ul) := kin_cell KU6.out.lt (KU6.out.cell 2)
    have eu3 : ∀ q : Kin w6.heap.size w6, q.v.cell? ⟨P + 1, 3, none⟩ = some (.int .i64 up) := kin_cell KU6.out.lt (KU6.out.cell 3)
    have eu4 : ∀ q : Kin w6.heap.size w6, q.v.cell? ⟨P + 1, 4, none⟩ = some (.int .i64 us) := kin_cell KU6.out.lt (KU6.out.cell 4)
    have eu5 : ∀ q : Kin w6.heap.size w6, q.v.cell? ⟨P + 1, 5, none⟩ = some (.int .i64 ut) := kin_cell KU6.out.lt (KU6.out.cell 5)
    have eu6 : ∀ q : Kin w6.heap.size w6, q.v.cell? ⟨P + 1, 6, none⟩ = some (.int .i64 uo) := kin_cell KU6.out.lt (KU6.out.cell 6)
    have es0 : ∀ q : Kin w6.heap.size w6, q.v.cell? ⟨S1, 0, none⟩ = some (.int .i64 sa) := kin_cell KS6.out.lt (KS6.out.cell 0)
    have es1 : ∀ q : Kin w6.heap.size w6, q.v.cell? ⟨S1, 1, none⟩ = some (.int .i64 si) := kin_cell KS6.out.lt (KS6.out.cell 1)
    have es2 : ∀ q : Kin w6.heap.size w6, q.v.cell? ⟨S1, 2, none⟩ = some (.int .i64 sl) := kin_cell KS6.out.lt (KS6.out.cell 2)
    have es3 : ∀ q : Kin w6.heap.size w6, q.v.cell? ⟨S1, 3, none⟩ = some (.int .i64 sp) := kin_cell KS6.out.lt (KS6.out.cell 3)
    have es4 : ∀ q : Kin w6.heap.size w6, q.v.cell? ⟨S1, 4, none⟩ = some (.int .i64 ss) := kin_cell KS6.out.lt (KS6.out.cell 4)
    have es5 : ∀ q : Kin w6.heap.size w6, q.v.cell? ⟨S1, 5, none⟩ = some (.int .i64 st) := kin_cell KS6.out.lt (KS6.out.cell 5)
    have es6 : ∀ q : Kin w6.heap.size w6, q.v.cell? ⟨S1, 6, none⟩ = some (.int .i64 so) := kin_cell KS6.out.lt (KS6.out.cell 6)
    have et0 : ∀ q : Kin w6.heap.size w6, q.v.cell? ⟨S2, 0, none⟩ = some (.int .i64 sa) := kin_cell KT6.out.lt (KT6.out.cell 0)
    have et1 : ∀ q : Kin w6.heap.size w6, q.v.cell? ⟨S2, 1, none⟩ = some (.int .i64 si) := kin_cell KT6.out.lt (KT6.out.cell 1)
    have et2 : ∀ q : Kin w6.heap.size w6, q.v.cell? ⟨S2, 2, none⟩ = some (.int .i64 sl) := kin_cell KT6.out.lt (KT6.out.cell 2)
    have et3 : ∀ q : Kin w6.heap.size w6, q.v.cell? ⟨S2, 3, none⟩ = some (.int .i64 sp) := kin_cell KT6.out.lt (KT6.out.cell 3)
    have et4 : ∀ q : Kin w6.heap.size w6, q.v.cell? ⟨S2, 4, none⟩ = some (.int .i64 ss) := kin_cell KT6.out.lt (KT6.out.cell 4)
    have et5 : ∀ q : Kin w6.heap.size w6, q.v.cell? ⟨S2, 5, none⟩ = some (.int .i64 st) := kin_cell KT6.out.lt (KT6.out.cell 5)
    have et6 : ∀ q : Kin w6.heap.size w6, q.v.cell? ⟨S2, 6, none⟩ = some (.int .i64 so) := kin_cell KT6.out.lt (KT6.out.cell 6)
    have hgb := bne_self_bool ok
    have hnq := neqW_run sa si sl sp ss st so
    have C1 : ∀ wq, Below w6.heap.size w6 wq → _ := fun wq h => CG wq ⟨ua, ui, ul, up, us, ut, uo⟩ (HP6.out.keep h)
    have C2 : ∀ wq, Below w6.heap.size w6 wq → _ := fun wq h => CH wq ⟨ua, ui, ul, up, us, ut, uo⟩ (HP6.out.keep h)
    dsimp only at C1 C2
    generalize goodW b d ps k ⟨ua, ui, ul, up, us, ut, uo⟩ = gw at C1 C2
    have hgw := bne_self_bool gw
    refine region_kin w6.heap.size (by kernel_rfl) (by kernel_rfl) (fun hne => ?_)
    repeat (go_big_quiet_step (first | (go_at_call 28; exact kin_of (Nat.le_refl _) (C1 _ (Kin.bel _))) | (go_at_call 29; exact kin_of (Nat.le_refl _) (C2 _ (Kin.bel _)))))
    refine wpQuiet_nil ?_
    intro wv hw'
    obtain ⟨⟨wu, hwv⟩, hw''⟩ := hw'
    obtain rfl : wv = wu := hw''
    clear ep0 ep1 ep2 eu0 eu1 eu2 eu3 eu4 eu5 eu6 es0 es1 es2 es3 es4 es5 es6 et0 et1 et2 et3 et4 et5 et6 hne
    have KP7 : Hid (Bk wv P #[.int .i64 b, .int .i64 d, .slice ap ps.length cp] 28) := KP6.out.keep hwv
    have KU7 : Hid (Bk wv (P + 1) #[.int .i64 ua, .int .i64 ui, .int .i64 ul, .int .i64 up, .int .i64 us, .int .i64 ut, .int .i64 uo] 32) := KU6.out.keep hwv
    have KS7 : Hid (Bk wv S1 #[.int .i64 sa, .int .i64 si, .int .i64 sl, .int .i64 sp, .int .i64 ss, .int .i64 st, .int .i64 so] 32) := KS6.out.keep hwv
    have HP7 : Hid (PeersAt wv ap ps) := HP6.out.keep hwv
    have BE7 : Hid (Below w.heap.size w wv) := belt BE6.out hwv
    clear hwv KP6 KU6 KS6 KT6 HP6 BE6 CH C1 C2 hgb hgw hnq
    go_upto_if 85 with (fail)
    go_cut [13] (fun v13 wc => Hid (Below w.heap.size w wc))
    case first =>
      cases ok
      · go_wp2_with fail
        go_meet
        exact BE7
      · have hS := HF.out rfl
        have hg1 := hS.1
        have hl := hS.2.1
        have hc := hS.2.2.2.1
        have wu := hS.2.2.2.2.1
        have ws := hS.2.2.2.2.2
        have u1 : 0 ≤ up := wu.p1
        have u2 : up ≤ 1000 := wu.p2
        have u3 : 0 ≤ us := wu.s1
        have u4 : us ≤ 1000 := wu.s2
        have u5 : 0 ≤ sp := ws.p1
        have u6 : sp ≤ 1000 := ws.p2
        have u7 : 0 ≤ ss := ws.s1
        have u8 : ss ≤ 1000 := ws.s2
        have hgs : goodP b d ps = true := (goodW_parts hg1).1
        have gsx := (goodP_true hgs).1.gs
        obtain ⟨gb1, gb2, gd1, gd2, _⟩ := gsB_true gsx
        obtain ⟨gq, gq1, gq2⟩ := cnt_bd gb1 gb2 gd1 gd2
        have u9 : 0 ≤ ul ∧ ul ≤ 12 := ⟨wu.l1, by have := wu.l2; dsimp only at this; omega⟩
        have u10 : 0 ≤ sl ∧ sl ≤ 12 := ⟨ws.l1, by have := ws.l2; dsimp only at this; omega⟩
        have C3 := CG wv ⟨sa, si, sl, sp, ss, st, so⟩ HP7.out
        rw [hg1] at C3
        dsimp only at C3
        have a1 : decide (sp + ss - up - us < 0) = false := decide_eq_false (by omega)
        have a2 : decide (1 < sp + ss - up - us) = false := decide_eq_false (by omega)
        have a3 : (ul - sl != sp - up) = false := by rw [hl]; simp
        have a45 : ((sp + ss - up - us == 0) = true ∧ (st != 0) = true) ∨ ((sp + ss - up - us == 0) = false ∧ (st != 0) = false) := by
          rcases hc with ⟨e1, e2⟩ | ⟨e1, e2⟩
          · exact .inl ⟨by simp; omega, by simpa using e2⟩
          · exact .inr ⟨by simp; omega, by simpa using e2⟩
        have L9 := u9.1
        have M9 := u9.2
        have L10 := u10.1
        have M10 := u10.2
        clear hS hg1 hl hc wu ws hgs gsx gb1 gb2 gd1 gd2 gq gq1 gq2 u9 u10 CG HF
        obtain ⟨p0, p1, p2⟩ := Bk.c3 KP7.out
        obtain ⟨q0, q1, q2, q3, q4, q5, q6⟩ := Bk.c7 KU7.out
        obtain ⟨s0, s1, s2, s3, s4, s5, s6⟩ := Bk.c7 KS7.out
        go_wp2_with fail
        refine C3.mono ?_
        rintro e w8 ⟨rfl, HW⟩
        have KU8 : Hid (Bk w8 (P + 1) #[.int .i64 ua, .int .i64 ui, .int .i64 ul, .int .i64 up, .int .i64 us, .int .i64 ut, .int .i64 uo] 32) := KU7.out.keep HW
        have KS8 : Hid (Bk w8 S1 #[.int .i64 sa, .int .i64 si, .int .i64 sl, .int .i64 sp, .int .i64 ss, .int .i64 st, .int .i64 so] 32) := KS7.out.keep HW
        have BE8 : Hid (Below w.heap.size w w8) := belt BE7.out HW
        clear p0 p1 p2 q0 q1 q2 q3 q4 q5 q6 s0 s1 s2 s3 s4 s5 s6 HW C3 KP7 KU7 KS7 HP7 BE7
        obtain ⟨q0, q1, q2, q3, q4, q5, q6⟩ := Bk.c7 KU8.out
        obtain ⟨s0, s1, s2, s3, s4, s5, s6⟩ := Bk.c7 KS8.out
        rcases a45 with a | a
        · have a4 := a.1
          have a5 := a.2
          clear a
          go_wp2_with fail
          go_meet
          exact BE8
        · have a4 := a.1
          have a5 := a.2
          clear a
          go_wp2_with fail
          go_meet
          exact BE8
    case rest =>
    have BEC : Hid (Below w.heap.size w wc) := hcut
    clear hcut BE7 KP7 KU7 KS7 HP7 HF CG
    go_wp2_with fail
    refine (drawStartAt_any _ _ ys _ hm2 (HR2.out.keep BEC.out)).mono ?_
    rintro e w11 ⟨b2, d2, ap2, cp2, ps2, x2, k2, rfl, ow2, l162, hb2⟩
    have HQ1 : Hid (PeersAt w11 ap2 ps2) := ow2.peersAt
    have BF1 : Hid (Below w.heap.size w w11) := belt BEC.out hb2
    clear ow2 hb2 BEC
    have CT1 := StartAt_own b2 d2 ap2 cp2 ps2 x2 k2 (w11.alloc (.cells #[.int .i64 b2, .int .i64 d2, .slice ap2 ps2.length cp2] 28)) (by omega) (HQ1.out.keep (belA _ _))
    have CT2 : ∀ wq, Below w11.heap.size w11 wq → _ := fun wq h => lStartAt_own b2 d2 ap2 cp2 ps2 x2 k2 wq (by omega) (HQ1.out.keep h)
    generalize stV b2 d2 ps2 x2 k2 = Y at *
    generalize askP b2 d2 ps2 x2 k2 = ok2 at *
    obtain ⟨ya, yi, yl, yp, ys', yt, yo⟩ := Y
    dsimp only at CT1 CT2
    go_wp2_with fail
    refine CT1.mono ?_
    rintro e w12 ⟨rfl, HW⟩
    have KQ2 : Hid (BxV w11 w12 #[.int .i64 b2, .int .i64 d2, .slice ap2 ps2.length cp2] 28) := bxV1 HW
    have B2 : Hid (Below w11.heap.size w11 w12) := belt (belA _ _) HW
    clear HW CT1
    obtain ⟨p0, p1, p2⟩ := KQ2.out.c3
    have lp := KQ2.out.lt
    go_wp2_with fail
    refine (CT2 _ (belt B2.out (belA _ _))).mono ?_
    rintro e w13 ⟨rfl, HW⟩
    have hbA := belt HW (belA w13 (.cells #[.int .i64 ya, .int .i64 yi, .int .i64 yl, .int .i64 yp, .int .i64 ys', .int .i64 yt, .int .i64 yo] 32))
    have KY4 : Hid (Bk (w13.alloc (.cells #[.int .i64 ya, .int .i64 yi, .int .i64 yl, .int .i64 yp, .int .i64 ys', .int .i64 yt, .int .i64 yo] 32)) w12.heap.size #[.int .i64 ya, .int .i64 yi, .int .i64 yl, .int .i64 yp, .int .i64 ys', .int .i64 yt, .int .i64 yo] 32) := (Bk.new _ _ _).keep hbA
    have KZ4 : Hid (Bk (w13.alloc (.cells #[.int .i64 ya, .int .i64 yi, .int .i64 yl, .int .i64 yp, .int .i64 ys', .int .i64 yt, .int .i64 yo] 32)) w13.heap.size #[.int .i64 ya, .int .i64 yi, .int .i64 yl, .int .i64 yp, .int .i64 ys', .int .i64 yt, .int .i64 yo] 32) := Bk.new _ _ _
    have BF4 : Hid (Below w.heap.size w (w13.alloc (.cells #[.int .i64 ya, .int .i64 yi, .int .i64 yl, .int .i64 yp, .int .i64 ys', .int .i64 yt, .int .i64 yo] 32))) := belt BF1.out (belt B2.out (belt (belA _ _) hbA))
    clear hbA HW CT2 B2 BF1 HQ1 KQ2 p0 p1 p2 lp
    go_upto_region 15 with (fail)
    generalize w13.alloc (.cells #[.int .i64 ya, .int .i64 yi, .int .i64 yl, .int .i64 yp, .int .i64 ys', .int .i64 yt, .int .i64 yo] 32) = w14 at *
    generalize w12.heap.size = S3 at *
    generalize w13.heap.size = S4 at *
    obtain ⟨s0, s1, s2, s3, s4, s5, s6⟩ := Bk.c7 KY4.out
    obtain ⟨z0, z1, z2, z3, z4, z5, z6⟩ := Bk.c7 KZ4.out
    have hgb := bne_self_bool ok2
    have hnq := neqW_run ya yi yl yp ys' yt yo
    go_wp2_with fail
    refine (drawBestImag_any _ _ ys _ hm2 (HR2.out.keep BF4.out)).mono ?_
    clear s0 s1 s2 s3 s4 s5 s6 z0 z1 z2 z3 z4 z5 z6 hgb hnq KY4 KZ4
    rintro e w15 ⟨sb, sd, f, g', n, rfl, hb5⟩
    have BF5 : Hid (Below w.heap.size w w15) := belt BF4.out hb5
    clear hb5 BF4
    have CI1 := BestImag_any sb sd f g' n (w15.alloc (.cells #[.int .i64 sb, .int .i64 sd] 25))
    have CI2 : ∀ wq, _ := fun wq => lBestImag_any sb sd f g' n wq
    have HB : Hid (bstOk sb sd f g' n = true → _) := fun h => best_begin h
    generalize bstV sb sd f g' n = pr at *
    generalize bstOk sb sd f g' n = ok3 at *
    obtain ⟨bi, bl⟩ := pr
    dsimp only at CI1 CI2 HB
    go_wp2_with fail
    refine CI1.mono ?_
    rintro e w16 ⟨rfl, HW⟩
    have KX6 : Hid (Bk w16 w15.heap.size #[.int .i64 sb, .int .i64 sd] 25) := (Bk.new _ _ _).keep HW
    have BF6 : Hid (Below w.heap.size w w16) := belt BF5.out (belt (belA _ _) HW)
    clear HW CI1 BF5
    generalize w15.heap.size = X at *
    obtain ⟨x0, x1⟩ := Bk.c2 KX6.out
    go_wp2_with fail
    refine (CI2 _).mono ?_
    rintro e w17 ⟨rfl, HW⟩
    have KX7 : Hid (Bk w17 X #[.int .i64 sb, .int .i64 sd] 25) := KX6.out.keep HW
    have BF7 : Hid (Below w.heap.size w w17) := belt BF6.out HW
    clear HW CI2 BF6 KX6 x0 x1
    have hgb := bne_self_bool ok3
    have e1 : (bi != bi) = false := by simp
    cases ok3
    · have e2 : (bl != bl) = false := by simp
      go_wp2
      go_ret
      exact ⟨rfl, BF7.out⟩
    · obtain ⟨m, hbl, hmc, hz0, hgs, nf, nt, nk, ni, harc⟩ := HB.out rfl
      subst hbl
      have e2 : ((m : Int) != (m : Int)) = false := by simp
      have hk := numB_true nk
      have CD : Calls Try.prog 36 #[.agg #[.int .i64 sb, .int .i64 sd], .int .i64 n] w17 fun e w' => ∃ g, e = .returned (.tuple #[.slice (some ⟨g, 0, none⟩) (cnt sb sd) (cnt sb sd), .bool true]) ∧ Below w17.heap.size w17 w' ∧ g < w'.heap.size ∧ ∀ i, i < cnt sb sd → w'.cell? ⟨g, i, none⟩ = some (.int .i64 ((digL (cnt sb sd) (sz sd) n).getD i 0)) := by
        refine (DigitsOf_any sb sd n w17).mono ?_
        rintro e w' ⟨v, rfl, h1, h2⟩
        rcases h2 with ⟨h, _⟩ | ⟨_, g, rfl, oz⟩
        · rw [nk] at h; cases h
        · rw [nk]
          exact ⟨g, rfl, h1, oz.lt, fun i hi => (cell_of_row _ _ _ _ _ _ oz.row).trans (zv_get _ i (by rw [digL_len]; exact hi))⟩
      have HZ : Hid (ZI sb sd n bi (m : Int)) := hz0
      have CSH : ∀ wq z v, numB sb sd z = true → digB sb sd v = true → Calls Try.prog 37 #[.agg #[.int .i64 sb, .int .i64 sd], .int .i64 z, .int .i64 v] wq fun e w' => e = .returned (.tuple #[.int .i64 (shf sb sd z v), .bool true]) ∧ Below wq.heap.size wq w' := fun wq z v h1 h2 => by
        have ho : sOk sb sd z v = true := by unfold sOk; rw [h1, h2]; rfl
        have := ShiftIn_any sb sd z v wq
        unfold sVal at this
        rwa [ho, if_pos rfl] at this
      have CIA : ∀ wq, Calls Try.prog 38 #[.agg #[.int .i64 sb, .int .i64 sd], .int .i64 g', .int .i64 bi, .int .i64 f] wq fun e w' => e = .returned (.tuple #[.bool (arcB sb g' bi f), .bool true]) ∧ Below wq.heap.size wq w' := fun wq => by
        have ho : aOk sb sd g' bi f = true := by unfold aOk; rw [nt, ni, nf]; rfl
        have := InArc_any sb sd g' bi f wq
        unfold aVal at this
        rwa [ho, Bool.true_and] at this
      have HSTEP : Hid (∀ (j : Nat) (z : Int), j < m → ZI sb sd n z ((m : Int) - j) → numB sb sd z = true ∧ digB sb sd (dgt4 sd n ((m : Int) - j)) = true ∧ ZI sb sd n (shf sb sd z (dgt4 sd n ((m : Int) - j))) ((m : Int) - (j + 1 : Nat))) := by
        intro j z hj hz
        obtain ⟨b1, b2', d1, d2', _⟩ := gsB_true hgs
        obtain ⟨hq, _, _⟩ := cnt_bd b1 b2' d1 d2'
        refine ⟨by unfold numB; rw [hgs]; exact inB_yes hz.z1 (by have := hz.z2; omega), digB_dgt hgs, ?_⟩
        have := hz.step hgs hk.2.1 (by omega) (by omega)
        rwa [show ((m : Int) - j) - 1 = (m : Int) - (j + 1 : Nat) by omega] at this
      have HFIN : Hid (∀ z, ZI sb sd n z 0 → z = n) := fun z h => h.fin hgs
      have HDG : Hid (∀ j, j < m → (digL (cnt sb sd) (sz sd) n).getD (cnt sb sd - m + j) 0 = dgt4 sd n ((m : Int) - j)) := by
        intro j hj
        have h := dgt4_get (k := n) (m := m - j) hgs (by omega) (by omega)
        rw [show ((m - j : Nat) : Int) = (m : Int) - j by omega] at h
        rw [← h, show cnt sb sd - m + j = cnt sb sd - (m - j) by omega]
      have HARC : Hid (¬ f = g' → ¬ bi = f → arcB sb g' bi f = false) := harc
      have hc12 : cnt sb sd ≤ 12 := by
        obtain ⟨b1, b2', d1, d2', _⟩ := gsB_true hgs
        exact (cnt_bd b1 b2' d1 d2').2.2
      have hdl : (digL (cnt sb sd) (sz sd) n).length = cnt sb sd := digL_len _ _ _
      clear harc hz0 nf nt nk ni hgs HB hk
      generalize digL (cnt sb sd) (sz sd) n = D at *
      generalize cnt sb sd = c at *
      obtain ⟨j0, rfl⟩ : ∃ j0, c = j0 + m := ⟨c - m, by omega⟩
      obtain ⟨x0, x1⟩ := Bk.c2 KX7.out
      go_wp2_with fail
      refine CD.mono ?_
      rintro e w18 ⟨g, rfl, HW, hgl, hcel⟩
      have KX8 : Hid (Bk w18 X #[.int .i64 sb, .int .i64 sd] 25) := KX7.out.keep HW
      have BF8 : Hid (Below w.heap.size w w18) := belt BF7.out HW
      have HCE : Hid (∀ j, j < m → w18.cell? ⟨g, j0 + j, none⟩ = some (.int .i64 (dgt4 sd n ((m : Int) - j)))) := fun j hj => by
        have h := hcel (j0 + j) (by omega)
        have h2 := HDG.out j hj
        rw [show j0 + m - m + j = j0 + j by omega] at h2
        rw [h2] at h
        exact h
      clear HW CD KX7 BF7 x0 x1 hcel HDG hdl
      by_cases hm0 : m = 0
      · subst hm0
        clear e2
        go_wp2_with fail
        go_loopw [224, 33] (fun vi vz wr => vi = .int .i64 0 ∧ vz = .int .i64 bi ∧ Hid (Below w18.heap.size w18 wr)) (fun vi _ _ => 0)
        case atStart => exact ⟨rfl, rfl, Below.refl _ _⟩
        case round =>
          obtain ⟨rfl, rfl, BL⟩ := hrel
          have hzn : bi = n := HFIN.out bi HZ.out
          subst hzn
          clear HZ HFIN HSTEP HCE
          obtain ⟨x0, x1⟩ := Bk.c2 (KX8.out.keep BL.out)
          go_wp2_with fail
          refine (CIA _).mono ?_
          rintro e w19 ⟨rfl, HW⟩
          have BF9 : Hid (Below w.heap.size w w19) := belt BF8.out (belt BL.out HW)
          have hnn : (bi != bi) = false := by simp
          clear HW x0 x1 BL BF8 KX8 CIA CSH
          by_cases hft : f = g'
          · have h1 : (f != g') = false := by simpa using hft
            clear hft HARC
            go_wp2
            go_ret
            exact ⟨rfl, BF9.out⟩
          · have h1 : (f != g') = true := by simpa using hft
            by_cases hbf : bi = f
            · have h2 : (bi != f) = false := by simpa using hbf
              clear hbf HARC hft
              cases arcB sb g' bi f
              · go_wp2
                go_ret
                exact ⟨rfl, BF9.out⟩
              · go_wp2
                go_ret
                exact ⟨rfl, BF9.out⟩
            · rw [HARC.out hft hbf]
              clear hft hbf HARC
              go_wp2
              go_ret
              exact ⟨rfl, BF9.out⟩
      · go_wp2_with fail
        go_loopw [224, 33] (fun vi vz wr => ∃ (j : Nat) (z : Int), j ≤ m ∧ vi = .int .i64 j ∧ vz = .int .i64 z ∧ Hid (ZI sb sd n z ((m : Int) - j)) ∧ Hid (Below w18.heap.size w18 wr)) (fun vi _ _ => m - (intOf vi).toNat)
        case atStart => exact ⟨0, bi, Nat.zero_le _, rfl, rfl, by simpa using HZ, Below.refl _ _⟩
        case round =>
          clear HZ
          obtain ⟨j, z, hj, rfl, rfl, HZJ, BL⟩ := hrel
          by_cases hlt : j < m
          · have hcj : wr.cell? ⟨g, j0 + j, none⟩ = some (.int .i64 (dgt4 sd n ((m : Int) - j))) := (BL.out.cell (p := ⟨g, j0 + j, none⟩) hgl).trans (HCE.out j hlt)
            obtain ⟨hn1, hn2, hn3⟩ := HSTEP.out j z hlt HZJ.out
            have CZ := CSH wr z (dgt4 sd n ((m : Int) - j)) hn1 hn2
            have HN3 : Hid (ZI sb sd n (shf sb sd z (dgt4 sd n ((m : Int) - j))) ((m : Int) - (j + 1 : Nat))) := hn3
            generalize shf sb sd z (dgt4 sd n ((m : Int) - j)) = z' at *
            generalize dgt4 sd n ((m : Int) - j) = dv at *
            obtain ⟨x0, x1⟩ := Bk.c2 (KX8.out.keep BL.out)
            clear hn1 hn2 hn3 HZJ
            go_wp2_with fail
            refine CZ.mono ?_
            rintro e w19 ⟨rfl, HW⟩
            have BL2 : Hid (Below w18.heap.size w18 w19) := belt BL.out HW
            clear HW BL hcj CZ x0 x1
            go_wp2_with fail
            go_roundw
            case rel => exact ⟨j + 1, z', by omega, by go_num, rfl, HN3, BL2⟩
            case measure => simp [intOf]; omega
          · have hzn : z = n := HFIN.out z (by have := HZJ.out; rwa [show (m : Int) - j = 0 by omega] at this)
            subst hzn
            clear HZJ HFIN HSTEP HCE
            obtain ⟨x0, x1⟩ := Bk.c2 (KX8.out.keep BL.out)
            go_wp2_with fail
            refine (CIA _).mono ?_
            rintro e w19 ⟨rfl, HW⟩
            have BF9 : Hid (Below w.heap.size w w19) := belt BF8.out (belt BL.out HW)
            have hnn : (z != z) = false := by simp
            clear HW x0 x1 BL BF8 KX8 CIA CSH
            by_cases hft : f = g'
            · have h1 : (f != g') = false := by simpa using hft
              clear hft HARC
              go_wp2
              go_ret
              exact ⟨rfl, BF9.out⟩
            · have h1 : (f != g') = true := by simpa using hft
              by_cases hbf : bi = f
              · have h2 : (bi != f) = false := by simpa using hbf
                clear hbf HARC hft
                cases arcB sb g' bi f
                · go_wp2
                  go_ret
                  exact ⟨rfl, BF9.out⟩
                · go_wp2
                  go_ret
                  exact ⟨rfl, BF9.out⟩
              · rw [HARC.out hft hbf]
                clear hft hbf HARC
                go_wp2
                go_ret
                exact ⟨rfl, BF9.out⟩
  · have CB := big_any a a' xs.length ys.length cap cap' w HX.out HY.out
    rw [hbig] at CB
    go_enter Try.func4, Try.ntmps4
    go_wp2_with fail
    refine CB.mono ?_
    rintro e w0 ⟨rfl, hw0⟩
    replace hw0 := hw0.symm
    subst hw0
    go_wp2
    go_ret
    exact ⟨rfl, Below.refl _ _⟩

set_option maxRecDepth 100000 in
theorem fnWalks_lifted (os : Os) (started : os.Started) (H : Type) (enc : TypeId × Value → H) :
    ReturnsInHanded {} Try.checked os 4 .any (Rows.fnWalksSpec.pre6 enc Try.prog Try.f4 Rows.fnWalksRow.domain false) (Rows.fnWalksSpec.post enc Try.prog Try.f4 false true false false) := by
  refine returnsInHanded_of_change (C := Try.checked) own started (by kernel_rfl) Try.func4
    (ChangeSpec.witness6 (enc := enc) (C := Try.checked) false ⟨#[], #[.slice none 0 0, .slice none 0 0], []⟩ 8 (by kernel_rfl) (by kernel_rfl) (by kernel_rfl) (by kernel_rfl)) ?_
  intro W base args ds gs before hval0 hW hcnd _
  have hval : ∀ (j : Nat) t v, Try.f4.params[j]? = some t → args[j]? = some v → Value.okWide Try.prog W .any base t v := hval0
  have hW' := hW
  obtain ⟨p, q, hA0, hV, rfl, hfz, hnd⟩ := hW
  have hA : DataW.TrodAll enc Try.prog W 0 (fun _ => true) true Try.f4.params.toList args.toList ds p := hA0
  rw [Try.params4] at hA hval
  obtain ⟨v0, vs0, d0, ds0, p0, q0, hargs, rfl, rfl, h0, r0⟩ := trodAll_cons hA
  obtain ⟨v1, vs1, d1, ds1, p1, q1, rfl, rfl, rfl, h1, r1⟩ := trodAll_cons r0
  obtain ⟨rfl, rfl, rfl⟩ := trodAll_nil r1
  obtain rfl : args = #[v0, v1] := by cases args; simp_all
  obtain ⟨rfl, rfl⟩ := trodVars_none hV
  obtain ⟨a0, len0, cap0, rfl⟩ := okWide_slice Try.underlying22 (hval 0 22 v0 rfl rfl)
  have k0 := h0
  have lt0 : ∀ x ∈ p0, x.block < W.heap.size := by obtain ⟨m, hm⟩ := k0; exact DataW.trod_lt m _ _ _ hm
  obtain ⟨z0, w0⟩ : ∃ zs, IsRowU W a0 len0 cap0 zs := by
    obtain ⟨fuel, hf⟩ := h0
    rcases open_ints Try.underlying22 Try.underlying5 (by kernel_rfl) hf with ⟨hcs, _⟩ | ⟨x, l, c, zs, hcs, _, hl, hm, hz, _, hcell, hwz⟩
    · simp [Value.cells] at hcs
      obtain ⟨rfl, rfl, rfl⟩ := hcs
      exact ⟨[], .inl ⟨rfl, rfl, rfl, rfl⟩⟩
    · simp [Value.cells] at hcs
      obtain ⟨rfl, rfl, rfl⟩ := hcs
      exact ⟨zs, .inr ⟨_, rfl, hl, hm, by simpa using hz, hcell, hwz⟩⟩
  obtain ⟨a1, len1, cap1, rfl⟩ := okWide_slice Try.underlying22 (hval 1 22 v1 rfl rfl)
  have k1 := h1
  have lt1 : ∀ x ∈ p1, x.block < W.heap.size := by obtain ⟨m, hm⟩ := k1; exact DataW.trod_lt m _ _ _ hm
  obtain ⟨z1, w1⟩ : ∃ zs, IsRowU W a1 len1 cap1 zs := by
    obtain ⟨fuel, hf⟩ := h1
    rcases open_ints Try.underlying22 Try.underlying5 (by kernel_rfl) hf with ⟨hcs, _⟩ | ⟨x, l, c, zs, hcs, _, hl, hm, hz, _, hcell, hwz⟩
    · simp [Value.cells] at hcs
      obtain ⟨rfl, rfl, rfl⟩ := hcs
      exact ⟨[], .inl ⟨rfl, rfl, rfl, rfl⟩⟩
    · simp [Value.cells] at hcs
      obtain ⟨rfl, rfl, rfl⟩ := hcs
      exact ⟨zs, .inr ⟨_, rfl, hl, hm, by simpa using hz, hcell, hwz⟩⟩
  clear hA0 hval0
  obtain ⟨y0, e0, m0, q0⟩ := isRowU_rowB w0
  obtain ⟨y1, e1, m1, q1⟩ := isRowU_rowB w1
  subst e0 e1
  refine (wFnWalks a0 a1 cap0 cap1 y0 y1 W m0 m1 q0 q1).mono fun e W' ⟨he, bel⟩ => ?_
  subst he
  exact ⟨_, rfl, _, _, _, [], _, [], hW', trodAll_mk1 (shut_bool Try.underlying4 _), (trodAll_cons_mk (Below.trod laidOut (by kernel_rfl) (of_decide_eq_true (by kernel_rfl)) k0 bel lt0) (trodAll_cons_mk (Below.trod laidOut (by kernel_rfl) (of_decide_eq_true (by kernel_rfl)) k1 bel lt1) trodAll_mk0)), rfl, bel.frame _, fun h => by cases h⟩

theorem fnWalks_holds : Rows.FnWalksSaid :=
  OpenClaim.holds_of_wide 4 Try.f4 rfl rfl rfl rfl rfl rfl rfl ⟨rfl, rfl, rfl, rfl, rfl⟩ rfl rfl rfl rfl rfl (by kernel_rfl) Try.func4 (by kernel_rfl)
    (of_decide_eq_true (by kernel_rfl)) (by unfold Func.isWrapper; first | (rw [if_pos (by decide +kernel)]; kernel_rfl) | (rw [if_neg (by decide +kernel)]; exact ⟨rfl, rfl⟩))
    (fun os started H enc _ => fnWalks_lifted os started H enc)
#print axioms fnWalks_holds
end Go.Proofs.Ytejajlloipkkhaa
