/- For all bytes: what is put is got, what is dropped is not, versions only grow, and tables are told the same: no condition. -/
import Derived.Test.YtpgngfdhnoonjaaDw2
import Derived.Test.YtpgngfdhnoonjaaLt0
import Derived.Test.YtpgngfdhnoonjaaMp4
import Derived.Test.YtpgngfdhnoonjaaSp2
import Derived.Test.YtpgngfdhnoonjaaSm0
import Derived.Test.YtpgngfdhnoonjaaTb2
import Derived.Test.YtpgngfdhnoonjaaLw0
import Derived.Test.YtpgngfdhnoonjaaK0
namespace Go.Proofs.Ytpgngfdhnoonjaa
open Go.ChangeShapes Go.WideShapes Go.ChangeAt Go.RowKit Go.Deep Wire Tb
set_option linter.unusedVariables false
set_option linter.unusedSimpArgs false
theorem sameRows_self (a : Option Addr) (cap n : Nat) (xs : List Rw) (a' : Option Addr) (cap' n' : Nat) (w : World) (hn : xs.length = n) (hm : n ≤ 1048576) (hx : LsAt tyRw w a xs) (hn' : xs.length = n') (hm' : n' ≤ 1048576) (hy : LsAt tyRw w a' xs) :
    Calls Try.prog 17 #[.slice a n cap, .slice a' n' cap'] w fun e w' => e = .returned (.bool true) ∧ Below w.heap.size w w' := by
  have := sameRows_two a cap n xs a' cap' n' xs w hn hm hx hn' hm' hy
  rwa [sameT_self] at this
theorem eqlRw_run (x0 x1 x2 : Int) (b : Bool) (w : World) : (binOp .eql 37 (.agg #[.int .i64 x0, .int .i64 x1, .int .i64 x2, .bool b]) (.agg #[.int .i64 x0, .int .i64 x1, .int .i64 x2, .bool b])).run Try.prog w = .ok (.bool true) w := by
  rw [run_eql_struct, eqRw_run, rwE_self]
  rfl
theorem wf_small {x : Int} (h1 : -1 ≤ x) (h2 : x ≤ 4096) : Wf x := by
  show (Lit.int .i64 x).wf = true
  simp [Lit.wf, IntKind.min, IntKind.max, IntKind.signed, IntKind.bits]
  omega
set_option maxRecDepth 100000 in
set_option maxHeartbeats 3200000 in
theorem drawGetRow_any (a : Option Addr) (cap : Nat) (zs : List Int) (w : World) (hm : zs.length ≤ 1048576) (hr : RowB w a zs) :
    Calls Try.prog 23 #[.slice a zs.length cap] w fun e w' => (∃ (b d x : Int) (ad : Option Addr) (nt ct : Nat) (ms : List Rw), e = .returned (.tuple #[.agg #[.int .i64 b, .int .i64 d], .slice ad nt ct, .int .i64 x]) ∧ TR w' ad nt ct ms ∧ -1 ≤ x ∧ x ≤ 11) ∧ Below w.heap.size w w' := by
  have CD := drawRowFor_any a cap zs (w.alloc (.cells #[.int .i64 0, .int .i64 0] 25)) hm (hr.keep (belA _ _))
  go_enter Try.func23, Try.ntmps23
  go_wp2_with fail
  refine CD.mono ?_
  rintro e w1 ⟨b, d, x, ad, nt, ct, ms, rfl, tt, h1, h2, HW⟩
  have KB : Hid (Bk w1 w.heap.size #[.int .i64 0, .int .i64 0] 25) := (Bk.new _ _ _).keep HW
  have HB : Hid (Below w.heap.size w w1) := belt (belA _ _) HW
  have HT : Hid (TR w1 ad nt ct ms) := tt
  clear tt HW CD
  obtain ⟨z0, z1⟩ := Bk.c2 KB.out
  have f0 := Bk.fr KB.out 0
  have f1 := Bk.fr KB.out 1
  go_wp2
  have hb2 : (((w1.setCell ⟨w.heap.size, 0, none⟩ (.int .i64 b)).setCell ⟨w.heap.size, 1, none⟩ (.int .i64 d)).heap[w.heap.size]? = some (.cells #[.int .i64 b, .int .i64 d] 25 (0, 0))) := heap_setCell_same _ _ 1 _ _ _ (heap_setCell_same _ _ 0 _ _ _ KB.out)
  have e0 := (cell_of_row _ _ 0 _ _ _ hb2).trans rfl
  have e1 := (cell_of_row _ _ 1 _ _ _ hb2).trans rfl
  refine bodyPost_ret (by simp [results, Try.results23, go_sem, e0, e1] <;> rfl) rfl ⟨⟨b, d, x, ad, nt, ct, ms, rfl, ⟨HT.out.len, HT.out.le, lsAt_two (lsAt_two HT.out.at_ KB.out 0 _) (heap_setCell_same _ _ 0 _ _ _ KB.out) 1 _, HT.out.cap, HT.out.nil⟩, h1, h2⟩, (HB.out.setCell (Nat.le_refl _) _).setCell (Nat.le_refl _) _⟩
set_option maxRecDepth 100000 in
set_option maxHeartbeats 12800000 in
theorem wFnTables (a a' : Option Addr) (cap cap' : Nat) (zs ys : List Int) (w : World) (hm : zs.length ≤ maxLen) (hm' : ys.length ≤ maxLen) (hr : RowB w a zs) (hr' : RowB w a' ys) :
    Calls Try.prog 3 #[.slice a zs.length cap, .slice a' ys.length cap'] w fun e w' => e = .returned (.bool true) ∧ Below w.heap.size w w' := by
  have HR0 : Hid (RowB w a zs) := hr
  have HR1 : Hid (RowB w a' ys) := hr'
  clear hr hr'
  cases hbg : bigB zs.length ys.length
  case true =>
    have HG : Hid (bigB zs.length ys.length = true) := hbg
    clear hbg
    go_enter Try.func3, Try.ntmps3
    go_wp2_with (go_at_call 13; refine (big_any _ _ _ _ _ _ _ hm hm').mono ?_; rintro e w1 ⟨rfl, rfl⟩; rw [HG.out])
    go_ret
    exact ⟨rfl, Below.refl _ _⟩
  have HG : Hid (bigB zs.length ys.length = false) := hbg
  obtain ⟨hz1, hz2⟩ := bigB_false hbg
  clear hbg
  go_enter Try.func3, Try.ntmps3
  have BEL_0 : Hid (Below w.heap.size w w) := Below.refl _ _
  go_wp2_with fail
  refine (big_any _ _ _ _ _ _ _ hm hm').mono ?_
  rintro e vx ⟨rfl, hx⟩
  have hx' := hx.symm
  clear hx
  subst hx'
  rw [HG.out]
  go_wp2_with fail
  refine (drawPutRow_any a cap zs _ hz1 HR0.out).mono ?_
  rintro e w1 ⟨b, d, x, y, ad, nt, ct, ms, rfl, tt, hx1, hx2, hy1, hy2, HW⟩
  have BEL_1 : Hid (Below w.heap.size w w1) := belt BEL_0.out (HW)
  clear BEL_0
  have TT_1 : Hid (TR w1 ad nt ct ms) := tt
  clear HW
  clear tt
  have hkx : Wf x := wf_small hx1 (by omega)
  have hnt : nt ≤ 10 := TT_1.out.le
  go_wp2_with fail
  refine (PutRow_own b d ad ct nt ms x y _ TT_1.out.len (by omega) (TT_1.out.at_.keep (belA _ _)) hkx).mono ?_
  rintro e w2 ⟨a2, n2, c2, rfl, hn2, o2, HW⟩
  have BEL_2 : Hid (Below w.heap.size w w2) := belt BEL_1.out (belt (belA _ _) HW)
  have TT_2 : Hid (TR w2 ad nt ct ms) := TT_1.out.keep (belt (belA _ _) HW)
  clear BEL_1 TT_1
  have KX_2 : Hid (Bk w2 w1.heap.size #[.int .i64 b, .int .i64 d] 25) := (Bk.new _ _ _).keep HW
  have HP_2 : Hid (LsAt tyRw w2 a2 (ptL b d ms x y)) := o2.at
  clear HW
  clear o2
  obtain ⟨zKX0, zKX1⟩ := Bk.c2 KX_2.out
  go_wp2_with fail
  refine (lPutRow_any b d ad ct nt ms x y _ TT_2.out.len (by omega) TT_2.out.cap TT_2.out.nil TT_2.out.at_).mono ?_
  rintro e w3 ⟨a3, n3, c3, rfl, hn3, r3, hc3, h03, HW⟩
  clear zKX0 zKX1
  have BEL_3 : Hid (Below w.heap.size w w3) := belt BEL_2.out (HW)
  have TT_3 : Hid (TR w3 ad nt ct ms) := TT_2.out.keep (HW)
  have KX_3 : Hid (Bk w3 w1.heap.size #[.int .i64 b, .int .i64 d] 25) := KX_2.out.keep (HW)
  have HP_3 : Hid (LsAt tyRw w3 a2 (ptL b d ms x y)) := HP_2.out.keep (HW)
  clear BEL_2 TT_2 KX_2 HP_2
  have HQ_3 : Hid (LsAt tyRw w3 a3 (ptL b d ms x y)) := r3
  clear HW
  clear r3 hc3 h03
  have HF : Hid (ptB b d ms x y = true → PutF b d ms x y (ptL b d ms x y) (newR ms x y false)) := putF
  have HPL : Hid ((ptL b d ms x y).length ≤ 9) := ptL_len _ _ _ _ _
  generalize newR ms x y false = r at HF
  generalize ptL b d ms x y = P at *
  generalize ptB b d ms x y = ok at *
  subst hn2
  have hn3' := hn3.symm
  clear hn3
  subst hn3'
  have hgb := bne_self_bool ok
  have hgt := bne_self_bool (goodT b d ms)
  have hpl := HPL.out
  go_wp2_with fail
  have BEL_d : Hid (Below w.heap.size w w3.drew) := belt BEL_3.out ((Below.refl _ _).drew)
  have TT_d : Hid (TR w3.drew ad nt ct ms) := TT_3.out.keep ((Below.refl _ _).drew)
  have KX_d : Hid (Bk w3.drew w1.heap.size #[.int .i64 b, .int .i64 d] 25) := KX_3.out.keep ((Below.refl _ _).drew)
  have HP_d : Hid (LsAt tyRw w3.drew a2 P) := HP_3.out.keep ((Below.refl _ _).drew)
  have HQ_d : Hid (LsAt tyRw w3.drew a3 P) := HQ_3.out.keep ((Below.refl _ _).drew)
  go_region_held (fun w' => w'.cell? ⟨w1.heap.size, 0, none⟩ = some (.int .i64 b) ∧ w'.cell? ⟨w1.heap.size, 1, none⟩ = some (.int .i64 d)) (with_reducible (first | exact Bk.c2 KX_d.out | exact Bk.c2 KXa.out | exact Bk.c2 KXb.out | exact Bk.c2 KXc.out)) (first | (go_at_call 17; refine (sameRows_self a2 c2 P.length P a3 c3 P.length w3.drew rfl (by omega) HP_d.out rfl (by omega) HQ_d.out).mono ?_; rintro e w4 ⟨rfl, hwa⟩; have KXa : Hid (Bk w4 w1.heap.size #[.int .i64 b, .int .i64 d] 25) := KX_d.out.keep hwa) | (go_at_call 18; refine (GoodTable_own b d ad ct nt ms w4 TT_d.out.len (by omega) (TT_d.out.at_.keep hwa)).mono ?_; rintro e w5 ⟨rfl, hwb⟩; have KXb : Hid (Bk w5 w1.heap.size #[.int .i64 b, .int .i64 d] 25) := KXa.out.keep hwb) | (go_at_call 19; refine (lGoodTable_own b d ad ct nt ms w5 TT_d.out.len (by omega) (TT_d.out.at_.keep (belt hwa hwb))).mono ?_; rintro e w6 ⟨rfl, hwc⟩; have KXc : Hid (Bk w6 w1.heap.size #[.int .i64 b, .int .i64 d] 25) := KXb.out.keep hwc))
  have BEL_6 : Hid (Below w.heap.size w w6) := belt BEL_d.out (belt hwa (belt hwb hwc))
  have TT_6 : Hid (TR w6 ad nt ct ms) := TT_d.out.keep (belt hwa (belt hwb hwc))
  have KX_6 : Hid (Bk w6 w1.heap.size #[.int .i64 b, .int .i64 d] 25) := KX_d.out.keep (belt hwa (belt hwb hwc))
  have HP_6 : Hid (LsAt tyRw w6 a2 P) := HP_d.out.keep (belt hwa (belt hwb hwc))
  have HQ_6 : Hid (LsAt tyRw w6 a3 P) := HQ_d.out.keep (belt hwa (belt hwb hwc))
  clear BEL_3 TT_3 KX_3 HP_3 HQ_3 BEL_d TT_d KX_d HP_d HQ_d KXa KXb KXc hwa hwb hwc
  go_upto_if 84 with (fail)
  clear hgb hgt
  go_cut [] (fun wc => Hid (Below w.heap.size w wc))
  case first =>
    cases ok
    · go_wp2_with fail
      go_meet
      exact BEL_6
    · skip
      have F := HF.out rfl
      clear HF
      obtain ⟨r0, r1, r2, rb⟩ := r
      have hone := F.one
      have hval := F.val_
      have hthree := F.three
      have hrow := F.row
      have htwo := F.two
      have hfour := F.four
      have hlen := F.len
      have hgood := F.good
      have hwas := F.was
      have hnew := F.new
      have hver := F.ver
      clear F
      dsimp only at htwo hwas hnew hver
      have CG : ∀ w1, LsAt tyRw w1 a2 P → Calls Try.prog 20 #[.agg #[.int .i64 b, .int .i64 d], .slice a2 P.length c2, .int .i64 x] w1 fun e w' => e = .returned (.tuple #[.int .i64 y, .bool true]) ∧ Below w1.heap.size w1 w' := fun w1 h => by
        have := GetRow_own b d a2 c2 P.length P x w1 rfl (by omega) h hkx
        rwa [hval, hone] at this
      have CD : ∀ w1, LsAt tyRw w1 a2 P → Calls Try.prog 21 #[.agg #[.int .i64 b, .int .i64 d], .slice a2 P.length c2, .int .i64 x] w1 _ := fun w1 h => DropRow_own b d a2 c2 P.length P x w1 rfl (by omega) h hkx
      have CR : ∀ w1, LsAt tyRw w1 a2 P → Calls Try.prog 22 #[.agg #[.int .i64 b, .int .i64 d], .slice a2 P.length c2, .int .i64 x] w1 fun e w' => e = .returned (.tuple #[.agg #[.int .i64 r0, .int .i64 r1, .int .i64 r2, .bool rb], .bool true]) ∧ Below w1.heap.size w1 w' := fun w1 h => by
        have := RowFor_own b d a2 c2 P.length P x w1 rfl (by omega) h hkx
        rwa [hthree, hrow] at this
      have CK : ∀ w1, LsAt tyRw w1 a2 P → Calls Try.prog 18 #[.agg #[.int .i64 b, .int .i64 d], .slice a2 P.length c2] w1 fun e w' => e = .returned (.bool true) ∧ Below w1.heap.size w1 w' := fun w1 h => by
        have := GoodTable_own b d a2 c2 P.length P w1 rfl (by omega) h
        rwa [hgood] at this
      have CO : ∀ w1, LsAt tyRw w1 ad ms → Calls Try.prog 22 #[.agg #[.int .i64 b, .int .i64 d], .slice ad nt ct, .int .i64 x] w1 _ := fun w1 h => RowFor_own b d ad ct nt ms x w1 TT_6.out.len (by omega) h hkx
      have HDL : Hid ((dpL b d P x).length ≤ 9) := dpL_len _ _ _ _
      generalize dpL b d P x = D at *
      generalize dpB b d P x = two at *
      generalize rfV b d ms x = q at *
      generalize rfB b d ms x = was at *
      obtain ⟨q0, q1, q2, qb⟩ := q
      dsimp only at CO hwas
      have HTWO : Hid (two = decide (r1 < 1000000)) := htwo
      clear hone hval hthree hrow hgood htwo
      obtain ⟨zKX0, zKX1⟩ := Bk.c2 KX_6.out
      go_wp2_with fail
      refine (CG _ HP_6.out).mono ?_
      rintro e w7 ⟨rfl, HW⟩
      clear zKX0 zKX1
      have BEL_7 : Hid (Below w.heap.size w w7) := belt BEL_6.out (HW)
      have TT_7 : Hid (TR w7 ad nt ct ms) := TT_6.out.keep (HW)
      have KX_7 : Hid (Bk w7 w1.heap.size #[.int .i64 b, .int .i64 d] 25) := KX_6.out.keep (HW)
      have HP_7 : Hid (LsAt tyRw w7 a2 P) := HP_6.out.keep (HW)
      have HQ_7 : Hid (LsAt tyRw w7 a3 P) := HQ_6.out.keep (HW)
      clear BEL_6 TT_6 KX_6 HP_6 HQ_6
      clear HW
      obtain ⟨zKX0, zKX1⟩ := Bk.c2 KX_7.out
      go_wp2_with fail
      refine (CD _ HP_7.out).mono ?_
      rintro e w8 ⟨a5, n5, c5, rfl, hn5, o5, HW⟩
      clear zKX0 zKX1
      have BEL_8 : Hid (Below w.heap.size w w8) := belt BEL_7.out (HW)
      have TT_8 : Hid (TR w8 ad nt ct ms) := TT_7.out.keep (HW)
      have KX_8 : Hid (Bk w8 w1.heap.size #[.int .i64 b, .int .i64 d] 25) := KX_7.out.keep (HW)
      have HP_8 : Hid (LsAt tyRw w8 a2 P) := HP_7.out.keep (HW)
      have HQ_8 : Hid (LsAt tyRw w8 a3 P) := HQ_7.out.keep (HW)
      clear BEL_7 TT_7 KX_7 HP_7 HQ_7
      have HD_8 : Hid (LsAt tyRw w8 a5 D) := o5.at
      clear HW
      clear o5
      obtain ⟨zKX0, zKX1⟩ := Bk.c2 KX_8.out
      go_wp2_with fail
      refine (CR _ HP_8.out).mono ?_
      rintro e w9 ⟨rfl, HW⟩
      clear zKX0 zKX1
      have BEL_9 : Hid (Below w.heap.size w w9) := belt BEL_8.out (HW)
      have TT_9 : Hid (TR w9 ad nt ct ms) := TT_8.out.keep (HW)
      have KX_9 : Hid (Bk w9 w1.heap.size #[.int .i64 b, .int .i64 d] 25) := KX_8.out.keep (HW)
      have HP_9 : Hid (LsAt tyRw w9 a2 P) := HP_8.out.keep (HW)
      have HQ_9 : Hid (LsAt tyRw w9 a3 P) := HQ_8.out.keep (HW)
      have HD_9 : Hid (LsAt tyRw w9 a5 D) := HD_8.out.keep (HW)
      clear BEL_8 TT_8 KX_8 HP_8 HQ_8 HD_8
      clear HW
      obtain ⟨zk0, zk1⟩ := Bk.c2 (KX_9.out.keep (belA _ (.cells #[.int .i64 r0, .int .i64 r1, .int .i64 r2, .bool rb] 37)))
      go_wp2_with fail
      refine (CO _ (TT_9.out.at_.keep (belA _ _))).mono ?_
      rintro e w10 ⟨rfl, HW⟩
      have BEL_10 : Hid (Below w.heap.size w w10) := belt BEL_9.out (belt (belA _ _) HW)
      have TT_10 : Hid (TR w10 ad nt ct ms) := TT_9.out.keep (belt (belA _ _) HW)
      have KX_10 : Hid (Bk w10 w1.heap.size #[.int .i64 b, .int .i64 d] 25) := KX_9.out.keep (belt (belA _ _) HW)
      have HP_10 : Hid (LsAt tyRw w10 a2 P) := HP_9.out.keep (belt (belA _ _) HW)
      have HQ_10 : Hid (LsAt tyRw w10 a3 P) := HQ_9.out.keep (belt (belA _ _) HW)
      have HD_10 : Hid (LsAt tyRw w10 a5 D) := HD_9.out.keep (belt (belA _ _) HW)
      clear BEL_9 TT_9 KX_9 HP_9 HQ_9 HD_9
      have K1_10 : Hid (Bk w10 w9.heap.size #[.int .i64 r0, .int .i64 r1, .int .i64 r2, .bool rb] 37) := (Bk.new _ _ _).keep HW
      clear HW
      clear zk0 zk1
      have hyy : (y != y) = false := by simp
      have BEL_k : Hid (Below w.heap.size w (w10.alloc (.cells #[.int .i64 q0, .int .i64 q1, .int .i64 q2, .bool qb] 37))) := belt BEL_10.out (belA _ _)
      have TT_k : Hid (TR (w10.alloc (.cells #[.int .i64 q0, .int .i64 q1, .int .i64 q2, .bool qb] 37)) ad nt ct ms) := TT_10.out.keep (belA _ _)
      have KX_k : Hid (Bk (w10.alloc (.cells #[.int .i64 q0, .int .i64 q1, .int .i64 q2, .bool qb] 37)) w1.heap.size #[.int .i64 b, .int .i64 d] 25) := KX_10.out.keep (belA _ _)
      have HP_k : Hid (LsAt tyRw (w10.alloc (.cells #[.int .i64 q0, .int .i64 q1, .int .i64 q2, .bool qb] 37)) a2 P) := HP_10.out.keep (belA _ _)
      have HQ_k : Hid (LsAt tyRw (w10.alloc (.cells #[.int .i64 q0, .int .i64 q1, .int .i64 q2, .bool qb] 37)) a3 P) := HQ_10.out.keep (belA _ _)
      have HD_k : Hid (LsAt tyRw (w10.alloc (.cells #[.int .i64 q0, .int .i64 q1, .int .i64 q2, .bool qb] 37)) a5 D) := HD_10.out.keep (belA _ _)
      have K1_k : Hid (Bk (w10.alloc (.cells #[.int .i64 q0, .int .i64 q1, .int .i64 q2, .bool qb] 37)) w9.heap.size #[.int .i64 r0, .int .i64 r1, .int .i64 r2, .bool rb] 37) := K1_10.out.keep (belA _ _)
      have K2_k : Hid (Bk (w10.alloc (.cells #[.int .i64 q0, .int .i64 q1, .int .i64 q2, .bool qb] 37)) w10.heap.size #[.int .i64 q0, .int .i64 q1, .int .i64 q2, .bool qb] 37) := Bk.new _ _ _
      go_upto_region 13 with (fail)
      clear BEL_10 TT_10 KX_10 HP_10 HQ_10 HD_10 K1_10
      generalize (w10.alloc (.cells #[.int .i64 q0, .int .i64 q1, .int .i64 q2, .bool qb] 37)) = wk at *
      have HLN5 : Hid (D.length = n5) := hn5
      cases was
      · cases two
        · skip
          have hr1 := hnew rfl
          have hrr : (r1 != 1) = false := by rw [hr1]; rfl
          clear hwas hnew hr1
          have hl : decide (r1 < 1000000) = false := HTWO.out.symm
          clear HTWO
          clear hfour hlen
          obtain ⟨z0, z1⟩ := Bk.c2 KX_k.out
          go_wp2_with fail
          refine (CK _ HP_k.out).mono ?_
          rintro e wa ⟨rfl, hwa⟩
          clear z0 z1
          have BEL_e : Hid (Below w.heap.size w wa) := belt BEL_k.out hwa
          have KX_e : Hid (Bk wa w1.heap.size #[.int .i64 b, .int .i64 d] 25) := KX_k.out.keep hwa
          have HD_e : Hid (LsAt tyRw wa a5 D) := HD_k.out.keep hwa
          have K1_e : Hid (Bk wa w9.heap.size #[.int .i64 r0, .int .i64 r1, .int .i64 r2, .bool rb] 37) := K1_k.out.keep hwa
          have K2_e : Hid (Bk wa w10.heap.size #[.int .i64 q0, .int .i64 q1, .int .i64 q2, .bool qb] 37) := K2_k.out.keep hwa
          clear BEL_k TT_k KX_k HP_k HQ_k HD_k K1_k K2_k hwa
          obtain ⟨_, k1c, _, _⟩ := Bk.c4 K1_e.out
          obtain ⟨_, k2c, _, _⟩ := Bk.c4 K2_e.out
          go_wp2
          go_meet
          exact BEL_e
        · skip
          have hr1 := hnew rfl
          have hrr : (r1 != 1) = false := by rw [hr1]; rfl
          clear hwas hnew hr1
          have hl : decide (r1 < 1000000) = true := HTWO.out.symm
          clear HTWO
          have h4 := hfour rfl
          have h5 := hlen rfl
          have hn5' := hn5.symm.trans h5
          clear hn5 h5
          subst hn5'
          clear hfour hlen
          obtain ⟨z0, z1⟩ := Bk.c2 KX_k.out
          go_wp2_with fail
          refine (CK _ HP_k.out).mono ?_
          rintro e wa ⟨rfl, hwa⟩
          clear z0 z1
          have BEL_e : Hid (Below w.heap.size w wa) := belt BEL_k.out hwa
          have KX_e : Hid (Bk wa w1.heap.size #[.int .i64 b, .int .i64 d] 25) := KX_k.out.keep hwa
          have HD_e : Hid (LsAt tyRw wa a5 D) := HD_k.out.keep hwa
          have K1_e : Hid (Bk wa w9.heap.size #[.int .i64 r0, .int .i64 r1, .int .i64 r2, .bool rb] 37) := K1_k.out.keep hwa
          have K2_e : Hid (Bk wa w10.heap.size #[.int .i64 q0, .int .i64 q1, .int .i64 q2, .bool qb] 37) := K2_k.out.keep hwa
          clear BEL_k TT_k KX_k HP_k HQ_k HD_k K1_k K2_k hwa
          obtain ⟨_, k1c, _, _⟩ := Bk.c4 K1_e.out
          obtain ⟨_, k2c, _, _⟩ := Bk.c4 K2_e.out
          have CG2 := GetRow_own b d a5 c5 P.length D x wa HLN5.out (by omega) HD_e.out hkx
          rw [h4] at CG2
          obtain ⟨z0, z1⟩ := Bk.c2 KX_e.out
          go_wp2_with fail
          refine CG2.mono ?_
          rintro e wb ⟨rfl, HW⟩
          have BEL_f : Hid (Below w.heap.size w wb) := belt BEL_e.out HW
          clear HW z0 z1 CG2 h4 k1c k2c
          go_wp2
          go_meet
          exact BEL_f
      · cases two
        · skip
          have hr1 := hwas rfl
          have hrr : (r1 != q1 + 1) = false := by rw [hr1]; simp
          have hq1 : 0 ≤ q1 := by omega
          have hq2 : q1 ≤ 999999 := by omega
          clear hwas hnew hr1
          have hl : decide (r1 < 1000000) = false := HTWO.out.symm
          clear HTWO
          clear hfour hlen
          obtain ⟨z0, z1⟩ := Bk.c2 KX_k.out
          go_wp2_with fail
          refine (CK _ HP_k.out).mono ?_
          rintro e wa ⟨rfl, hwa⟩
          clear z0 z1
          have BEL_e : Hid (Below w.heap.size w wa) := belt BEL_k.out hwa
          have KX_e : Hid (Bk wa w1.heap.size #[.int .i64 b, .int .i64 d] 25) := KX_k.out.keep hwa
          have HD_e : Hid (LsAt tyRw wa a5 D) := HD_k.out.keep hwa
          have K1_e : Hid (Bk wa w9.heap.size #[.int .i64 r0, .int .i64 r1, .int .i64 r2, .bool rb] 37) := K1_k.out.keep hwa
          have K2_e : Hid (Bk wa w10.heap.size #[.int .i64 q0, .int .i64 q1, .int .i64 q2, .bool qb] 37) := K2_k.out.keep hwa
          clear BEL_k TT_k KX_k HP_k HQ_k HD_k K1_k K2_k hwa
          obtain ⟨_, k1c, _, _⟩ := Bk.c4 K1_e.out
          obtain ⟨_, k2c, _, _⟩ := Bk.c4 K2_e.out
          go_wp2
          go_meet
          exact BEL_e
        · skip
          have hr1 := hwas rfl
          have hrr : (r1 != q1 + 1) = false := by rw [hr1]; simp
          have hq1 : 0 ≤ q1 := by omega
          have hq2 : q1 ≤ 999999 := by omega
          clear hwas hnew hr1
          have hl : decide (r1 < 1000000) = true := HTWO.out.symm
          clear HTWO
          have h4 := hfour rfl
          have h5 := hlen rfl
          have hn5' := hn5.symm.trans h5
          clear hn5 h5
          subst hn5'
          clear hfour hlen
          obtain ⟨z0, z1⟩ := Bk.c2 KX_k.out
          go_wp2_with fail
          refine (CK _ HP_k.out).mono ?_
          rintro e wa ⟨rfl, hwa⟩
          clear z0 z1
          have BEL_e : Hid (Below w.heap.size w wa) := belt BEL_k.out hwa
          have KX_e : Hid (Bk wa w1.heap.size #[.int .i64 b, .int .i64 d] 25) := KX_k.out.keep hwa
          have HD_e : Hid (LsAt tyRw wa a5 D) := HD_k.out.keep hwa
          have K1_e : Hid (Bk wa w9.heap.size #[.int .i64 r0, .int .i64 r1, .int .i64 r2, .bool rb] 37) := K1_k.out.keep hwa
          have K2_e : Hid (Bk wa w10.heap.size #[.int .i64 q0, .int .i64 q1, .int .i64 q2, .bool qb] 37) := K2_k.out.keep hwa
          clear BEL_k TT_k KX_k HP_k HQ_k HD_k K1_k K2_k hwa
          obtain ⟨_, k1c, _, _⟩ := Bk.c4 K1_e.out
          obtain ⟨_, k2c, _, _⟩ := Bk.c4 K2_e.out
          have CG2 := GetRow_own b d a5 c5 P.length D x wa HLN5.out (by omega) HD_e.out hkx
          rw [h4] at CG2
          obtain ⟨z0, z1⟩ := Bk.c2 KX_e.out
          go_wp2_with fail
          refine CG2.mono ?_
          rintro e wb ⟨rfl, HW⟩
          have BEL_f : Hid (Below w.heap.size w wb) := belt BEL_e.out HW
          clear HW z0 z1 CG2 h4 k1c k2c
          go_wp2
          go_meet
          exact BEL_f
  case rest =>
    have w30e : wc = wc := rfl
    clear w30e
    have BEL_30 : Hid (Below w.heap.size w wc) := hcut
    clear hcut HF HPL hpl BEL_6 TT_6 KX_6 HP_6 HQ_6
    generalize wc = w30 at *
    go_wp2_with fail
    skip
    refine (drawGetRow_any a' cap' ys _ hz2 (HR1.out.keep BEL_30.out)).mono ?_
    rintro e w31 ⟨⟨b2, d2, x2, ad2, nt2, ct2, ms2, rfl, tt, hx3, hx4⟩, HW⟩
    have BEL_31 : Hid (Below w.heap.size w w31) := belt BEL_30.out (HW)
    clear BEL_30
    have TT_31 : Hid (TR w31 ad2 nt2 ct2 ms2) := tt
    clear HW
    clear tt
    have hkx2 : Wf x2 := wf_small hx3 (by omega)
    have hnt2 : nt2 ≤ 10 := TT_31.out.le
    have CG1 : ∀ w1, LsAt tyRw w1 ad2 ms2 → _ := fun w1 h => GetRow_own b2 d2 ad2 ct2 nt2 ms2 x2 w1 TT_31.out.len (by omega) h hkx2
    have CG2 : ∀ w1, LsAt tyRw w1 ad2 ms2 → _ := fun w1 h => lGetRow_own b2 d2 ad2 ct2 nt2 ms2 x2 w1 TT_31.out.len (by omega) h
    have CD1 : ∀ w1, LsAt tyRw w1 ad2 ms2 → _ := fun w1 h => DropRow_own b2 d2 ad2 ct2 nt2 ms2 x2 w1 TT_31.out.len (by omega) h hkx2
    have CD2 : ∀ w1, LsAt tyRw w1 ad2 ms2 → _ := fun w1 h => lDropRow_any b2 d2 ad2 ct2 nt2 ms2 x2 w1 TT_31.out.len (by omega) TT_31.out.cap TT_31.out.nil h
    have CR1 : ∀ w1, LsAt tyRw w1 ad2 ms2 → _ := fun w1 h => RowFor_own b2 d2 ad2 ct2 nt2 ms2 x2 w1 TT_31.out.len (by omega) h hkx2
    have CR2 : ∀ w1, LsAt tyRw w1 ad2 ms2 → _ := fun w1 h => lRowFor_own b2 d2 ad2 ct2 nt2 ms2 x2 w1 TT_31.out.len (by omega) h
    have HDL : Hid ((dpL b2 d2 ms2 x2).length ≤ 9) := dpL_len _ _ _ _
    generalize gtV b2 d2 ms2 x2 = gv at CG1 CG2
    generalize gtB b2 d2 ms2 x2 = gb at CG1 CG2
    generalize dpL b2 d2 ms2 x2 = D at CD1 CD2 HDL
    generalize dpB b2 d2 ms2 x2 = db at CD1 CD2
    generalize rfV b2 d2 ms2 x2 = q at CR1 CR2
    generalize rfB b2 d2 ms2 x2 = rb at CR1 CR2
    obtain ⟨q0, q1, q2, qb⟩ := q
    dsimp only at CR1 CR2
    go_wp2_with fail
    refine (CG1 _ (TT_31.out.at_.keep (belA _ _))).mono ?_
    rintro e w32 ⟨rfl, HW⟩
    have BEL_32 : Hid (Below w.heap.size w w32) := belt BEL_31.out (belt (belA _ _) HW)
    have TT_32 : Hid (TR w32 ad2 nt2 ct2 ms2) := TT_31.out.keep (belt (belA _ _) HW)
    clear BEL_31 TT_31
    have KX_32 : Hid (Bk w32 w31.heap.size #[.int .i64 b2, .int .i64 d2] 25) := (Bk.new _ _ _).keep HW
    clear HW
    obtain ⟨zKX0, zKX1⟩ := Bk.c2 KX_32.out
    go_wp2_with fail
    refine (CG2 _ TT_32.out.at_).mono ?_
    rintro e w33 ⟨rfl, HW⟩
    clear zKX0 zKX1
    have BEL_33 : Hid (Below w.heap.size w w33) := belt BEL_32.out (HW)
    have TT_33 : Hid (TR w33 ad2 nt2 ct2 ms2) := TT_32.out.keep (HW)
    have KX_33 : Hid (Bk w33 w31.heap.size #[.int .i64 b2, .int .i64 d2] 25) := KX_32.out.keep (HW)
    clear BEL_32 TT_32 KX_32
    clear HW
    obtain ⟨zKX0, zKX1⟩ := Bk.c2 KX_33.out
    go_wp2_with fail
    refine (CD1 _ TT_33.out.at_).mono ?_
    rintro e w34 ⟨a5, n5, c5, rfl, hn5, o5, HW⟩
    clear zKX0 zKX1
    have BEL_34 : Hid (Below w.heap.size w w34) := belt BEL_33.out (HW)
    have TT_34 : Hid (TR w34 ad2 nt2 ct2 ms2) := TT_33.out.keep (HW)
    have KX_34 : Hid (Bk w34 w31.heap.size #[.int .i64 b2, .int .i64 d2] 25) := KX_33.out.keep (HW)
    clear BEL_33 TT_33 KX_33
    have H5_34 : Hid (LsAt tyRw w34 a5 D) := o5.at
    clear HW
    clear o5
    obtain ⟨zKX0, zKX1⟩ := Bk.c2 KX_34.out
    go_wp2_with fail
    refine (CD2 _ TT_34.out.at_).mono ?_
    rintro e w35 ⟨a6, n6, c6, rfl, hn6, r6, hc6, h06, HW⟩
    clear zKX0 zKX1
    have BEL_35 : Hid (Below w.heap.size w w35) := belt BEL_34.out (HW)
    have TT_35 : Hid (TR w35 ad2 nt2 ct2 ms2) := TT_34.out.keep (HW)
    have KX_35 : Hid (Bk w35 w31.heap.size #[.int .i64 b2, .int .i64 d2] 25) := KX_34.out.keep (HW)
    have H5_35 : Hid (LsAt tyRw w35 a5 D) := H5_34.out.keep (HW)
    clear BEL_34 TT_34 KX_34 H5_34
    have H6_35 : Hid (LsAt tyRw w35 a6 D) := r6
    clear HW
    clear r6 hc6 h06
    subst hn5
    have hn6' := hn6.symm
    clear hn6
    subst hn6'
    obtain ⟨zKX0, zKX1⟩ := Bk.c2 KX_35.out
    go_wp2_with fail
    refine (CR1 _ TT_35.out.at_).mono ?_
    rintro e w36 ⟨rfl, HW⟩
    clear zKX0 zKX1
    have BEL_36 : Hid (Below w.heap.size w w36) := belt BEL_35.out (HW)
    have TT_36 : Hid (TR w36 ad2 nt2 ct2 ms2) := TT_35.out.keep (HW)
    have KX_36 : Hid (Bk w36 w31.heap.size #[.int .i64 b2, .int .i64 d2] 25) := KX_35.out.keep (HW)
    have H5_36 : Hid (LsAt tyRw w36 a5 D) := H5_35.out.keep (HW)
    have H6_36 : Hid (LsAt tyRw w36 a6 D) := H6_35.out.keep (HW)
    clear BEL_35 TT_35 KX_35 H5_35 H6_35
    clear HW
    obtain ⟨zk0, zk1⟩ := Bk.c2 (KX_36.out.keep (belA _ (.cells #[.int .i64 q0, .int .i64 q1, .int .i64 q2, .bool qb] 37)))
    go_wp2_with fail
    refine (CR2 _ (TT_36.out.at_.keep (belA _ _))).mono ?_
    rintro e w37 ⟨rfl, HW⟩
    have BEL_37 : Hid (Below w.heap.size w w37) := belt BEL_36.out (belt (belA _ _) HW)
    have TT_37 : Hid (TR w37 ad2 nt2 ct2 ms2) := TT_36.out.keep (belt (belA _ _) HW)
    have KX_37 : Hid (Bk w37 w31.heap.size #[.int .i64 b2, .int .i64 d2] 25) := KX_36.out.keep (belt (belA _ _) HW)
    have H5_37 : Hid (LsAt tyRw w37 a5 D) := H5_36.out.keep (belt (belA _ _) HW)
    have H6_37 : Hid (LsAt tyRw w37 a6 D) := H6_36.out.keep (belt (belA _ _) HW)
    clear BEL_36 TT_36 KX_36 H5_36 H6_36
    have K1_37 : Hid (Bk w37 w36.heap.size #[.int .i64 q0, .int .i64 q1, .int .i64 q2, .bool qb] 37) := (Bk.new _ _ _).keep HW
    clear HW
    clear zk0 zk1
    go_wp2_with fail
    refine (drawSame_any a' cap' ys _ hz2 (HR1.out.keep (belt BEL_37.out (belA _ _)))).mono ?_
    rintro e w38 ⟨ad7, nt7, ct7, ms7, ad8, nt8, ct8, ms8, rfl, t7, t8, HW⟩
    have BEL_38 : Hid (Below w.heap.size w w38) := belt BEL_37.out (belt (belA _ _) HW)
    have TT_38 : Hid (TR w38 ad2 nt2 ct2 ms2) := TT_37.out.keep (belt (belA _ _) HW)
    have KX_38 : Hid (Bk w38 w31.heap.size #[.int .i64 b2, .int .i64 d2] 25) := KX_37.out.keep (belt (belA _ _) HW)
    have H5_38 : Hid (LsAt tyRw w38 a5 D) := H5_37.out.keep (belt (belA _ _) HW)
    have H6_38 : Hid (LsAt tyRw w38 a6 D) := H6_37.out.keep (belt (belA _ _) HW)
    have K1_38 : Hid (Bk w38 w36.heap.size #[.int .i64 q0, .int .i64 q1, .int .i64 q2, .bool qb] 37) := K1_37.out.keep (belt (belA _ _) HW)
    clear BEL_37 TT_37 KX_37 H5_37 H6_37 K1_37
    have K2_38 : Hid (Bk w38 w37.heap.size #[.int .i64 q0, .int .i64 q1, .int .i64 q2, .bool qb] 37) := (Bk.new _ _ _).keep HW
    have T7_38 : Hid (TR w38 ad7 nt7 ct7 ms7) := t7
    have T8_38 : Hid (TR w38 ad8 nt8 ct8 ms8) := t8
    clear HW
    clear t7 t8 CG1 CG2 CD1 CD2 CR1 CR2
    have h7 : nt7 ≤ 10 := T7_38.out.le
    have h8 : nt8 ≤ 10 := T8_38.out.le
    have hdl : D.length ≤ 9 := HDL.out
    have CS1 : ∀ w1, LsAt tyRw w1 ad7 ms7 → LsAt tyRw w1 ad8 ms8 → _ := fun w1 h k => SameTable_two ad7 ct7 nt7 ms7 ad8 ct8 nt8 ms8 w1 T7_38.out.len (by omega) h T8_38.out.len (by omega) k
    have CS2 : ∀ w1, LsAt tyRw w1 ad7 ms7 → LsAt tyRw w1 ad8 ms8 → _ := fun w1 h k => lSameTable_two ad7 ct7 nt7 ms7 ad8 ct8 nt8 ms8 w1 T7_38.out.len (by omega) h T8_38.out.len (by omega) k
    have CS3 : ∀ w1, LsAt tyRw w1 ad7 ms7 → LsAt tyRw w1 ad8 ms8 → _ := fun w1 h k => sameRows_two ad7 ct7 nt7 ms7 ad8 ct8 nt8 ms8 w1 T7_38.out.len (by omega) h T8_38.out.len (by omega) k
    generalize sameT ms7 ms8 = sm at CS1 CS2 CS3
    have e1 : (gb == gb) = true := by simp
    have e2 : (gv == gv) = true := by simp
    have e3 : (db == db) = true := by simp
    have e4 : (rb == rb) = true := by simp
    have e5 : (sm == sm) = true := by simp
    have e6 := eqlRw_run q0 q1 q2 qb
    have e7 : ∀ w, (Op.equalIn 10000 37 (.agg #[.int .i64 q0, .int .i64 q1, .int .i64 q2, .bool qb]) (.agg #[.int .i64 q0, .int .i64 q1, .int .i64 q2, .bool qb])).run Try.prog w = .ok true w := fun w => by rw [eqRw_run, rwE_self]
    go_wp2_with fail
    refine (sameRows_self a5 c5 D.length D a6 c6 D.length _ rfl (by omega) H5_38.out rfl (by omega) H6_38.out).mono ?_
    rintro e w39 ⟨rfl, HW⟩
    have BEL_39 : Hid (Below w.heap.size w w39) := belt BEL_38.out (HW)
    have TT_39 : Hid (TR w39 ad2 nt2 ct2 ms2) := TT_38.out.keep (HW)
    have KX_39 : Hid (Bk w39 w31.heap.size #[.int .i64 b2, .int .i64 d2] 25) := KX_38.out.keep (HW)
    have H5_39 : Hid (LsAt tyRw w39 a5 D) := H5_38.out.keep (HW)
    have H6_39 : Hid (LsAt tyRw w39 a6 D) := H6_38.out.keep (HW)
    have K1_39 : Hid (Bk w39 w36.heap.size #[.int .i64 q0, .int .i64 q1, .int .i64 q2, .bool qb] 37) := K1_38.out.keep (HW)
    have K2_39 : Hid (Bk w39 w37.heap.size #[.int .i64 q0, .int .i64 q1, .int .i64 q2, .bool qb] 37) := K2_38.out.keep (HW)
    have T7_39 : Hid (TR w39 ad7 nt7 ct7 ms7) := T7_38.out.keep (HW)
    have T8_39 : Hid (TR w39 ad8 nt8 ct8 ms8) := T8_38.out.keep (HW)
    clear BEL_38 TT_38 KX_38 H5_38 H6_38 K1_38 K2_38 T7_38 T8_38
    clear HW
    obtain ⟨zK10, zK11, zK12, zK13⟩ := Bk.c4 K1_39.out
    obtain ⟨zK20, zK21, zK22, zK23⟩ := Bk.c4 K2_39.out
    go_wp2_with fail
    refine (CS1 _ T7_39.out.at_ T8_39.out.at_).mono ?_
    rintro e w40 ⟨rfl, HW⟩
    clear zK10 zK11 zK12 zK13
    clear zK20 zK21 zK22 zK23
    have BEL_40 : Hid (Below w.heap.size w w40) := belt BEL_39.out (HW)
    have TT_40 : Hid (TR w40 ad2 nt2 ct2 ms2) := TT_39.out.keep (HW)
    have KX_40 : Hid (Bk w40 w31.heap.size #[.int .i64 b2, .int .i64 d2] 25) := KX_39.out.keep (HW)
    have H5_40 : Hid (LsAt tyRw w40 a5 D) := H5_39.out.keep (HW)
    have H6_40 : Hid (LsAt tyRw w40 a6 D) := H6_39.out.keep (HW)
    have K1_40 : Hid (Bk w40 w36.heap.size #[.int .i64 q0, .int .i64 q1, .int .i64 q2, .bool qb] 37) := K1_39.out.keep (HW)
    have K2_40 : Hid (Bk w40 w37.heap.size #[.int .i64 q0, .int .i64 q1, .int .i64 q2, .bool qb] 37) := K2_39.out.keep (HW)
    have T7_40 : Hid (TR w40 ad7 nt7 ct7 ms7) := T7_39.out.keep (HW)
    have T8_40 : Hid (TR w40 ad8 nt8 ct8 ms8) := T8_39.out.keep (HW)
    clear BEL_39 TT_39 KX_39 H5_39 H6_39 K1_39 K2_39 T7_39 T8_39
    clear HW
    go_wp2_with fail
    refine (CS2 _ T7_40.out.at_ T8_40.out.at_).mono ?_
    rintro e w41 ⟨rfl, HW⟩
    have BEL_41 : Hid (Below w.heap.size w w41) := belt BEL_40.out (HW)
    have TT_41 : Hid (TR w41 ad2 nt2 ct2 ms2) := TT_40.out.keep (HW)
    have KX_41 : Hid (Bk w41 w31.heap.size #[.int .i64 b2, .int .i64 d2] 25) := KX_40.out.keep (HW)
    have H5_41 : Hid (LsAt tyRw w41 a5 D) := H5_40.out.keep (HW)
    have H6_41 : Hid (LsAt tyRw w41 a6 D) := H6_40.out.keep (HW)
    have K1_41 : Hid (Bk w41 w36.heap.size #[.int .i64 q0, .int .i64 q1, .int .i64 q2, .bool qb] 37) := K1_40.out.keep (HW)
    have K2_41 : Hid (Bk w41 w37.heap.size #[.int .i64 q0, .int .i64 q1, .int .i64 q2, .bool qb] 37) := K2_40.out.keep (HW)
    have T7_41 : Hid (TR w41 ad7 nt7 ct7 ms7) := T7_40.out.keep (HW)
    have T8_41 : Hid (TR w41 ad8 nt8 ct8 ms8) := T8_40.out.keep (HW)
    clear BEL_40 TT_40 KX_40 H5_40 H6_40 K1_40 K2_40 T7_40 T8_40
    clear HW
    go_wp2_with fail
    refine (CS1 _ T7_41.out.at_ T8_41.out.at_).mono ?_
    rintro e w42 ⟨rfl, HW⟩
    have BEL_42 : Hid (Below w.heap.size w w42) := belt BEL_41.out (HW)
    have TT_42 : Hid (TR w42 ad2 nt2 ct2 ms2) := TT_41.out.keep (HW)
    have KX_42 : Hid (Bk w42 w31.heap.size #[.int .i64 b2, .int .i64 d2] 25) := KX_41.out.keep (HW)
    have H5_42 : Hid (LsAt tyRw w42 a5 D) := H5_41.out.keep (HW)
    have H6_42 : Hid (LsAt tyRw w42 a6 D) := H6_41.out.keep (HW)
    have K1_42 : Hid (Bk w42 w36.heap.size #[.int .i64 q0, .int .i64 q1, .int .i64 q2, .bool qb] 37) := K1_41.out.keep (HW)
    have K2_42 : Hid (Bk w42 w37.heap.size #[.int .i64 q0, .int .i64 q1, .int .i64 q2, .bool qb] 37) := K2_41.out.keep (HW)
    have T7_42 : Hid (TR w42 ad7 nt7 ct7 ms7) := T7_41.out.keep (HW)
    have T8_42 : Hid (TR w42 ad8 nt8 ct8 ms8) := T8_41.out.keep (HW)
    clear BEL_41 TT_41 KX_41 H5_41 H6_41 K1_41 K2_41 T7_41 T8_41
    clear HW
    go_wp2_with fail
    refine (CS3 _ T7_42.out.at_ T8_42.out.at_).mono ?_
    rintro e w43 ⟨rfl, HW⟩
    have BEL_43 : Hid (Below w.heap.size w w43) := belt BEL_42.out (HW)
    have TT_43 : Hid (TR w43 ad2 nt2 ct2 ms2) := TT_42.out.keep (HW)
    have KX_43 : Hid (Bk w43 w31.heap.size #[.int .i64 b2, .int .i64 d2] 25) := KX_42.out.keep (HW)
    have H5_43 : Hid (LsAt tyRw w43 a5 D) := H5_42.out.keep (HW)
    have H6_43 : Hid (LsAt tyRw w43 a6 D) := H6_42.out.keep (HW)
    have K1_43 : Hid (Bk w43 w36.heap.size #[.int .i64 q0, .int .i64 q1, .int .i64 q2, .bool qb] 37) := K1_42.out.keep (HW)
    have K2_43 : Hid (Bk w43 w37.heap.size #[.int .i64 q0, .int .i64 q1, .int .i64 q2, .bool qb] 37) := K2_42.out.keep (HW)
    have T7_43 : Hid (TR w43 ad7 nt7 ct7 ms7) := T7_42.out.keep (HW)
    have T8_43 : Hid (TR w43 ad8 nt8 ct8 ms8) := T8_42.out.keep (HW)
    clear BEL_42 TT_42 KX_42 H5_42 H6_42 K1_42 K2_42 T7_42 T8_42
    clear HW
    go_wp2
    go_ret
    exact ⟨rfl, BEL_43.out⟩
set_option maxRecDepth 100000 in
theorem fnTables_lifted (os : Os) (started : os.Started) (H : Type) (enc : TypeId × Value → H) :
    ReturnsInHanded {} Try.checked os 3 .any (Rows.fnTablesSpec.pre6 enc Try.prog Try.f3 Rows.fnTablesRow.domain false) (Rows.fnTablesSpec.post enc Try.prog Try.f3 false true false false) := by
  refine returnsInHanded_of_change (C := Try.checked) own started (by kernel_rfl) Try.func3
    (ChangeSpec.witness6 (enc := enc) (C := Try.checked) false ⟨#[], #[.slice none 0 0, .slice none 0 0], []⟩ 8 (by kernel_rfl) (by kernel_rfl) (by kernel_rfl) (by kernel_rfl)) ?_
  intro W base args ds gs before hval0 hW hcnd _
  have hval : ∀ (j : Nat) t v, Try.f3.params[j]? = some t → args[j]? = some v → Value.okWide Try.prog W .any base t v := hval0
  have hW' := hW
  obtain ⟨p, q, hA0, hV, rfl, hfz, hnd⟩ := hW
  have hA : DataW.TrodAll enc Try.prog W 0 (fun _ => true) true Try.f3.params.toList args.toList ds p := hA0
  rw [Try.params3] at hA hval
  obtain ⟨v0, vs0, d0, ds0, p0, q0, hargs, rfl, rfl, h0, r0⟩ := trodAll_cons hA
  obtain ⟨v1, vs1, d1, ds1, p1, q1, rfl, rfl, rfl, h1, r1⟩ := trodAll_cons r0
  obtain ⟨rfl, rfl, rfl⟩ := trodAll_nil r1
  obtain rfl : args = #[v0, v1] := by cases args; simp_all
  obtain ⟨rfl, rfl⟩ := trodVars_none hV
  obtain ⟨a0, len0, cap0, rfl⟩ := okWide_slice Try.underlying22 (hval 0 22 v0 rfl rfl)
  have k0 := h0
  have lt0 : ∀ x ∈ p0, x.block < W.heap.size := by obtain ⟨m, hm⟩ := k0; exact DataW.trod_lt m _ _ _ hm
  obtain ⟨z0, w0⟩ : ∃ zs, IsRowU W a0 len0 cap0 zs := by
    obtain ⟨fuel, hf⟩ := h0
    rcases open_ints Try.underlying22 Try.underlying5 (by kernel_rfl) hf with ⟨hcs, _⟩ | ⟨x, l, c, zs, hcs, _, hl, hm, hz, _, hcell, hwz⟩
    · simp [Value.cells] at hcs
      obtain ⟨rfl, rfl, rfl⟩ := hcs
      exact ⟨[], .inl ⟨rfl, rfl, rfl, rfl⟩⟩
    · simp [Value.cells] at hcs
      obtain ⟨rfl, rfl, rfl⟩ := hcs
      exact ⟨zs, .inr ⟨_, rfl, hl, hm, by simpa using hz, hcell, hwz⟩⟩
  obtain ⟨a1, len1, cap1, rfl⟩ := okWide_slice Try.underlying22 (hval 1 22 v1 rfl rfl)
  have k1 := h1
  have lt1 : ∀ x ∈ p1, x.block < W.heap.size := by obtain ⟨m, hm⟩ := k1; exact DataW.trod_lt m _ _ _ hm
  obtain ⟨z1, w1⟩ : ∃ zs, IsRowU W a1 len1 cap1 zs := by
    obtain ⟨fuel, hf⟩ := h1
    rcases open_ints Try.underlying22 Try.underlying5 (by kernel_rfl) hf with ⟨hcs, _⟩ | ⟨x, l, c, zs, hcs, _, hl, hm, hz, _, hcell, hwz⟩
    · simp [Value.cells] at hcs
      obtain ⟨rfl, rfl, rfl⟩ := hcs
      exact ⟨[], .inl ⟨rfl, rfl, rfl, rfl⟩⟩
    · simp [Value.cells] at hcs
      obtain ⟨rfl, rfl, rfl⟩ := hcs
      exact ⟨zs, .inr ⟨_, rfl, hl, hm, by simpa using hz, hcell, hwz⟩⟩
  clear hA0 hval0
  obtain ⟨y0, e0, m0, q0⟩ := isRowU_rowB w0
  obtain ⟨y1, e1, m1, q1⟩ := isRowU_rowB w1
  subst e0 e1
  refine (wFnTables a0 a1 cap0 cap1 y0 y1 W m0 m1 q0 q1).mono fun e W' ⟨he, bel⟩ => ?_
  subst he
  exact ⟨_, rfl, _, _, _, [], _, [], hW', trodAll_mk1 (shut_bool Try.underlying4 _), (trodAll_cons_mk (Below.trod laidOut (by kernel_rfl) (of_decide_eq_true (by kernel_rfl)) k0 bel lt0) (trodAll_cons_mk (Below.trod laidOut (by kernel_rfl) (of_decide_eq_true (by kernel_rfl)) k1 bel lt1) trodAll_mk0)), rfl, bel.frame _, fun h => by cases h⟩

theorem fnTables_holds : Rows.FnTablesSaid :=
  OpenClaim.holds_of_wide 3 Try.f3 rfl rfl rfl rfl rfl rfl rfl ⟨rfl, rfl, rfl, rfl, rfl⟩ rfl rfl rfl rfl rfl (by kernel_rfl) Try.func3 (by kernel_rfl)
    (of_decide_eq_true (by kernel_rfl)) (by unfold Func.isWrapper; first | (rw [if_pos (by decide +kernel)]; kernel_rfl) | (rw [if_neg (by decide +kernel)]; exact ⟨rfl, rfl⟩))
    (fun os started H enc _ => fnTables_lifted os started H enc)
#print axioms fnTables_holds
end Go.Proofs.Ytpgngfdhnoonjaa
