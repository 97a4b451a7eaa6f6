/- For all bytes: tables are joined both ways alike, once as well as twice, of each key the newer row stays, and the rows of an arc and of the arc back are all rows: no condition. -/
import Derived.Test.YtpgngfdhnoonjaaDw2
import Derived.Test.YtpgngfdhnoonjaaLt0
import Derived.Test.YtpgngfdhnoonjaaMp4
import Derived.Test.YtpgngfdhnoonjaaSp4
import Derived.Test.YtpgngfdhnoonjaaSm0
import Derived.Test.YtpgngfdhnoonjaaTb2
import Derived.Test.YtpgngfdhnoonjaaLw0
import Derived.Test.YtpgngfdhnoonjaaK0
namespace Go.Proofs.Ytpgngfdhnoonjaa
open Go.ChangeShapes Go.WideShapes Go.ChangeAt Go.RowKit Go.Deep Wire Tb
set_option linter.unusedVariables false
set_option linter.unusedSimpArgs false
theorem sameRows_self (a : Option Addr) (cap n : Nat) (xs : List Rw) (a' : Option Addr) (cap' n' : Nat) (w : World) (hn : xs.length = n) (hm : n ≤ 1048576) (hx : LsAt tyRw w a xs) (hn' : xs.length = n') (hm' : n' ≤ 1048576) (hy : LsAt tyRw w a' xs) :
    Calls Try.prog 17 #[.slice a n cap, .slice a' n' cap'] w fun e w' => e = .returned (.bool true) ∧ Below w.heap.size w w' := by
  have := sameRows_two a cap n xs a' cap' n' xs w hn hm hx hn' hm' hy
  rwa [sameT_self] at this
theorem wf_small {x : Int} (h1 : -1 ≤ x) (h2 : x ≤ 4096) : Wf x := by
  show (Lit.int .i64 x).wf = true
  simp [Lit.wf, IntKind.min, IntKind.max, IntKind.signed, IntKind.bits]
  omega
theorem jn_comm (b d : Int) (ms ns : List Rw) : jnB b d ns ms = jnB b d ms ns ∧ jnL b d ns ms = jnL b d ms ns := by
  cases h : jnB b d ms ns
  · have h2 := jn_back h
    exact ⟨h2, by rw [jnL_no h, jnL_no h2]⟩
  · exact ⟨(joinF h).back, (joinF h).backL⟩
theorem jnL_len (b d : Int) (ms ns : List Rw) : (jnL b d ms ns).length ≤ 8 := by
  cases h : jnB b d ms ns
  · rw [jnL_no h]; simp
  · exact (joinF h).gt.len
theorem riL_len (b d : Int) (ms : List Rw) (f t : Int) : (riL b d ms f t).length ≤ ms.length := by
  cases h : riB b d ms f t
  · rw [riL_no h]; simp
  · rw [riL_yes h]; exact arcF_len
set_option maxRecDepth 100000 in
set_option maxHeartbeats 12800000 in
theorem wFnJoins (a a' : Option Addr) (cap cap' : Nat) (zs ys : List Int) (w : World) (hm : zs.length ≤ maxLen) (hm' : ys.length ≤ maxLen) (hr : RowB w a zs) (hr' : RowB w a' ys) :
    Calls Try.prog 4 #[.slice a zs.length cap, .slice a' ys.length cap'] w fun e w' => e = .returned (.bool true) ∧ Below w.heap.size w w' := by
  have HR0 : Hid (RowB w a zs) := hr
  have HR1 : Hid (RowB w a' ys) := hr'
  clear hr hr'
  cases hbg : bigB zs.length ys.length
  case true =>
    have HG : Hid (bigB zs.length ys.length = true) := hbg
    clear hbg
    go_enter Try.func4, Try.ntmps4
    go_wp2_with (go_at_call 13; refine (big_any _ _ _ _ _ _ _ hm hm').mono ?_; rintro e w1 ⟨rfl, rfl⟩; rw [HG.out])
    go_ret
    exact ⟨rfl, Below.refl _ _⟩
  have HG : Hid (bigB zs.length ys.length = false) := hbg
  obtain ⟨hz1, hz2⟩ := bigB_false hbg
  clear hbg
  go_enter Try.func4, Try.ntmps4
  have BEL_0 : Hid (Below w.heap.size w w) := Below.refl _ _
  go_wp2_with fail
  refine (big_any _ _ _ _ _ _ _ hm hm').mono ?_
  rintro e vx ⟨rfl, hx⟩
  have hx' := hx.symm
  clear hx
  subst hx'
  rw [HG.out]
  go_wp2_with fail
  refine (drawJoin_any a cap zs _ hz1 HR0.out).mono ?_
  rintro e w1 ⟨b, d, ad, nt, ct, ms, ad2, nt2, ct2, ms2, rfl, t1, t2, HW⟩
  have BEL_1 : Hid (Below w.heap.size w w1) := belt BEL_0.out (HW)
  clear BEL_0
  have TA_1 : Hid (TR w1 ad nt ct ms) := t1
  have TB_1 : Hid (TR w1 ad2 nt2 ct2 ms2) := t2
  clear HW
  clear t1 t2
  have hnt : nt ≤ 10 := TA_1.out.le
  have hnt2 : nt2 ≤ 10 := TB_1.out.le
  have CJ1 : ∀ w1, LsAt tyRw w1 ad ms → LsAt tyRw w1 ad2 ms2 → _ := fun w1 h k => JoinTables_own b d ad ct nt ms ad2 ct2 nt2 ms2 w1 TA_1.out.len (by omega) h TB_1.out.len (by omega) k
  have CJ2 : ∀ w1, LsAt tyRw w1 ad ms → LsAt tyRw w1 ad2 ms2 → _ := fun w1 h k => lJoinTables_any b d ad ad2 ct ct2 nt nt2 ms ms2 w1 TA_1.out.len (by omega) TA_1.out.nil h TB_1.out.len (by omega) k
  have CJ3 : ∀ w1, LsAt tyRw w1 ad ms → LsAt tyRw w1 ad2 ms2 → _ := fun w1 h k => JoinTables_own b d ad2 ct2 nt2 ms2 ad ct nt ms w1 TB_1.out.len (by omega) k TA_1.out.len (by omega) h
  obtain ⟨jc1, jc2⟩ := jn_comm b d ms ms2
  rw [jc1, jc2] at CJ3
  clear jc1 jc2
  have HF : Hid (jnB b d ms ms2 = true → JoinF b d ms ms2 (jnL b d ms ms2)) := joinF
  have HPL : Hid ((jnL b d ms ms2).length ≤ 8) := jnL_len _ _ _ _
  generalize jnL b d ms ms2 = P at *
  generalize jnB b d ms ms2 = ok at *
  have hpl := HPL.out
  go_wp2_with fail
  refine (CJ1 _ (TA_1.out.at_.keep (belA _ _)) (TB_1.out.at_.keep (belA _ _))).mono ?_
  rintro e w2 ⟨a3, n3, c3, rfl, hn3, o3, HW⟩
  have BEL_2 : Hid (Below w.heap.size w w2) := belt BEL_1.out (belt (belA _ _) HW)
  have TA_2 : Hid (TR w2 ad nt ct ms) := TA_1.out.keep (belt (belA _ _) HW)
  have TB_2 : Hid (TR w2 ad2 nt2 ct2 ms2) := TB_1.out.keep (belt (belA _ _) HW)
  clear BEL_1 TA_1 TB_1
  have KX_2 : Hid (Bk w2 w1.heap.size #[.int .i64 b, .int .i64 d] 25) := (Bk.new _ _ _).keep HW
  have HP_2 : Hid (LsAt tyRw w2 a3 P) := o3.at
  clear HW
  clear o3
  subst hn3
  obtain ⟨zKX0, zKX1⟩ := Bk.c2 KX_2.out
  go_wp2_with fail
  refine (CJ2 _ TA_2.out.at_ TB_2.out.at_).mono ?_
  rintro e w3 ⟨a4, n4, c4, rfl, hn4, r4, hc4, h04, HW⟩
  clear zKX0 zKX1
  have BEL_3 : Hid (Below w.heap.size w w3) := belt BEL_2.out (HW)
  have TA_3 : Hid (TR w3 ad nt ct ms) := TA_2.out.keep (HW)
  have TB_3 : Hid (TR w3 ad2 nt2 ct2 ms2) := TB_2.out.keep (HW)
  have KX_3 : Hid (Bk w3 w1.heap.size #[.int .i64 b, .int .i64 d] 25) := KX_2.out.keep (HW)
  have HP_3 : Hid (LsAt tyRw w3 a3 P) := HP_2.out.keep (HW)
  clear BEL_2 TA_2 TB_2 KX_2 HP_2
  have HQ_3 : Hid (LsAt tyRw w3 a4 P) := r4
  clear HW
  clear r4 hc4 h04
  have hn4' := hn4.symm
  clear hn4
  subst hn4'
  obtain ⟨zKX0, zKX1⟩ := Bk.c2 KX_3.out
  go_wp2_with fail
  refine (CJ3 _ TA_3.out.at_ TB_3.out.at_).mono ?_
  rintro e w4 ⟨a5, n5, c5, rfl, hn5, o5, HW⟩
  clear zKX0 zKX1
  have BEL_4 : Hid (Below w.heap.size w w4) := belt BEL_3.out (HW)
  have TA_4 : Hid (TR w4 ad nt ct ms) := TA_3.out.keep (HW)
  have TB_4 : Hid (TR w4 ad2 nt2 ct2 ms2) := TB_3.out.keep (HW)
  have KX_4 : Hid (Bk w4 w1.heap.size #[.int .i64 b, .int .i64 d] 25) := KX_3.out.keep (HW)
  have HP_4 : Hid (LsAt tyRw w4 a3 P) := HP_3.out.keep (HW)
  have HQ_4 : Hid (LsAt tyRw w4 a4 P) := HQ_3.out.keep (HW)
  clear BEL_3 TA_3 TB_3 KX_3 HP_3 HQ_3
  have HS_4 : Hid (LsAt tyRw w4 a5 P) := o5.at
  clear HW
  clear o5
  have hn5' := hn5.symm
  clear hn5
  subst hn5'
  clear CJ1 CJ2 CJ3
  have hgb := bne_self_bool ok
  go_wp2_with fail
  refine (sameRows_self a3 c3 P.length P a4 c4 P.length _ rfl (by omega) HP_4.out rfl (by omega) HQ_4.out).mono ?_
  rintro e w5 ⟨rfl, HW⟩
  have BEL_5 : Hid (Below w.heap.size w w5) := belt BEL_4.out (HW)
  have TA_5 : Hid (TR w5 ad nt ct ms) := TA_4.out.keep (HW)
  have TB_5 : Hid (TR w5 ad2 nt2 ct2 ms2) := TB_4.out.keep (HW)
  have KX_5 : Hid (Bk w5 w1.heap.size #[.int .i64 b, .int .i64 d] 25) := KX_4.out.keep (HW)
  have HP_5 : Hid (LsAt tyRw w5 a3 P) := HP_4.out.keep (HW)
  have HQ_5 : Hid (LsAt tyRw w5 a4 P) := HQ_4.out.keep (HW)
  have HS_5 : Hid (LsAt tyRw w5 a5 P) := HS_4.out.keep (HW)
  clear BEL_4 TA_4 TB_4 KX_4 HP_4 HQ_4 HS_4
  clear HW
  go_wp2_with fail
  refine (sameRows_self a5 c5 P.length P a3 c3 P.length _ rfl (by omega) HS_5.out rfl (by omega) HP_5.out).mono ?_
  rintro e w6 ⟨rfl, HW⟩
  have BEL_6 : Hid (Below w.heap.size w w6) := belt BEL_5.out (HW)
  have TA_6 : Hid (TR w6 ad nt ct ms) := TA_5.out.keep (HW)
  have TB_6 : Hid (TR w6 ad2 nt2 ct2 ms2) := TB_5.out.keep (HW)
  have KX_6 : Hid (Bk w6 w1.heap.size #[.int .i64 b, .int .i64 d] 25) := KX_5.out.keep (HW)
  have HP_6 : Hid (LsAt tyRw w6 a3 P) := HP_5.out.keep (HW)
  have HQ_6 : Hid (LsAt tyRw w6 a4 P) := HQ_5.out.keep (HW)
  have HS_6 : Hid (LsAt tyRw w6 a5 P) := HS_5.out.keep (HW)
  clear BEL_5 TA_5 TB_5 KX_5 HP_5 HQ_5 HS_5
  clear HW
  go_upto_if 84 with (fail)
  clear hgb
  go_cut [] (fun wc => Hid (Below w.heap.size w wc))
  case first =>
    cases ok
    · go_wp2_with fail
      go_meet
      exact BEL_6
    · skip
      have F := HF.out rfl
      clear HF
      have CA : ∀ w1, LsAt tyRw w1 a3 P → LsAt tyRw w1 ad ms → _ := fun w1 h k => JoinTables_own b d a3 c3 P.length P ad ct nt ms w1 rfl (by omega) h TA_6.out.len (by omega) k
      rw [F.again, F.againL] at CA
      have CB : ∀ w1, LsAt tyRw w1 a3 P → _ := fun w1 h => JoinTables_own b d a3 c3 P.length P a3 c3 P.length P w1 rfl (by omega) h rfl (by omega) h
      rw [F.same, F.sameL] at CB
      have CK : ∀ w1, LsAt tyRw w1 a3 P → _ := fun w1 h => GoodTable_own b d a3 c3 P.length P w1 rfl (by omega) h
      rw [F.good] at CK
      have HROW : Hid (∀ r ∈ ms ++ ms2, rfB b d P r.x0 = true ∧ r.x1 ≤ (rfV b d P r.x0).x1) := F.row
      have HKEY : Hid (∀ r ∈ ms ++ ms2, 0 ≤ r.x0 ∧ r.x0 ≤ 4096) := F.key
      clear F
      clear HQ_6 HS_6
      obtain ⟨zKX0, zKX1⟩ := Bk.c2 KX_6.out
      go_wp2_with fail
      refine (CA _ HP_6.out TA_6.out.at_).mono ?_
      rintro e w7 ⟨a6, n6, c6, rfl, hn6, o6, HW⟩
      clear zKX0 zKX1
      have BEL_7 : Hid (Below w.heap.size w w7) := belt BEL_6.out (HW)
      have TA_7 : Hid (TR w7 ad nt ct ms) := TA_6.out.keep (HW)
      have TB_7 : Hid (TR w7 ad2 nt2 ct2 ms2) := TB_6.out.keep (HW)
      have KX_7 : Hid (Bk w7 w1.heap.size #[.int .i64 b, .int .i64 d] 25) := KX_6.out.keep (HW)
      have HP_7 : Hid (LsAt tyRw w7 a3 P) := HP_6.out.keep (HW)
      clear BEL_6 TA_6 TB_6 KX_6 HP_6
      have H6_7 : Hid (LsAt tyRw w7 a6 P) := o6.at
      clear HW
      clear o6
      have hn6' := hn6.symm
      clear hn6
      subst hn6'
      obtain ⟨zKX0, zKX1⟩ := Bk.c2 KX_7.out
      go_wp2_with fail
      refine (CB _ HP_7.out).mono ?_
      rintro e w8 ⟨a7, n7, c7, rfl, hn7, o7, HW⟩
      clear zKX0 zKX1
      have BEL_8 : Hid (Below w.heap.size w w8) := belt BEL_7.out (HW)
      have TA_8 : Hid (TR w8 ad nt ct ms) := TA_7.out.keep (HW)
      have TB_8 : Hid (TR w8 ad2 nt2 ct2 ms2) := TB_7.out.keep (HW)
      have KX_8 : Hid (Bk w8 w1.heap.size #[.int .i64 b, .int .i64 d] 25) := KX_7.out.keep (HW)
      have HP_8 : Hid (LsAt tyRw w8 a3 P) := HP_7.out.keep (HW)
      have H6_8 : Hid (LsAt tyRw w8 a6 P) := H6_7.out.keep (HW)
      clear BEL_7 TA_7 TB_7 KX_7 HP_7 H6_7
      have H7_8 : Hid (LsAt tyRw w8 a7 P) := o7.at
      clear HW
      clear o7
      have hn7' := hn7.symm
      clear hn7
      subst hn7'
      obtain ⟨zKX0, zKX1⟩ := Bk.c2 KX_8.out
      go_wp2_with fail
      refine (CK _ HP_8.out).mono ?_
      rintro e w9 ⟨rfl, HW⟩
      clear zKX0 zKX1
      have BEL_9 : Hid (Below w.heap.size w w9) := belt BEL_8.out (HW)
      have TA_9 : Hid (TR w9 ad nt ct ms) := TA_8.out.keep (HW)
      have TB_9 : Hid (TR w9 ad2 nt2 ct2 ms2) := TB_8.out.keep (HW)
      have KX_9 : Hid (Bk w9 w1.heap.size #[.int .i64 b, .int .i64 d] 25) := KX_8.out.keep (HW)
      have HP_9 : Hid (LsAt tyRw w9 a3 P) := HP_8.out.keep (HW)
      have H6_9 : Hid (LsAt tyRw w9 a6 P) := H6_8.out.keep (HW)
      have H7_9 : Hid (LsAt tyRw w9 a7 P) := H7_8.out.keep (HW)
      clear BEL_8 TA_8 TB_8 KX_8 HP_8 H6_8 H7_8
      clear HW
      go_wp2_with fail
      refine (sameRows_self a6 c6 P.length P a3 c3 P.length _ rfl (by omega) H6_9.out rfl (by omega) HP_9.out).mono ?_
      rintro e w10 ⟨rfl, HW⟩
      have BEL_10 : Hid (Below w.heap.size w w10) := belt BEL_9.out (HW)
      have TA_10 : Hid (TR w10 ad nt ct ms) := TA_9.out.keep (HW)
      have TB_10 : Hid (TR w10 ad2 nt2 ct2 ms2) := TB_9.out.keep (HW)
      have KX_10 : Hid (Bk w10 w1.heap.size #[.int .i64 b, .int .i64 d] 25) := KX_9.out.keep (HW)
      have HP_10 : Hid (LsAt tyRw w10 a3 P) := HP_9.out.keep (HW)
      have H6_10 : Hid (LsAt tyRw w10 a6 P) := H6_9.out.keep (HW)
      have H7_10 : Hid (LsAt tyRw w10 a7 P) := H7_9.out.keep (HW)
      clear BEL_9 TA_9 TB_9 KX_9 HP_9 H6_9 H7_9
      clear HW
      go_wp2_with fail
      refine (sameRows_self a7 c7 P.length P a3 c3 P.length _ rfl (by omega) H7_10.out rfl (by omega) HP_10.out).mono ?_
      rintro e w11 ⟨rfl, HW⟩
      have BEL_11 : Hid (Below w.heap.size w w11) := belt BEL_10.out (HW)
      have TA_11 : Hid (TR w11 ad nt ct ms) := TA_10.out.keep (HW)
      have TB_11 : Hid (TR w11 ad2 nt2 ct2 ms2) := TB_10.out.keep (HW)
      have KX_11 : Hid (Bk w11 w1.heap.size #[.int .i64 b, .int .i64 d] 25) := KX_10.out.keep (HW)
      have HP_11 : Hid (LsAt tyRw w11 a3 P) := HP_10.out.keep (HW)
      have H6_11 : Hid (LsAt tyRw w11 a6 P) := H6_10.out.keep (HW)
      have H7_11 : Hid (LsAt tyRw w11 a7 P) := H7_10.out.keep (HW)
      clear BEL_10 TA_10 TB_10 KX_10 HP_10 H6_10 H7_10
      clear HW
      clear H6_11 H7_11
      clear CA CB CK
      have HL0 : Hid (OwR w11.heap.size (w11.alloc (.cells #[] 37)) (.slice (some ⟨w11.heap.size, 0, none⟩) 0 0) []) := own_lit4 w11 (Nat.le_refl _)
      have hrA := TA_11.out.at_.keep (belA w11 (.cells #[] 37))
      have hlA := TA_11.out.len
      have h0A := TA_11.out.nil
      have hlB := TB_11.out.len
      have h0B := TB_11.out.nil
      go_wp2_with (first | (at_builtin; refine wpList_app rfl _ _ rfl w11.heap.size _ [] rfl HL0.out ad nt ct ms rfl hlA hrA h0A (by simp) (by omega) (by simp) ?_; intro v20 w20 hown hgrow; have hO20 : OwR w11.heap.size w20 v20 ms := hown; have hb20 : Below w11.heap.size w11 w20 := grown_bel' (belA w11 (.cells #[] 37)) hgrow (by simp) (fun k hk => by have h2 : some w11.heap.size = some k := hk; cases h2; exact Nat.le_refl _); clear hown hgrow) | (at_builtin; refine wpList_app rfl _ _ rfl w11.heap.size v20 ms rfl hO20 ad2 nt2 ct2 ms2 rfl hlB (TB_11.out.at_.keep hb20) h0B (by omega) (by omega) hb20.size ?_; intro v21 w21 hown hgrow; have hO21 : OwR w11.heap.size w21 v21 (ms ++ ms2) := hown; have hb21 : Below w11.heap.size w11 w21 := grown_bel' hb20 hgrow hb20.size (fun k hk => hO20.lo k hk); obtain ⟨a21, c21, rfl⟩ := hO21.slice; clear hown hgrow) | fail)
      have HLN : Hid ((ms ++ ms2).length = nt + nt2) := by unfold Hid; rw [List.length_append, hlA, hlB]
      have HO21 : Hid (OwR w11.heap.size w21 (.slice a21 (ms ++ ms2).length c21) (ms ++ ms2)) := hO21
      have BEL_21 : Hid (Below w.heap.size w w21) := belt BEL_11.out hb21
      have KX_21 : Hid (Bk w21 w1.heap.size #[.int .i64 b, .int .i64 d] 25) := KX_11.out.keep hb21
      have HP_21 : Hid (LsAt tyRw w21 a3 P) := HP_11.out.keep hb21
      clear HL0 hrA hlA h0A hlB h0B hO20 hb20 hO21 hb21 BEL_11 TA_11 TB_11 KX_11 HP_11
      generalize ms ++ ms2 = L at *
      go_loopw [129] (fun vi wr => ∃ i : Nat, i ≤ nt + nt2 ∧ vi = .int .i64 i ∧ Hid (Below w21.heap.size w21 wr)) (fun vi _ => nt + nt2 - (intOf vi).toNat)
      case atStart => exact ⟨0, Nat.zero_le _, rfl, Below.refl _ _⟩
      case round =>
        obtain ⟨i, hi, rfl, bb⟩ := hrel
        by_cases hlt0 : i < nt + nt2
        · have hlt : i < L.length := by rw [HLN.out]; exact hlt0
          obtain ⟨g, o, c, hv, _, hl21, _, _⟩ := HO21.out.open (by omega)
          cases hv
          obtain ⟨_, hcr⟩ := rwAt_cell (hl21.keep bb.out) hlt
          obtain ⟨e0, e1, e2, e3⟩ := CellsAt.rw hcr
          have hmem : L.getD i rw0 ∈ L := by rw [getD_at hlt]; exact List.getElem_mem hlt
          obtain ⟨hf1, hf2⟩ := HROW.out _ hmem
          obtain ⟨hk1, hk2⟩ := HKEY.out _ hmem
          clear hmem hl21 hcr
          generalize L.getD i rw0 = r at e0 e1 e2 e3 hf1 hf2 hk1 hk2
          clear hlt
          obtain ⟨r0, r1, r2, rb⟩ := r
          dsimp only at e0 e1 e2 e3 hf1 hf2 hk1 hk2
          have hbr := belt bb.out (belA wr (.cells #[.int .i64 r0, .int .i64 r1, .int .i64 r2, .bool rb] 37))
          have CR := RowFor_own b d a3 c3 P.length P r0 _ rfl (by omega) (HP_21.out.keep hbr) (wf_small (by omega) hk2)
          rw [hf1] at CR
          generalize rfV b d P r0 = q at CR hf2
          obtain ⟨q0, q1, q2, qb⟩ := q
          dsimp only at CR hf2
          have hdq : decide (q1 < r1) = false := decide_eq_false (by omega)
          obtain ⟨z0, z1⟩ := Bk.c2 (KX_21.out.keep hbr)
          have KR : Hid (Bk (wr.alloc (.cells #[.int .i64 r0, .int .i64 r1, .int .i64 r2, .bool rb] 37)) wr.heap.size #[.int .i64 r0, .int .i64 r1, .int .i64 r2, .bool rb] 37) := Bk.new _ _ _
          have HBR : Hid (Below w21.heap.size w21 (wr.alloc (.cells #[.int .i64 r0, .int .i64 r1, .int .i64 r2, .bool rb] 37))) := hbr
          clear hf1 hf2 hbr hk1 hk2
          skip
          go_wp2_with fail
          refine CR.mono ?_
          rintro e w22 ⟨rfl, HW⟩
          have KR2 : Hid (Bk (w22.alloc (.cells #[.int .i64 q0, .int .i64 q1, .int .i64 q2, .bool qb] 37)) wr.heap.size #[.int .i64 r0, .int .i64 r1, .int .i64 r2, .bool rb] 37) := (KR.out.keep HW).keep (belA _ _)
          have bb2 : Hid (Below w21.heap.size w21 (w22.alloc (.cells #[.int .i64 q0, .int .i64 q1, .int .i64 q2, .bool qb] 37))) := belt HBR.out (belt HW (belA _ _))
          obtain ⟨_, kr1, _, _⟩ := Bk.c4 KR2.out
          clear CR z0 z1 e0 e1 e2 e3 HW KR HBR
          go_wp2
          go_roundw
          case rel => exact ⟨i + 1, by omega, by go_num, bb2⟩
          case measure => simp [intOf]; omega
        · have BEL_23 : Hid (Below w.heap.size w wr) := belt BEL_21.out bb.out
          go_wp2
          go_meet
          exact BEL_23
  case rest =>
    have BEL_30 : Hid (Below w.heap.size w wc) := hcut
    clear hcut HF HPL hpl BEL_6 TA_6 TB_6 KX_6 HP_6 HQ_6 HS_6
    generalize wc = w30 at *
    go_wp2_with fail
    skip
    refine (drawRowsIn_any a' cap' ys _ hz2 (HR1.out.keep BEL_30.out)).mono ?_
    rintro e w31 ⟨b2, d2, f, t, ad5, nt5, ct5, ms5, rfl, tt, HW⟩
    have BEL_31 : Hid (Below w.heap.size w w31) := belt BEL_30.out (HW)
    clear BEL_30
    have TT_31 : Hid (TR w31 ad5 nt5 ct5 ms5) := tt
    clear HW
    clear tt
    have hnt5 : nt5 ≤ 10 := TT_31.out.le
    have hl5 : ms5.length = nt5 := TT_31.out.len
    have CR1 : ∀ w1, LsAt tyRw w1 ad5 ms5 → _ := fun w1 h => RowsIn_own b2 d2 ad5 ct5 nt5 ms5 f t w1 hl5 (by omega) h
    have CR2 : ∀ w1, LsAt tyRw w1 ad5 ms5 → _ := fun w1 h => lRowsIn_any b2 d2 ad5 ct5 nt5 ms5 f t w1 hl5 (by omega) h
    have CR3 : ∀ w1, LsAt tyRw w1 ad5 ms5 → _ := fun w1 h => RowsIn_own b2 d2 ad5 ct5 nt5 ms5 t f w1 hl5 (by omega) h
    have HF2 : Hid (riB b2 d2 ms5 f t = true → ¬ f = t → ArcF b2 d2 ms5 f t) := arcF2
    have HL1 : Hid ((riL b2 d2 ms5 f t).length ≤ 10) := Nat.le_trans (riL_len _ _ _ _ _) (by omega)
    have HL2 : Hid ((riL b2 d2 ms5 t f).length ≤ 10) := Nat.le_trans (riL_len _ _ _ _ _) (by omega)
    have HF3 : Hid (riB b2 d2 ms5 f t = true → ¬ f = t → riB b2 d2 ms5 t f = true ∧ jnB b2 d2 (riL b2 d2 ms5 f t) (riL b2 d2 ms5 t f) = true ∧ jnL b2 d2 (riL b2 d2 ms5 f t) (riL b2 d2 ms5 t f) = ms5) := fun h k => ⟨(arcF2 h k).back, (arcF2 h k).both, (arcF2 h k).bothL⟩
    clear HF2 hl5
    generalize riL b2 d2 ms5 f t = L at *
    generalize riL b2 d2 ms5 t f = M at *
    generalize riB b2 d2 ms5 f t = ok at *
    generalize riB b2 d2 ms5 t f = ok2 at *
    have hL1 := HL1.out
    have hL2 := HL2.out
    have hgb := bne_self_bool ok
    go_wp2_with fail
    refine (CR1 _ (TT_31.out.at_.keep (belA _ _))).mono ?_
    rintro e w32 ⟨a6, n6, c6, rfl, hn6, o6, HW⟩
    have BEL_32 : Hid (Below w.heap.size w w32) := belt BEL_31.out (belt (belA _ _) HW)
    have TT_32 : Hid (TR w32 ad5 nt5 ct5 ms5) := TT_31.out.keep (belt (belA _ _) HW)
    clear BEL_31 TT_31
    have KX_32 : Hid (Bk w32 w31.heap.size #[.int .i64 b2, .int .i64 d2] 25) := (Bk.new _ _ _).keep HW
    have HP_32 : Hid (LsAt tyRw w32 a6 L) := o6.at
    clear HW
    clear o6
    subst hn6
    obtain ⟨zKX0, zKX1⟩ := Bk.c2 KX_32.out
    go_wp2_with fail
    refine (CR2 _ TT_32.out.at_).mono ?_
    rintro e w33 ⟨a7, n7, c7, rfl, hn7, r7, hc7, h07, HW⟩
    clear zKX0 zKX1
    have BEL_33 : Hid (Below w.heap.size w w33) := belt BEL_32.out (HW)
    have TT_33 : Hid (TR w33 ad5 nt5 ct5 ms5) := TT_32.out.keep (HW)
    have KX_33 : Hid (Bk w33 w31.heap.size #[.int .i64 b2, .int .i64 d2] 25) := KX_32.out.keep (HW)
    have HP_33 : Hid (LsAt tyRw w33 a6 L) := HP_32.out.keep (HW)
    clear BEL_32 TT_32 KX_32 HP_32
    have HQ_33 : Hid (LsAt tyRw w33 a7 L) := r7
    clear HW
    clear r7 hc7 h07
    have hn7' := hn7.symm
    clear hn7
    subst hn7'
    clear CR1 CR2
    go_wp2_with fail
    refine (sameRows_self a6 c6 L.length L a7 c7 L.length _ rfl (by omega) HP_33.out rfl (by omega) HQ_33.out).mono ?_
    rintro e w34 ⟨rfl, HW⟩
    have BEL_34 : Hid (Below w.heap.size w w34) := belt BEL_33.out (HW)
    have TT_34 : Hid (TR w34 ad5 nt5 ct5 ms5) := TT_33.out.keep (HW)
    have KX_34 : Hid (Bk w34 w31.heap.size #[.int .i64 b2, .int .i64 d2] 25) := KX_33.out.keep (HW)
    have HP_34 : Hid (LsAt tyRw w34 a6 L) := HP_33.out.keep (HW)
    have HQ_34 : Hid (LsAt tyRw w34 a7 L) := HQ_33.out.keep (HW)
    clear BEL_33 TT_33 KX_33 HP_33 HQ_33
    clear HW
    clear hgb
    clear HQ_34
    cases ok
    · go_wp2
      go_ret
      exact ⟨rfl, BEL_34.out⟩
    · by_cases hft : f = t
      · have hne : (f != t) = false := by rw [hft]; simp
        clear hft
        go_wp2
        go_ret
        exact ⟨rfl, BEL_34.out⟩
      · obtain ⟨hk2, hjb, hjl⟩ := HF3.out rfl hft
        have hne : (f != t) = true := by simpa using hft
        clear HF3 hft
        rw [hk2] at CR3
        clear hk2
        obtain ⟨zKX0, zKX1⟩ := Bk.c2 KX_34.out
        go_wp2_with fail
        refine (CR3 _ TT_34.out.at_).mono ?_
        rintro e w35 ⟨a8, n8, c8, rfl, hn8, o8, HW⟩
        clear zKX0 zKX1
        have BEL_35 : Hid (Below w.heap.size w w35) := belt BEL_34.out (HW)
        have TT_35 : Hid (TR w35 ad5 nt5 ct5 ms5) := TT_34.out.keep (HW)
        have KX_35 : Hid (Bk w35 w31.heap.size #[.int .i64 b2, .int .i64 d2] 25) := KX_34.out.keep (HW)
        have HP_35 : Hid (LsAt tyRw w35 a6 L) := HP_34.out.keep (HW)
        clear BEL_34 TT_34 KX_34 HP_34
        have HM_35 : Hid (LsAt tyRw w35 a8 M) := o8.at
        clear HW
        clear o8
        subst hn8
        have CJ : ∀ w1, LsAt tyRw w1 a6 L → LsAt tyRw w1 a8 M → _ := fun w1 h k => JoinTables_own b2 d2 a6 c6 L.length L a8 c8 M.length M w1 rfl (by omega) h rfl (by omega) k
        rw [hjb, hjl] at CJ
        clear hjb hjl CR3
        obtain ⟨zKX0, zKX1⟩ := Bk.c2 KX_35.out
        go_wp2_with fail
        refine (CJ _ HP_35.out HM_35.out).mono ?_
        rintro e w36 ⟨a9, n9, c9, rfl, hn9, o9, HW⟩
        clear zKX0 zKX1
        have BEL_36 : Hid (Below w.heap.size w w36) := belt BEL_35.out (HW)
        have TT_36 : Hid (TR w36 ad5 nt5 ct5 ms5) := TT_35.out.keep (HW)
        have KX_36 : Hid (Bk w36 w31.heap.size #[.int .i64 b2, .int .i64 d2] 25) := KX_35.out.keep (HW)
        have HP_36 : Hid (LsAt tyRw w36 a6 L) := HP_35.out.keep (HW)
        have HM_36 : Hid (LsAt tyRw w36 a8 M) := HM_35.out.keep (HW)
        clear BEL_35 TT_35 KX_35 HP_35 HM_35
        have H9_36 : Hid (LsAt tyRw w36 a9 ms5) := o9.at
        clear HW
        have HN9 : Hid (ms5.length = n9) := hn9
        have HN5 : Hid (ms5.length = nt5) := TT_36.out.len
        have hb9 : n9 ≤ 10 := by have h1 := HN9.out; have h2 := HN5.out; omega
        clear o9 hn9
        go_wp2_with fail
        refine (sameRows_self a9 c9 n9 ms5 ad5 ct5 nt5 _ HN9.out (by omega) H9_36.out HN5.out (by omega) TT_36.out.at_).mono ?_
        rintro e w37 ⟨rfl, HW⟩
        have BEL_37 : Hid (Below w.heap.size w w37) := belt BEL_36.out (HW)
        have TT_37 : Hid (TR w37 ad5 nt5 ct5 ms5) := TT_36.out.keep (HW)
        have KX_37 : Hid (Bk w37 w31.heap.size #[.int .i64 b2, .int .i64 d2] 25) := KX_36.out.keep (HW)
        have HP_37 : Hid (LsAt tyRw w37 a6 L) := HP_36.out.keep (HW)
        have HM_37 : Hid (LsAt tyRw w37 a8 M) := HM_36.out.keep (HW)
        have H9_37 : Hid (LsAt tyRw w37 a9 ms5) := H9_36.out.keep (HW)
        clear BEL_36 TT_36 KX_36 HP_36 HM_36 H9_36
        clear HW
        go_wp2
        go_ret
        exact ⟨rfl, BEL_37.out⟩
set_option maxRecDepth 100000 in
theorem fnJoins_lifted (os : Os) (started : os.Started) (H : Type) (enc : TypeId × Value → H) :
    ReturnsInHanded {} Try.checked os 4 .any (Rows.fnJoinsSpec.pre6 enc Try.prog Try.f4 Rows.fnJoinsRow.domain false) (Rows.fnJoinsSpec.post enc Try.prog Try.f4 false true false false) := by
  refine returnsInHanded_of_change (C := Try.checked) own started (by kernel_rfl) Try.func4
    (ChangeSpec.witness6 (enc := enc) (C := Try.checked) false ⟨#[], #[.slice none 0 0, .slice none 0 0], []⟩ 8 (by kernel_rfl) (by kernel_rfl) (by kernel_rfl) (by kernel_rfl)) ?_
  intro W base args ds gs before hval0 hW hcnd _
  have hval : ∀ (j : Nat) t v, Try.f4.params[j]? = some t → args[j]? = some v → Value.okWide Try.prog W .any base t v := hval0
  have hW' := hW
  obtain ⟨p, q, hA0, hV, rfl, hfz, hnd⟩ := hW
  have hA : DataW.TrodAll enc Try.prog W 0 (fun _ => true) true Try.f4.params.toList args.toList ds p := hA0
  rw [Try.params4] at hA hval
  obtain ⟨v0, vs0, d0, ds0, p0, q0, hargs, rfl, rfl, h0, r0⟩ := trodAll_cons hA
  obtain ⟨v1, vs1, d1, ds1, p1, q1, rfl, rfl, rfl, h1, r1⟩ := trodAll_cons r0
  obtain ⟨rfl, rfl, rfl⟩ := trodAll_nil r1
  obtain rfl : args = #[v0, v1] := by cases args; simp_all
  obtain ⟨rfl, rfl⟩ := trodVars_none hV
  obtain ⟨a0, len0, cap0, rfl⟩ := okWide_slice Try.underlying22 (hval 0 22 v0 rfl rfl)
  have k0 := h0
  have lt0 : ∀ x ∈ p0, x.block < W.heap.size := by obtain ⟨m, hm⟩ := k0; exact DataW.trod_lt m _ _ _ hm
  obtain ⟨z0, w0⟩ : ∃ zs, IsRowU W a0 len0 cap0 zs := by
    obtain ⟨fuel, hf⟩ := h0
    rcases open_ints Try.underlying22 Try.underlying5 (by kernel_rfl) hf with ⟨hcs, _⟩ | ⟨x, l, c, zs, hcs, _, hl, hm, hz, _, hcell, hwz⟩
    · simp [Value.cells] at hcs
      obtain ⟨rfl, rfl, rfl⟩ := hcs
      exact ⟨[], .inl ⟨rfl, rfl, rfl, rfl⟩⟩
    · simp [Value.cells] at hcs
      obtain ⟨rfl, rfl, rfl⟩ := hcs
      exact ⟨zs, .inr ⟨_, rfl, hl, hm, by simpa using hz, hcell, hwz⟩⟩
  obtain ⟨a1, len1, cap1, rfl⟩ := okWide_slice Try.underlying22 (hval 1 22 v1 rfl rfl)
  have k1 := h1
  have lt1 : ∀ x ∈ p1, x.block < W.heap.size := by obtain ⟨m, hm⟩ := k1; exact DataW.trod_lt m _ _ _ hm
  obtain ⟨z1, w1⟩ : ∃ zs, IsRowU W a1 len1 cap1 zs := by
    obtain ⟨fuel, hf⟩ := h1
    rcases open_ints Try.underlying22 Try.underlying5 (by kernel_rfl) hf with ⟨hcs, _⟩ | ⟨x, l, c, zs, hcs, _, hl, hm, hz, _, hcell, hwz⟩
    · simp [Value.cells] at hcs
      obtain ⟨rfl, rfl, rfl⟩ := hcs
      exact ⟨[], .inl ⟨rfl, rfl, rfl, rfl⟩⟩
    · simp [Value.cells] at hcs
      obtain ⟨rfl, rfl, rfl⟩ := hcs
      exact ⟨zs, .inr ⟨_, rfl, hl, hm, by simpa using hz, hcell, hwz⟩⟩
  clear hA0 hval0
  obtain ⟨y0, e0, m0, q0⟩ := isRowU_rowB w0
  obtain ⟨y1, e1, m1, q1⟩ := isRowU_rowB w1
  subst e0 e1
  refine (wFnJoins a0 a1 cap0 cap1 y0 y1 W m0 m1 q0 q1).mono fun e W' ⟨he, bel⟩ => ?_
  subst he
  exact ⟨_, rfl, _, _, _, [], _, [], hW', trodAll_mk1 (shut_bool Try.underlying4 _), (trodAll_cons_mk (Below.trod laidOut (by kernel_rfl) (of_decide_eq_true (by kernel_rfl)) k0 bel lt0) (trodAll_cons_mk (Below.trod laidOut (by kernel_rfl) (of_decide_eq_true (by kernel_rfl)) k1 bel lt1) trodAll_mk0)), rfl, bel.frame _, fun h => by cases h⟩

theorem fnJoins_holds : Rows.FnJoinsSaid :=
  OpenClaim.holds_of_wide 4 Try.f4 rfl rfl rfl rfl rfl rfl rfl ⟨rfl, rfl, rfl, rfl, rfl⟩ rfl rfl rfl rfl rfl (by kernel_rfl) Try.func4 (by kernel_rfl)
    (of_decide_eq_true (by kernel_rfl)) (by unfold Func.isWrapper; first | (rw [if_pos (by decide +kernel)]; kernel_rfl) | (rw [if_neg (by decide +kernel)]; exact ⟨rfl, rfl⟩))
    (fun os started H enc _ => fnJoins_lifted os started H enc)
#print axioms fnJoins_holds
end Go.Proofs.Ytpgngfdhnoonjaa
