/- FnSetPoints: for all bytes that are drawn from, SetPoint answers as the specification, sets one pointer alone and leaves good peers, and CrowdOf answers as the specification, from none to all members: no condition. -/
import Derived.Test.YtgmdbihdnacpjaaZ0
import Derived.Test.YtgmdbihdnacpjaaZ1
import Derived.Test.YtgmdbihdnacpjaaZ2
import Derived.Test.YtgmdbihdnacpjaaZ3
import Derived.Test.YtgmdbihdnacpjaaZ4
import Derived.Test.YtgmdbihdnacpjaaZ5
import Derived.Test.YtgmdbihdnacpjaaZ6
namespace Go.Proofs.Ytgmdbihdnacpjaa
open Go.ChangeShapes Go.WideShapes Go.ChangeAt Go.RowKit
set_option linter.unusedVariables false
/-- the second half: a ring is drawn, and its crowd is told alike -/
theorem crwV_bd (b d : Int) (zs : List Int) : 0 ≤ crwV b d zs ∧ crwV b d zs ≤ zs.length := by
  unfold crwV
  split
  · have := crw_le b d zs zs.length
    omega
  · omega
set_option maxRecDepth 100000 in
set_option maxHeartbeats 25600000 in
theorem wFnSetPoints (a a' : Option Addr) (cap cap' : Nat) (xs ys : List Int) (w : World) (hx : xs.length ≤ maxLen) (hy : ys.length ≤ maxLen) (hr1 : RowB w a xs) (hr2 : RowB w a' ys) :
    Calls Try.prog 3 #[.slice a xs.length cap, .slice a' ys.length cap'] w fun e w' => e = .returned (.bool true) ∧ Below w.heap.size w w' := by
  have HX : Hid (xs.length ≤ maxLen) := hx
  have HY : Hid (ys.length ≤ maxLen) := hy
  have HR1 : Hid (RowB w a xs) := hr1
  have HR2 : Hid (RowB w a' ys) := hr2
  clear hx hy hr1 hr2
  cases hbig : bigB xs.length ys.length
  · have hnb := of_decide_eq_false hbig
    have hm1 : xs.length ≤ 1048576 := by omega
    have hm2 : ys.length ≤ 1048576 := by omega
    clear hnb
    have CB := big_any a a' xs.length ys.length cap cap' w HX.out HY.out
    rw [hbig] at CB
    go_enter Try.func3, Try.ntmps3
    go_wp2_with fail
    refine CB.mono ?_
    rintro e w0 ⟨rfl, hw0⟩
    replace hw0 := hw0.symm
    subst hw0
    clear CB hbig
    go_wp2_with fail
    refine (drawSetPoint_any _ _ xs _ hm1 HR1.out).mono ?_
    rintro e w1 ⟨b, d, ap, cp, ps, x, pt, ab, cb, bs, rfl, pp1, l16, few, rb1, l4, hnb, hw1⟩
    have HP1 : Hid (PeersAt w1 ap ps) := pp1
    have HB1 : Hid (RowAt w1 ab bs) := rb1
    have HN1 : Hid (ab = none → cb = 0) := hnb
    have BE1 : Hid (Below w.heap.size w w1) := hw1
    clear pp1 rb1 hw1 hnb few
    go_wp2_with fail
    refine (SetPoint_own b d ap cp ps x pt ab cb bs _ (by omega) (HP1.out.keep (belA _ _)) (by omega) (HB1.out.keep (belA _ _))).mono ?_
    rintro e w2 ⟨bg, dg, ag, ng, cg, rfl, hng, hbg, og, HW⟩
    have BP2 : Hid (BxV w1 w2 #[.int .i64 b, .int .i64 d, .slice ap ps.length cp] 28) := bxV1 HW
    have B12 : Hid (Below w1.heap.size w1 w2) := belt (belA _ _) HW
    have HG2 : Hid (PeersAt w2 ag (spR b d ps x pt bs)) := og.peersAt
    have HNG : Hid ((spR b d ps x pt bs).length = ng) := hng
    have HBG : Hid ((bg, dg) = spcOf (spOk b d ps x pt bs) b d) := hbg
    clear HW og hng hbg
    obtain ⟨p0, p1, p2⟩ := BP2.out.c3
    have lp := BP2.out.lt
    go_wp2_with fail
    refine (lSetPoint_own2 b d ap cp ps x pt ab cb bs _ (by omega) (HP1.out.keep (belt B12.out (belA _ _))) (by omega) (HB1.out.keep (belt B12.out (belA _ _))) HN1.out).mono ?_
    rintro e w3 ⟨bw, dw, aw, nw, cw, rfl, hnw, hbw, ow, HW⟩
    have BQ3 : Hid (BxV w2 w3 #[.int .i64 bg, .int .i64 dg, .slice ag ng cg] 28) := bxV1 HW
    have B23 : Hid (Below w2.heap.size w2 w3) := belt (belA _ _) HW
    have BP3 : Hid (BxV w1 w3 #[.int .i64 b, .int .i64 d, .slice ap ps.length cp] 28) := BP2.out.keep B23.out
    have HW3 : Hid (PeersAt w3 aw (spR b d ps x pt bs)) := ow
    have en : ng = nw := by rw [← HNG.out, ← hnw]
    subst en
    have ef : bg = bw ∧ dg = dw := by have := HBG.out.trans hbw.symm; simpa using this
    obtain ⟨rfl, rfl⟩ := ef
    clear HW ow hnw hbw p0 p1 p2 lp BP2
    have hn16 : ng ≤ 1048576 := by have := spR_big b d ps x pt bs; rw [HNG.out] at this; omega
    have hgb := bne_self_bool (spOk b d ps x pt bs)
    obtain ⟨g0, g1, g2⟩ := BQ3.out.c3
    have lq := BQ3.out.lt
    have CSP := samePeers_self bg dg ag aw cg cw ng (spR b d ps x pt bs) (w3.alloc (.cells #[.int .i64 bg, .int .i64 dg, .slice aw ng cw] 28)) HNG.out (by unfold maxLen; omega) (HG2.out.keep (belt B23.out (belA _ _))) (HW3.out.keep (belA _ _))
    go_wp2_with fail
    refine CSP.mono ?_
    rintro e w4 ⟨rfl, HW⟩
    have B34 : Hid (Below w3.heap.size w3 w4) := belt (belA _ _) HW
    have B24 : Hid (Below w2.heap.size w2 w4) := belt B23.out B34.out
    have B14 : Hid (Below w1.heap.size w1 w4) := belt B12.out B24.out
    have BQ4 : Hid (BxV w2 w4 #[.int .i64 bg, .int .i64 dg, .slice ag ng cg] 28) := BQ3.out.keep B34.out
    have BP4 : Hid (BxV w1 w4 #[.int .i64 b, .int .i64 d, .slice ap ps.length cp] 28) := BP3.out.keep B34.out
    have BE4 : Hid (Below w.heap.size w w4) := belt BE1.out B14.out
    have HG4 : Hid (PeersAt w4 ag (spR b d ps x pt bs)) := HG2.out.keep B24.out
    have HP4 : Hid (PeersAt w4 ap ps) := HP1.out.keep B14.out
    have HB4 : Hid (RowAt w4 ab bs) := HB1.out.keep B14.out
    clear HW CSP g0 g1 g2 lq B34 B24 B14 BQ3 BP3 BE1 HG2 HP1 HB1 HW3 B12 B23
    cases hok : spOk b d ps x pt bs
    · have BEC : Hid (Below w.heap.size w w4) := BE4
      clear BE4 BQ4 BP4 HG4 HP4 HB4 HNG HBG hgb hn16
      go_wp2_with fail
      refine (drawCrowd_any _ _ ys _ hm2 (HR2.out.keep BEC.out)).mono ?_
      rintro e w7 ⟨b2, d2, v7, rfl, sq7, hw7⟩
      have BE7 : Hid (Below w.heap.size w w7) := belt BEC.out hw7
      obtain ⟨a2, c2, ms2, rfl, l2, hrm, _⟩ := sq7
      have HRM : Hid (RowAt w7 a2 ms2) := hrm
      clear hrm hw7 BEC
      have hmx : Hid (ms2.length ≤ maxLen) := by unfold Hid maxLen; omega
      go_wp2_with fail
      refine (CrowdOf_any b2 d2 a2 c2 ms2 _ hmx.out (HRM.out.alloc _)).mono ?_
      rintro e w8 ⟨rfl, HW⟩
      have BX8 : Hid (BxV w7 w8 #[.int .i64 b2, .int .i64 d2] 25) := bxV1 HW
      have B78 : Hid (Below w7.heap.size w7 w8) := belt (belA _ _) HW
      obtain ⟨s0, s1⟩ := BX8.out.c2
      clear HW
      go_wp2_with fail
      refine (lCrowdOf_any b2 d2 a2 c2 ms2 _ hmx.out (HRM.out.keep B78.out)).mono ?_
      rintro e w9 ⟨rfl, HW⟩
      have BE9 : Hid (Below w.heap.size w w9) := belt (belt BE7.out B78.out) HW
      obtain ⟨v1, v2⟩ := crwV_bd b2 d2 ms2
      clear HW s0 s1 BX8 B78
      generalize crwV b2 d2 ms2 = cv at v1 v2
      cases ringB b2 d2 ms2
      · go_wp2
        go_ret
        exact ⟨ret_bool (by simp), BE9.out⟩
      · go_wp2
        go_ret
        exact ⟨ret_bool (by simp <;> omega), BE9.out⟩
    · have hR : spR b d ps x pt bs = spL ps x pt bs := by unfold spR; rw [hok]; rfl
      have hpr := spOk_parts hok
      have hgood := spL_good hok
      rw [hR] at HG4 HNG
      have hbd : bg = b ∧ dg = d := by have := HBG.out; rw [hok] at this; simpa [spcOf] using this
      obtain ⟨rfl, rfl⟩ := hbd
      have hnl : ng = ps.length := by rw [← HNG.out, spL_len]
      subst hnl
      have CG := GoodPeers_any bg dg ag cg (spL ps x pt bs) w4 (by rw [spL_len]; omega) HG4.out
      rw [spL_len, hgood] at CG
      obtain ⟨g0, g1, g2⟩ := BQ4.out.c3
      go_wp2_with fail
      refine CG.mono ?_
      rintro e w5 ⟨rfl, HW⟩
      have BQ5 : Hid (BxV w2 w5 #[.int .i64 bg, .int .i64 dg, .slice ag ps.length cg] 28) := BQ4.out.keep HW
      have BP5 : Hid (BxV w1 w5 #[.int .i64 bg, .int .i64 dg, .slice ap ps.length cp] 28) := BP4.out.keep HW
      have BE5 : Hid (Below w.heap.size w w5) := belt BE4.out HW
      have HG5 : Hid (PeersAt w5 ag (spL ps x pt bs)) := HG4.out.keep HW
      have HP5 : Hid (PeersAt w5 ap ps) := HP4.out.keep HW
      have HB5 : Hid (RowAt w5 ab bs) := HB4.out.keep HW
      clear CG HW BQ4 BP4 BE4 HG4 HP4 HB4 g0 g1 g2 hgood hR HBG HNG hgb
      obtain ⟨g0, g1, g2⟩ := BQ5.out.c3
      go_wp2_with fail
      clear g0 g1 g2
      go_loopw [63] (fun vi wr => ∃ k : Nat, k ≤ ps.length ∧ vi = .int .i64 k ∧ Hid (Below w5.heap.size w5 wr)) (fun vi _ => ps.length - (intOf vi).toNat)
      case atStart => exact ⟨0, Nat.zero_le _, rfl, Below.refl _ _⟩
      case round =>
        obtain ⟨k, hk, rfl, BL⟩ := hrel
        by_cases hlt : k < ps.length
        · have hlq : k < (spL ps x pt bs).length := by rw [spL_len]; exact hlt
          obtain ⟨bkq, offq, rfl⟩ := peersAt_form HG5.out (by omega)
          obtain ⟨bkp, offp, rfl⟩ := peersAt_form HP5.out (by omega)
          obtain ⟨hbq, hpq⟩ := peersAt_cell (HG5.out.keep BL.out) (by omega)
          obtain ⟨hbp, hpp⟩ := peersAt_cell (HP5.out.keep BL.out) (by omega)
          obtain ⟨c0, c1, c2, aq, cq, c3, hrq, hmq, _⟩ := hpq k hlq
          obtain ⟨e0, e1, e2, aq2, cq2, e3, hrp, hmp, _⟩ := hpp k hlt
          have hsp := spL_get (x := x) (pt := pt) (bs := bs) hlt
          have BPr := BP5.out.keep BL.out
          clear hpq hpp
          rw [hsp] at c0 c1 c2 c3 hrq hmq
          have hRB := HB5.out.keep BL.out
          have lbp := BPr.lt
          obtain ⟨_, _, b2c⟩ := BPr.c3
          by_cases he : (ps.getD k pr0).id = x
          · rw [if_pos he] at c0 c1 c2 c3 hrq hmq
            rw [he] at c0
            replace c0 : wr.cell? ⟨bkq, offq + k * 4, none⟩ = some (.int .i64 x) := c0
            replace c2 : wr.cell? ⟨bkq, offq + k * 4 + 2, none⟩ = some (.int .i64 pt) := c2
            replace c3 : wr.cell? ⟨bkq, offq + k * 4 + 3, none⟩ = some (.slice aq bs.length cq) := c3
            replace hrq : RowAt wr aq bs := hrq
            clear e0 e1 e2 e3 hrp hmp hmq hsp
            generalize hz1 : Pr.succ _ = z1 at c1
            clear hz1
            obtain ⟨wr1, hwr1⟩ : ∃ wr1, wr1 = wr.alloc (.cells #[.int .i64 x, .int .i64 z1, .int .i64 pt, .slice aq bs.length cq] 37) := ⟨_, rfl⟩
            have BA1 : Hid (Below wr.heap.size wr wr1) := by unfold Hid; rw [hwr1]; exact belA _ _
            have hx1 : wr.heap.size < wr1.heap.size := by rw [hwr1]; simp
            have RWX : wr1.heap[wr.heap.size]? = some (.cells #[.int .i64 x, .int .i64 z1, .int .i64 pt, .slice aq bs.length cq] 37 (0, 0)) := by rw [hwr1]; exact heap_alloc_new _ _
            have t0 : ∀ q : Kin wr1.heap.size wr1, q.v.cell? ⟨wr.heap.size, 0, none⟩ = some (.int .i64 x) := kin_cell hx1 ((cell_of_row wr1 _ _ _ _ _ RWX).trans rfl)
            have t1 : ∀ q : Kin wr1.heap.size wr1, q.v.cell? ⟨wr.heap.size, 1, none⟩ = some (.int .i64 z1) := kin_cell hx1 ((cell_of_row wr1 _ _ _ _ _ RWX).trans rfl)
            have t2 : ∀ q : Kin wr1.heap.size wr1, q.v.cell? ⟨wr.heap.size, 2, none⟩ = some (.int .i64 pt) := kin_cell hx1 ((cell_of_row wr1 _ _ _ _ _ RWX).trans rfl)
            have t3 : ∀ q : Kin wr1.heap.size wr1, q.v.cell? ⟨wr.heap.size, 3, none⟩ = some (.slice aq bs.length cq) := kin_cell hx1 ((cell_of_row wr1 _ _ _ _ _ RWX).trans rfl)
            have hxx : (x == x) = true := by simp
            have hpt : (pt != pt) = false := by simp
            have hxn : (x != x) = false := by simp
            have hss : sameB bs bs = true := decide_eq_true rfl
            have CI : ∀ wq, Below wr1.heap.size wr1 wq → Calls Try.prog 17 #[.slice aq bs.length cq, .slice ab bs.length cb] wq fun e w' => e = .returned (.bool true) ∧ Below wq.heap.size wq w' := fun wq h => by
              have := sameInts_any aq ab cq cb bs bs wq (by unfold maxLen; omega) (hrq.keep (belt BA1.out h)) (hRB.keep (belt BA1.out h))
              rwa [hss] at this
            clear hrq hRB b2c
            go_wp2_with fail
            rw [← hwr1]
            clear c0 c1 c2 c3 RWX hwr1
            refine region_kin wr1.heap.size (by kernel_rfl) (by kernel_rfl) (fun hne => ?_)
            repeat (go_big_quiet_step ((go_at_call 17; first | exact kin_of (Nat.le_refl _) (CI _ (Kin.bel _)))))
            refine wpQuiet_nil ?_
            intro wv hw'
            obtain ⟨⟨wu, hwv⟩, hw''⟩ := hw'
            obtain rfl : wv = wu := hw''
            clear t0 t1 t2 t3 hne
            have BL2 : Hid (Below w5.heap.size w5 wv) := belt BL.out (belt BA1.out hwv)
            go_wp2
            go_roundw
            case rel => exact ⟨k + 1, by omega, by go_num, BL2⟩
            case measure => simp [intOf]; omega
          · rw [if_neg he] at c0 c1 c2 c3 hrq hmq
            have hex : ((ps.getD k pr0).id == x) = false := by simp only [beq_eq_false_iff_ne, ne_eq]; exact he
            have hnx : ((ps.getD k pr0).id != x) = true := by simpa using he
            clear e0 e1 hsp he
            generalize (ps.getD k pr0).id = z0 at c0 hex hnx
            generalize (ps.getD k pr0).succ = z1 at c1
            generalize (ps.getD k pr0).point = z2 at c2 e2
            generalize (ps.getD k pr0).backs = zb at c3 e3 hrq hrp hmq hmp
            obtain ⟨wr1, hwr1⟩ : ∃ wr1, wr1 = wr.alloc (.cells #[.int .i64 z0, .int .i64 z1, .int .i64 z2, .slice aq zb.length cq] 37) := ⟨_, rfl⟩
            have BA1 : Hid (Below wr.heap.size wr wr1) := by unfold Hid; rw [hwr1]; exact belA _ _
            have hx1 : wr.heap.size < wr1.heap.size := by rw [hwr1]; simp
            have RWX : wr1.heap[wr.heap.size]? = some (.cells #[.int .i64 z0, .int .i64 z1, .int .i64 z2, .slice aq zb.length cq] 37 (0, 0)) := by rw [hwr1]; exact heap_alloc_new _ _
            have t0 : ∀ q : Kin wr1.heap.size wr1, q.v.cell? ⟨wr.heap.size, 0, none⟩ = some (.int .i64 z0) := kin_cell hx1 ((cell_of_row wr1 _ _ _ _ _ RWX).trans rfl)
            have t1 : ∀ q : Kin wr1.heap.size wr1, q.v.cell? ⟨wr.heap.size, 1, none⟩ = some (.int .i64 z1) := kin_cell hx1 ((cell_of_row wr1 _ _ _ _ _ RWX).trans rfl)
            have t2 : ∀ q : Kin wr1.heap.size wr1, q.v.cell? ⟨wr.heap.size, 2, none⟩ = some (.int .i64 z2) := kin_cell hx1 ((cell_of_row wr1 _ _ _ _ _ RWX).trans rfl)
            have t3 : ∀ q : Kin wr1.heap.size wr1, q.v.cell? ⟨wr.heap.size, 3, none⟩ = some (.slice aq zb.length cq) := kin_cell hx1 ((cell_of_row wr1 _ _ _ _ _ RWX).trans rfl)
            have tp : ∀ q : Kin wr1.heap.size wr1, q.v.cell? ⟨w1.heap.size, 2, none⟩ = some (.slice (some ⟨bkp, offp, none⟩) ps.length cp) := kin_cell (Nat.lt_of_lt_of_le lbp BA1.out.size) ((BA1.out.cell (p := ⟨w1.heap.size, 2, none⟩) lbp).trans b2c)
            have tq : ∀ q : Kin wr1.heap.size wr1, q.v.cell? ⟨bkp, offp + k * 4 + 2, none⟩ = some (.int .i64 z2) := kin_cell (Nat.lt_of_lt_of_le hbp BA1.out.size) ((BA1.out.cell (p := ⟨bkp, offp + k * 4 + 2, none⟩) hbp).trans e2)
            have ts : ∀ q : Kin wr1.heap.size wr1, q.v.cell? ⟨bkp, offp + k * 4 + 3, none⟩ = some (.slice aq2 zb.length cq2) := kin_cell (Nat.lt_of_lt_of_le hbp BA1.out.size) ((BA1.out.cell (p := ⟨bkp, offp + k * 4 + 3, none⟩) hbp).trans e3)
            have hpt : (z2 != z2) = false := by simp
            have hss : sameB zb zb = true := decide_eq_true rfl
            have CI : ∀ wq, Below wr1.heap.size wr1 wq → Calls Try.prog 17 #[.slice aq zb.length cq, .slice aq2 zb.length cq2] wq fun e w' => e = .returned (.bool true) ∧ Below wq.heap.size wq w' := fun wq h => by
              have := sameInts_any aq aq2 cq cq2 zb zb wq hmq (hrq.keep (belt BA1.out h)) (hrp.keep (belt BA1.out h))
              rwa [hss] at this
            clear hrq hrp hRB
            go_wp2_with fail
            rw [← hwr1]
            clear c0 c1 c2 c3 e2 e3 RWX hwr1 b2c
            refine region_kin wr1.heap.size (by kernel_rfl) (by kernel_rfl) (fun hne => ?_)
            repeat (go_big_quiet_step ((go_at_call 17; first | exact kin_of (Nat.le_refl _) (CI _ (Kin.bel _)))))
            refine wpQuiet_nil ?_
            intro wv hw'
            obtain ⟨⟨wu, hwv⟩, hw''⟩ := hw'
            obtain rfl : wv = wu := hw''
            clear t0 t1 t2 t3 tp tq ts hne
            have BL2 : Hid (Below w5.heap.size w5 wv) := belt BL.out (belt BA1.out hwv)
            go_wp2
            go_roundw
            case rel => exact ⟨k + 1, by omega, by go_num, BL2⟩
            case measure => simp [intOf]; omega
        · have BEC : Hid (Below w.heap.size w wr) := belt BE5.out BL.out
          clear BE5 BQ5 BP5 HG5 HP5 HB5 BL
          go_wp2_with fail
          refine (drawCrowd_any _ _ ys _ hm2 (HR2.out.keep BEC.out)).mono ?_
          rintro e w7 ⟨b2, d2, v7, rfl, sq7, hw7⟩
          have BE7 : Hid (Below w.heap.size w w7) := belt BEC.out hw7
          obtain ⟨a2, c2, ms2, rfl, l2, hrm, _⟩ := sq7
          have HRM : Hid (RowAt w7 a2 ms2) := hrm
          clear hrm hw7 BEC
          have hmx : Hid (ms2.length ≤ maxLen) := by unfold Hid maxLen; omega
          go_wp2_with fail
          refine (CrowdOf_any b2 d2 a2 c2 ms2 _ hmx.out (HRM.out.alloc _)).mono ?_
          rintro e w8 ⟨rfl, HW⟩
          have BX8 : Hid (BxV w7 w8 #[.int .i64 b2, .int .i64 d2] 25) := bxV1 HW
          have B78 : Hid (Below w7.heap.size w7 w8) := belt (belA _ _) HW
          obtain ⟨s0, s1⟩ := BX8.out.c2
          clear HW
          go_wp2_with fail
          refine (lCrowdOf_any b2 d2 a2 c2 ms2 _ hmx.out (HRM.out.keep B78.out)).mono ?_
          rintro e w9 ⟨rfl, HW⟩
          have BE9 : Hid (Below w.heap.size w w9) := belt (belt BE7.out B78.out) HW
          obtain ⟨v1, v2⟩ := crwV_bd b2 d2 ms2
          clear HW s0 s1 BX8 B78
          generalize crwV b2 d2 ms2 = cv at v1 v2
          cases ringB b2 d2 ms2
          · go_wp2
            go_ret
            exact ⟨ret_bool (by simp), BE9.out⟩
          · go_wp2
            go_ret
            exact ⟨ret_bool (by simp <;> omega), BE9.out⟩
  · have CB := big_any a a' xs.length ys.length cap cap' w HX.out HY.out
    rw [hbig] at CB
    go_enter Try.func3, Try.ntmps3
    go_wp2_with fail
    refine CB.mono ?_
    rintro e w0 ⟨rfl, hw0⟩
    replace hw0 := hw0.symm
    subst hw0
    go_wp2
    go_ret
    exact ⟨rfl, Below.refl _ _⟩

set_option maxRecDepth 100000 in
theorem fnSetPoints_lifted (os : Os) (started : os.Started) (H : Type) (enc : TypeId × Value → H) :
    ReturnsInHanded {} Try.checked os 3 .any (Rows.fnSetPointsSpec.pre6 enc Try.prog Try.f3 Rows.fnSetPointsRow.domain false) (Rows.fnSetPointsSpec.post enc Try.prog Try.f3 false true false false) := by
  refine returnsInHanded_of_change (C := Try.checked) own started (by kernel_rfl) Try.func3
    (ChangeSpec.witness6 (enc := enc) (C := Try.checked) false ⟨#[], #[.slice none 0 0, .slice none 0 0], []⟩ 8 (by kernel_rfl) (by kernel_rfl) (by kernel_rfl) (by kernel_rfl)) ?_
  intro W base args ds gs before hval0 hW hcnd _
  have hval : ∀ (j : Nat) t v, Try.f3.params[j]? = some t → args[j]? = some v → Value.okWide Try.prog W .any base t v := hval0
  have hW' := hW
  obtain ⟨p, q, hA0, hV, rfl, hfz, hnd⟩ := hW
  have hA : DataW.TrodAll enc Try.prog W 0 (fun _ => true) true Try.f3.params.toList args.toList ds p := hA0
  rw [Try.params3] at hA hval
  obtain ⟨v0, vs0, d0, ds0, p0, q0, hargs, rfl, rfl, h0, r0⟩ := trodAll_cons hA
  obtain ⟨v1, vs1, d1, ds1, p1, q1, rfl, rfl, rfl, h1, r1⟩ := trodAll_cons r0
  obtain ⟨rfl, rfl, rfl⟩ := trodAll_nil r1
  obtain rfl : args = #[v0, v1] := by cases args; simp_all
  obtain ⟨rfl, rfl⟩ := trodVars_none hV
  obtain ⟨a0, len0, cap0, rfl⟩ := okWide_slice Try.underlying22 (hval 0 22 v0 rfl rfl)
  have k0 := h0
  have lt0 : ∀ x ∈ p0, x.block < W.heap.size := by obtain ⟨m, hm⟩ := k0; exact DataW.trod_lt m _ _ _ hm
  obtain ⟨z0, w0⟩ : ∃ zs, IsRowU W a0 len0 cap0 zs := by
    obtain ⟨fuel, hf⟩ := h0
    rcases open_ints Try.underlying22 Try.underlying5 (by kernel_rfl) hf with ⟨hcs, _⟩ | ⟨x, l, c, zs, hcs, _, hl, hm, hz, _, hcell, hwz⟩
    · simp [Value.cells] at hcs
      obtain ⟨rfl, rfl, rfl⟩ := hcs
      exact ⟨[], .inl ⟨rfl, rfl, rfl, rfl⟩⟩
    · simp [Value.cells] at hcs
      obtain ⟨rfl, rfl, rfl⟩ := hcs
      exact ⟨zs, .inr ⟨_, rfl, hl, hm, by simpa using hz, hcell, hwz⟩⟩
  obtain ⟨a1, len1, cap1, rfl⟩ := okWide_slice Try.underlying22 (hval 1 22 v1 rfl rfl)
  have k1 := h1
  have lt1 : ∀ x ∈ p1, x.block < W.heap.size := by obtain ⟨m, hm⟩ := k1; exact DataW.trod_lt m _ _ _ hm
  obtain ⟨z1, w1⟩ : ∃ zs, IsRowU W a1 len1 cap1 zs := by
    obtain ⟨fuel, hf⟩ := h1
    rcases open_ints Try.underlying22 Try.underlying5 (by kernel_rfl) hf with ⟨hcs, _⟩ | ⟨x, l, c, zs, hcs, _, hl, hm, hz, _, hcell, hwz⟩
    · simp [Value.cells] at hcs
      obtain ⟨rfl, rfl, rfl⟩ := hcs
      exact ⟨[], .inl ⟨rfl, rfl, rfl, rfl⟩⟩
    · simp [Value.cells] at hcs
      obtain ⟨rfl, rfl, rfl⟩ := hcs
      exact ⟨zs, .inr ⟨_, rfl, hl, hm, by simpa using hz, hcell, hwz⟩⟩
  clear hA0 hval0
  obtain ⟨y0, e0, m0, q0⟩ := isRowU_rowB w0
  obtain ⟨y1, e1, m1, q1⟩ := isRowU_rowB w1
  subst e0 e1
  refine (wFnSetPoints a0 a1 cap0 cap1 y0 y1 W m0 m1 q0 q1).mono fun e W' ⟨he, bel⟩ => ?_
  subst he
  exact ⟨_, rfl, _, _, _, [], _, [], hW', trodAll_mk1 (shut_bool Try.underlying4 _), (trodAll_cons_mk (Below.trod laidOut (by kernel_rfl) (of_decide_eq_true (by kernel_rfl)) k0 bel lt0) (trodAll_cons_mk (Below.trod laidOut (by kernel_rfl) (of_decide_eq_true (by kernel_rfl)) k1 bel lt1) trodAll_mk0)), rfl, bel.frame _, fun h => by cases h⟩

theorem fnSetPoints_holds : Rows.FnSetPointsSaid :=
  OpenClaim.holds_of_wide 3 Try.f3 rfl rfl rfl rfl rfl rfl rfl ⟨rfl, rfl, rfl, rfl, rfl⟩ rfl rfl rfl rfl rfl (by kernel_rfl) Try.func3 (by kernel_rfl)
    (of_decide_eq_true (by kernel_rfl)) (by unfold Func.isWrapper; first | (rw [if_pos (by decide +kernel)]; kernel_rfl) | (rw [if_neg (by decide +kernel)]; exact ⟨rfl, rfl⟩))
    (fun os started H enc _ => fnSetPoints_lifted os started H enc)
#print axioms fnSetPoints_holds
end Go.Proofs.Ytgmdbihdnacpjaa
