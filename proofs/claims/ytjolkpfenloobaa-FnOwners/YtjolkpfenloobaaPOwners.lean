/- FnOwners: for all bytes that are drawn from, each number has one owner, next one and one ahead, as the specification says, and the members' gaps and keys make the whole ring: no condition. -/
import Derived.Test.YtjolkpfenloobaaK0
import Derived.Test.YtjolkpfenloobaaT3
namespace Go.Proofs.Ytjolkpfenloobaa
open Go.ChangeShapes Go.WideShapes Go.ChangeAt Go.RowKit
set_option linter.unusedVariables false

theorem sum_ok {b : Int} (hb1 : 1 ≤ b) (hb2 : b ≤ 12) {s g : Int} (hs : s = sz b) (hg : g = sz b) : (s != wrap64 (2 ^ b.toNat)) = false ∧ (g != s) = false := by
  rw [wrap_sz hb1 hb2, hs, hg]; simp

set_option maxRecDepth 100000 in
set_option maxHeartbeats 12800000 in
theorem wFnOwners (a a' : Option Addr) (cap cap' : Nat) (xs ys : List Int) (w : World) (hx : xs.length ≤ maxLen) (hy : ys.length ≤ maxLen) (hr1 : RowB w a xs) (hr2 : RowB w a' ys) :
    Calls Try.prog 3 #[.slice a xs.length cap, .slice a' ys.length cap'] w fun e w' => e = .returned (.bool true) ∧ Below w.heap.size w w' := by
  have HX : Hid (xs.length ≤ maxLen) := hx
  have HY : Hid (ys.length ≤ maxLen) := hy
  have HR1 : Hid (RowB w a xs) := hr1
  have HR2 : Hid (RowB w a' ys) := hr2
  clear hx hy hr1 hr2
  cases hbig : bigB xs.length ys.length
  · have hnb := of_decide_eq_false hbig
    have hm1 : xs.length ≤ 1048576 := by omega
    have hm2 : ys.length ≤ 1048576 := by omega
    clear hnb
    go_enter Try.func3, Try.ntmps3
    go_wp2_with fail
    refine (big_any _ _ _ _ _ _ _ HX.out HY.out).mono ?_
    rintro e w0 ⟨rfl, hw0⟩
    replace hw0 := hw0.symm
    subst hw0
    go_wp2_with fail
    refine (drawOwner_any _ _ xs _ hm1 HR1.out).mono ?_
    rintro e w1 ⟨b, d, v1, x, rfl, sm1, gb1⟩
    obtain ⟨a0, cp, ms, rfl, hcp, hl9, hr1, _⟩ := sm1
    have HR : Hid (RowAt w1 a0 ms) := hr1
    have hmx : Hid (ms.length ≤ maxLen) := by unfold Hid maxLen; omega
    clear hr1
    go_wp2_with fail
    refine (OwnerOf_any b d a0 cp ms x _ hmx.out (HR.out.alloc _)).mono ?_
    rintro e w2 ⟨rfl, hw2⟩
    have bt2 := Bt.first hw2
    obtain ⟨k20, k21, z2⟩ := bt2.at
    go_wp2_with fail
    refine (lOwnerOf_any b d a0 cp ms x _ hmx.out (HR.out.keep bt2.old)).mono ?_
    rintro e w3 ⟨rfl, hw3⟩
    have bt3 := bt2.step hw3
    obtain ⟨k30, k31, z3⟩ := bt3.at
    go_wp2_with fail
    refine (NextOf_any b d a0 cp ms x _ hmx.out (HR.out.keep bt3.old)).mono ?_
    rintro e w4 ⟨rfl, hw4⟩
    have bt4 := bt3.step hw4
    obtain ⟨k40, k41, z4⟩ := bt4.at
    go_wp2_with fail
    refine (lNextOf_any b d a0 cp ms x _ hmx.out (HR.out.keep bt4.old)).mono ?_
    rintro e w5 ⟨rfl, hw5⟩
    have bt5 := bt4.step hw5
    obtain ⟨k50, k51, z5⟩ := bt5.at
    go_wp2_with fail
    refine (PrevOf_any b d a0 cp ms x _ hmx.out (HR.out.keep bt5.old)).mono ?_
    rintro e w6 ⟨rfl, hw6⟩
    have bt6 := bt5.step hw6
    obtain ⟨k60, k61, z6⟩ := bt6.at
    go_wp2_with fail
    refine (lPrevOf_any b d a0 cp ms x _ hmx.out (HR.out.keep bt6.old)).mono ?_
    rintro e w7 ⟨rfl, hw7⟩
    have bt7 := bt6.step hw7
    obtain ⟨k70, k71, z7⟩ := bt7.at
    cases hok : askB b d ms x
    ·
      go_wp2
      have c0 : ∀ p : Kin w7.heap.size w7, p.v.cell? ⟨w1.heap.size, 0, none⟩ = some (.int .i64 b) := kin_cell z7 k70
      have c1 : ∀ p : Kin w7.heap.size w7, p.v.cell? ⟨w1.heap.size, 1, none⟩ = some (.int .i64 d) := kin_cell z7 k71
      have R7 : Hid (RowAt w7 a0 ms) := HR.out.keep bt7.old
      refine region_kin w7.heap.size (by kernel_rfl) (by kernel_rfl) (fun hne => ?_)
      repeat (go_big_quiet_step (first | (go_at_call 21; exact kin_of (Nat.le_refl _) (GoodRing_any b d a0 cp ms _ hmx.out (R7.out.keepB (Kin.bel _) (Nat.le_refl _)))) | (go_at_call 22; exact kin_of (Nat.le_refl _) (lGoodRing_any b d a0 cp ms _ hmx.out (R7.out.keepB (Kin.bel _) (Nat.le_refl _))))))
      refine wpQuiet_nil ?_
      intro xw hw'
      obtain ⟨⟨w8, hw8⟩, hw8'⟩ := hw'
      have hw8'' : w8 = xw := hw8'.symm
      subst hw8''
      clear c0 c1 hne
      have bt8 := bt7.step hw8
      obtain ⟨k80, k81, z8⟩ := bt8.at
      have gb8 : Below w.heap.size w w8 := belt gb1 bt8.old
      go_wp2_with fail
      refine (drawKeys_any _ _ ys _ hm2 (HR2.out.keep gb8)).mono ?_
      rintro e w30 ⟨b2, d2, v30, x2, rfl, sm30, hw30⟩
      have gb30 : Below w.heap.size w w30 := belt gb8 hw30
      obtain ⟨a2, cp2, ms2, rfl, hcp2, hl92, hr30, _⟩ := sm30
      have HS : Hid (RowAt w30 a2 ms2) := hr30
      have hmx2 : Hid (ms2.length ≤ maxLen) := by unfold Hid maxLen; omega
      clear hr30
      go_wp2_with fail
      refine (KeysOf_any b2 d2 a2 cp2 ms2 x2 _ hmx2.out (HS.out.alloc _)).mono ?_
      rintro e w31 ⟨rfl, hw31⟩
      have bu31 := Bt.first hw31
      obtain ⟨l310, l311, y31⟩ := bu31.at
      go_wp2_with fail
      refine (lKeysOf_any b2 d2 a2 cp2 ms2 x2 _ hmx2.out (HS.out.keep bu31.old)).mono ?_
      rintro e w32 ⟨rfl, hw32⟩
      have bu32 := bu31.step hw32
      obtain ⟨l320, l321, y32⟩ := bu32.at
      go_wp2_with fail
      refine (GapOf_any b2 d2 a2 cp2 ms2 x2 _ hmx2.out (HS.out.keep bu32.old)).mono ?_
      rintro e w33 ⟨rfl, hw33⟩
      have bu33 := bu32.step hw33
      obtain ⟨l330, l331, y33⟩ := bu33.at
      go_wp2_with fail
      refine (lGapOf_any b2 d2 a2 cp2 ms2 x2 _ hmx2.out (HS.out.keep bu33.old)).mono ?_
      rintro e w34 ⟨rfl, hw34⟩
      have bu34 := bu33.step hw34
      have gb34 : Hid (Below w.heap.size w w34) := belt gb30 bu34.old
      go_wp2
      go_ret
      exact ⟨by simp, gb34.out⟩
    ·
      have hq := hok
      unfold askB at hq
      rw [Bool.and_eq_true] at hq
      have R := ringB_true hq.1
      obtain ⟨_, x1, x2⟩ := numB_true hq.2
      clear hq
      obtain ⟨hb1, hb2, _, _, _⟩ := gsB_true R.gs
      obtain ⟨hs1, hs2⟩ := sz_bd hb1 hb2
      have eo : oVal b d ms x (ownI ms x) = ownI ms x := by unfold oVal; rw [if_pos hok]
      have en : oVal b d ms x (nxtI ms x) = nxtI ms x := by unfold oVal; rw [if_pos hok]
      have ep : oVal b d ms x (prvI ms x) = prvI ms x := by unfold oVal; rw [if_pos hok]
      rw [eo, en, ep]
      clear eo en ep
      obtain ⟨o1, o2⟩ := own_rng R x
      obtain ⟨p1, p2⟩ := prv_rng R x
      have harc := own_arc R x1 x2
      have hao : aOk b d (prvI ms x) x (ownI ms x) = true := by unfold aOk; rw [numB_yes R.gs p1 p2, numB_yes R.gs x1 x2, numB_yes R.gs o1 o2]; rfl
      have hav : aVal b d (prvI ms x) x (ownI ms x) = true := by unfold aVal; rw [hao, harc]; rfl
      have h1 : hasB ms (ownI ms x) = true := by obtain ⟨t, ht, e, _⟩ := own_place R x; exact has_at ht e
      have h2 : hasB ms (nxtI ms x) = true := by obtain ⟨t, ht, e, _⟩ := nxt_place R x; exact has_at ht e
      have h3 : hasB ms (prvI ms x) = true := by obtain ⟨t, ht, e, _⟩ := prv_place R x; exact has_at ht e
      have h4 := (own_has R x).symm
      have h5 : hasB ms x = false → (nxtI ms x != ownI ms x) = false := fun h => by rw [own_nxt R h]; simp
      have l1 := R.l1
      have RR : Hid (Ring b d ms) := R
      clear R harc
      go_wp2
      have c0 : ∀ p : Kin w7.heap.size w7, p.v.cell? ⟨w1.heap.size, 0, none⟩ = some (.int .i64 b) := kin_cell z7 k70
      have c1 : ∀ p : Kin w7.heap.size w7, p.v.cell? ⟨w1.heap.size, 1, none⟩ = some (.int .i64 d) := kin_cell z7 k71
      have R7 : Hid (RowAt w7 a0 ms) := HR.out.keep bt7.old
      refine region_kin w7.heap.size (by kernel_rfl) (by kernel_rfl) (fun hne => ?_)
      repeat (go_big_quiet_step (first | (go_at_call 21; exact kin_of (Nat.le_refl _) (GoodRing_any b d a0 cp ms _ hmx.out (R7.out.keepB (Kin.bel _) (Nat.le_refl _)))) | (go_at_call 22; exact kin_of (Nat.le_refl _) (lGoodRing_any b d a0 cp ms _ hmx.out (R7.out.keepB (Kin.bel _) (Nat.le_refl _))))))
      refine wpQuiet_nil ?_
      intro xw hw'
      obtain ⟨⟨w8, hw8⟩, hw8'⟩ := hw'
      have hw8'' : w8 = xw := hw8'.symm
      subst hw8''
      clear c0 c1 hne
      have bt8 := bt7.step hw8
      obtain ⟨k80, k81, z8⟩ := bt8.at
      go_wp2_with fail
      refine (InArc_any _ _ _ _ _ _).mono ?_
      rintro e w9 ⟨rfl, hw9⟩
      have bt9 := bt8.step hw9
      obtain ⟨k90, k91, z9⟩ := bt9.at
      have R9 : Hid (RowAt w9 a0 ms) := HR.out.keep bt9.old
      generalize hO : ownI ms x = o at *
      generalize hN : nxtI ms x = nx at *
      generalize hP : prvI ms x = pv at *
      go_wp2_with fail
      refine (has_any a0 cp ms o _ hmx.out R9.out).mono ?_
      rintro e w10 ⟨rfl, he10⟩
      have he10 := he10.symm
      subst he10
      go_wp2_with fail
      refine (has_any a0 cp ms nx _ hmx.out R9.out).mono ?_
      rintro e w10 ⟨rfl, he10⟩
      have he10 := he10.symm
      subst he10
      go_wp2_with fail
      refine (has_any a0 cp ms pv _ hmx.out R9.out).mono ?_
      rintro e w10 ⟨rfl, he10⟩
      have he10 := he10.symm
      subst he10
      go_wp2_with fail
      refine (has_any a0 cp ms x _ hmx.out R9.out).mono ?_
      rintro e w10 ⟨rfl, he10⟩
      have he10 := he10.symm
      subst he10
      cases hxx : hasB ms x
      ·
        rw [hxx] at h4
        have h6 := h5 hxx
        clear h5
        go_wp2_with fail
        refine (has_any a0 cp ms x _ hmx.out R9.out).mono ?_
        rintro e w10 ⟨rfl, he10⟩
        have he10 := he10.symm
        subst he10
        go_wp2_with fail
        go_loopw [22, 23, 198] (fun vs vg vi wr => ∃ j : Nat, j ≤ ms.length ∧ vi = .int .i64 j ∧ vs = .int .i64 (kSum b ms j) ∧ vg = .int .i64 (gSum b ms j) ∧ Bt w1 b d wr) (fun _ _ vi _ => ms.length - (intOf vi).toNat)
        case atStart => exact ⟨0, Nat.zero_le _, rfl, rfl, by unfold gSum; rw [if_pos (by omega)]; simp, bt9⟩
        case round =>
          obtain ⟨j, hj, rfl, rfl, rfl, btr⟩ := hrel
          clear bt9 bt8 bt7 bt6 bt5 bt4 bt3 bt2 hw9 hw8 hw7 hw6 hw5 hw4 hw3 hw2
          obtain ⟨kr0, kr1, zr⟩ := btr.at
          have HRr : Hid (RowAt wr a0 ms) := HR.out.keep btr.old
          by_cases hlt : j < ms.length
          · obtain ⟨bk, off, rfl⟩ := rowAt_form HRr.out (by omega)
            have hc1 := (rowAt_cell HRr.out (by omega)).2 j hlt
            have ry := RR.out.rng j hlt
            have hmy := mem_at RR.out hlt
            have hk1 := kSum_succ RR.out hlt
            have hg1 := gSum_succ RR.out hlt
            have hk2 := kSum_bd RR.out hj
            have hk3 := kSum_bd RR.out (show j + 1 ≤ ms.length by omega)
            have hpn := prv_nxt RR.out hlt
            have rn := nxt_rng RR.out (ms.getD j 0)
            have hring : ringB b d ms = true := by unfold askB at hok; rw [Bool.and_eq_true] at hok; exact hok.1
            obtain ⟨y, hy⟩ : ∃ y, y = ms.getD j 0 := ⟨_, rfl⟩
            rw [← hy] at hc1 ry hmy hk1 hg1 hpn rn
            have HKS : Hid (kSum b ms (j + 1) = kSum b ms j + rnd b (prvI ms y) y) := hk1
            have HGS : Hid (gSum b ms (j + 1) = gSum b ms j + rnd b y (nxtI ms y)) := hg1
            have okg : okG b d ms y = true := by unfold okG; rw [hring, hmy]; rfl
            have ask1 : askB b d ms y = true := by unfold askB; rw [hring, numB_yes RR.out.gs ry.1 ry.2]; rfl
            have ask2 : askB b d ms (nxtI ms y) = true := by unfold askB; rw [hring, numB_yes RR.out.gs rn.1 rn.2]; rfl
            have v1 : gVal b d ms y (rnd b (prvI ms y) y) = rnd b (prvI ms y) y := by unfold gVal; rw [if_pos okg]
            have v2 : gVal b d ms y (rnd b y (nxtI ms y)) = rnd b y (nxtI ms y) := by unfold gVal; rw [if_pos okg]
            have v3 : oVal b d ms y (nxtI ms y) = nxtI ms y := by unfold oVal; rw [if_pos ask1]
            have v4 : oVal b d ms (nxtI ms y) (prvI ms (nxtI ms y)) = y := by unfold oVal; rw [if_pos ask2, hpn]
            clear hk1 hg1 hpn hring hmy hy
            have kk := KeysOf_any b d (some ⟨bk, off, none⟩) cp ms y
            have gg := GapOf_any b d (some ⟨bk, off, none⟩) cp ms y
            have nn := NextOf_any b d (some ⟨bk, off, none⟩) cp ms y
            have pp := PrevOf_any b d (some ⟨bk, off, none⟩) cp ms (nxtI ms y)
            rw [v1, okg] at kk
            rw [v2, okg] at gg
            rw [v3, ask1] at nn
            rw [v4, ask2] at pp
            have KK : Hid (∀ (w : World), ms.length ≤ maxLen → RowAt w (some ⟨bk, off, none⟩) ms → _) := kk
            have GG : Hid (∀ (w : World), ms.length ≤ maxLen → RowAt w (some ⟨bk, off, none⟩) ms → _) := gg
            have NN : Hid (∀ (w : World), ms.length ≤ maxLen → RowAt w (some ⟨bk, off, none⟩) ms → _) := nn
            have PP : Hid (∀ (w : World), ms.length ≤ maxLen → RowAt w (some ⟨bk, off, none⟩) ms → _) := pp
            clear kk gg nn pp v1 v2 v3 v4 okg ask1 ask2
            obtain ⟨⟨u1, u2⟩, u3, u4⟩ := hk2
            obtain ⟨⟨u5, u6⟩, u7, u8⟩ := hk3
            rw [HKS.out] at u5 u6
            rw [HGS.out] at u7 u8
            generalize hA1 : rnd b (prvI ms y) y = A1 at *
            generalize hA2 : rnd b y (nxtI ms y) = A2 at *
            generalize hA3 : nxtI ms y = A3 at *
            generalize hS1 : kSum b ms j = S1 at *
            generalize hS2 : gSum b ms j = S2 at *
            clear hA1 hA2 hA3 hS1 hS2
            go_wp2_with fail
            refine (KK.out _ hmx.out HRr.out).mono ?_
            rintro e w11 ⟨rfl, hw11⟩
            have bt11 := btr.step hw11
            obtain ⟨k110, k111, z11⟩ := bt11.at
            go_wp2_with fail
            refine (GG.out _ hmx.out (HR.out.keep bt11.old)).mono ?_
            rintro e w12 ⟨rfl, hw12⟩
            have bt12 := bt11.step hw12
            obtain ⟨k120, k121, z12⟩ := bt12.at
            go_wp2_with fail
            refine (NN.out _ hmx.out (HR.out.keep bt12.old)).mono ?_
            rintro e w13 ⟨rfl, hw13⟩
            have bt13 := bt12.step hw13
            obtain ⟨k130, k131, z13⟩ := bt13.at
            go_wp2_with fail
            refine (PP.out _ hmx.out (HR.out.keep bt13.old)).mono ?_
            rintro e w14 ⟨rfl, hw14⟩
            have bt14 := bt13.step hw14
            go_wp2_with fail
            go_roundw
            case rel => exact ⟨j + 1, by omega, by go_num, by rw [HKS.out], by rw [HGS.out], bt14⟩
            case measure => simp [intOf]; omega
          · have hje : j = ms.length := by omega
            subst hje
            obtain ⟨e1, e2⟩ := kSum_end RR.out
            obtain ⟨q1, q2⟩ := sum_ok hb1 hb2 e1 e2
            clear e1 e2
            generalize kSum b ms ms.length = S1 at *
            generalize gSum b ms ms.length = S2 at *
            have wr' : World := wr
            have gbr : Below w.heap.size w wr := belt gb1 btr.old
            go_wp2_with fail
            refine (drawKeys_any _ _ ys _ hm2 (HR2.out.keep gbr)).mono ?_
            rintro e w30 ⟨b2, d2, v30, x2, rfl, sm30, hw30⟩
            have gb30 : Below w.heap.size w w30 := belt gbr hw30
            obtain ⟨a2, cp2, ms2, rfl, hcp2, hl92, hr30, _⟩ := sm30
            have HS : Hid (RowAt w30 a2 ms2) := hr30
            have hmx2 : Hid (ms2.length ≤ maxLen) := by unfold Hid maxLen; omega
            clear hr30
            go_wp2_with fail
            refine (KeysOf_any b2 d2 a2 cp2 ms2 x2 _ hmx2.out (HS.out.alloc _)).mono ?_
            rintro e w31 ⟨rfl, hw31⟩
            have bu31 := Bt.first hw31
            obtain ⟨l310, l311, y31⟩ := bu31.at
            go_wp2_with fail
            refine (lKeysOf_any b2 d2 a2 cp2 ms2 x2 _ hmx2.out (HS.out.keep bu31.old)).mono ?_
            rintro e w32 ⟨rfl, hw32⟩
            have bu32 := bu31.step hw32
            obtain ⟨l320, l321, y32⟩ := bu32.at
            go_wp2_with fail
            refine (GapOf_any b2 d2 a2 cp2 ms2 x2 _ hmx2.out (HS.out.keep bu32.old)).mono ?_
            rintro e w33 ⟨rfl, hw33⟩
            have bu33 := bu32.step hw33
            obtain ⟨l330, l331, y33⟩ := bu33.at
            go_wp2_with fail
            refine (lGapOf_any b2 d2 a2 cp2 ms2 x2 _ hmx2.out (HS.out.keep bu33.old)).mono ?_
            rintro e w34 ⟨rfl, hw34⟩
            have bu34 := bu33.step hw34
            have gb34 : Hid (Below w.heap.size w w34) := belt gb30 bu34.old
            go_wp2
            go_ret
            exact ⟨by simp, gb34.out⟩
      ·
        rw [hxx] at h4
        clear h5
        go_wp2_with fail
        refine (has_any a0 cp ms x _ hmx.out R9.out).mono ?_
        rintro e w10 ⟨rfl, he10⟩
        have he10 := he10.symm
        subst he10
        go_wp2_with fail
        go_loopw [22, 23, 198] (fun vs vg vi wr => ∃ j : Nat, j ≤ ms.length ∧ vi = .int .i64 j ∧ vs = .int .i64 (kSum b ms j) ∧ vg = .int .i64 (gSum b ms j) ∧ Bt w1 b d wr) (fun _ _ vi _ => ms.length - (intOf vi).toNat)
        case atStart => exact ⟨0, Nat.zero_le _, rfl, rfl, by unfold gSum; rw [if_pos (by omega)]; simp, bt9⟩
        case round =>
          obtain ⟨j, hj, rfl, rfl, rfl, btr⟩ := hrel
          clear bt9 bt8 bt7 bt6 bt5 bt4 bt3 bt2 hw9 hw8 hw7 hw6 hw5 hw4 hw3 hw2
          obtain ⟨kr0, kr1, zr⟩ := btr.at
          have HRr : Hid (RowAt wr a0 ms) := HR.out.keep btr.old
          by_cases hlt : j < ms.length
          · obtain ⟨bk, off, rfl⟩ := rowAt_form HRr.out (by omega)
            have hc1 := (rowAt_cell HRr.out (by omega)).2 j hlt
            have ry := RR.out.rng j hlt
            have hmy := mem_at RR.out hlt
            have hk1 := kSum_succ RR.out hlt
            have hg1 := gSum_succ RR.out hlt
            have hk2 := kSum_bd RR.out hj
            have hk3 := kSum_bd RR.out (show j + 1 ≤ ms.length by omega)
            have hpn := prv_nxt RR.out hlt
            have rn := nxt_rng RR.out (ms.getD j 0)
            have hring : ringB b d ms = true := by unfold askB at hok; rw [Bool.and_eq_true] at hok; exact hok.1
            obtain ⟨y, hy⟩ : ∃ y, y = ms.getD j 0 := ⟨_, rfl⟩
            rw [← hy] at hc1 ry hmy hk1 hg1 hpn rn
            have HKS : Hid (kSum b ms (j + 1) = kSum b ms j + rnd b (prvI ms y) y) := hk1
            have HGS : Hid (gSum b ms (j + 1) = gSum b ms j + rnd b y (nxtI ms y)) := hg1
            have okg : okG b d ms y = true := by unfold okG; rw [hring, hmy]; rfl
            have ask1 : askB b d ms y = true := by unfold askB; rw [hring, numB_yes RR.out.gs ry.1 ry.2]; rfl
            have ask2 : askB b d ms (nxtI ms y) = true := by unfold askB; rw [hring, numB_yes RR.out.gs rn.1 rn.2]; rfl
            have v1 : gVal b d ms y (rnd b (prvI ms y) y) = rnd b (prvI ms y) y := by unfold gVal; rw [if_pos okg]
            have v2 : gVal b d ms y (rnd b y (nxtI ms y)) = rnd b y (nxtI ms y) := by unfold gVal; rw [if_pos okg]
            have v3 : oVal b d ms y (nxtI ms y) = nxtI ms y := by unfold oVal; rw [if_pos ask1]
            have v4 : oVal b d ms (nxtI ms y) (prvI ms (nxtI ms y)) = y := by unfold oVal; rw [if_pos ask2, hpn]
            clear hk1 hg1 hpn hring hmy hy
            have kk := KeysOf_any b d (some ⟨bk, off, none⟩) cp ms y
            have gg := GapOf_any b d (some ⟨bk, off, none⟩) cp ms y
            have nn := NextOf_any b d (some ⟨bk, off, none⟩) cp ms y
            have pp := PrevOf_any b d (some ⟨bk, off, none⟩) cp ms (nxtI ms y)
            rw [v1, okg] at kk
            rw [v2, okg] at gg
            rw [v3, ask1] at nn
            rw [v4, ask2] at pp
            have KK : Hid (∀ (w : World), ms.length ≤ maxLen → RowAt w (some ⟨bk, off, none⟩) ms → _) := kk
            have GG : Hid (∀ (w : World), ms.length ≤ maxLen → RowAt w (some ⟨bk, off, none⟩) ms → _) := gg
            have NN : Hid (∀ (w : World), ms.length ≤ maxLen → RowAt w (some ⟨bk, off, none⟩) ms → _) := nn
            have PP : Hid (∀ (w : World), ms.length ≤ maxLen → RowAt w (some ⟨bk, off, none⟩) ms → _) := pp
            clear kk gg nn pp v1 v2 v3 v4 okg ask1 ask2
            obtain ⟨⟨u1, u2⟩, u3, u4⟩ := hk2
            obtain ⟨⟨u5, u6⟩, u7, u8⟩ := hk3
            rw [HKS.out] at u5 u6
            rw [HGS.out] at u7 u8
            generalize hA1 : rnd b (prvI ms y) y = A1 at *
            generalize hA2 : rnd b y (nxtI ms y) = A2 at *
            generalize hA3 : nxtI ms y = A3 at *
            generalize hS1 : kSum b ms j = S1 at *
            generalize hS2 : gSum b ms j = S2 at *
            clear hA1 hA2 hA3 hS1 hS2
            go_wp2_with fail
            refine (KK.out _ hmx.out HRr.out).mono ?_
            rintro e w11 ⟨rfl, hw11⟩
            have bt11 := btr.step hw11
            obtain ⟨k110, k111, z11⟩ := bt11.at
            go_wp2_with fail
            refine (GG.out _ hmx.out (HR.out.keep bt11.old)).mono ?_
            rintro e w12 ⟨rfl, hw12⟩
            have bt12 := bt11.step hw12
            obtain ⟨k120, k121, z12⟩ := bt12.at
            go_wp2_with fail
            refine (NN.out _ hmx.out (HR.out.keep bt12.old)).mono ?_
            rintro e w13 ⟨rfl, hw13⟩
            have bt13 := bt12.step hw13
            obtain ⟨k130, k131, z13⟩ := bt13.at
            go_wp2_with fail
            refine (PP.out _ hmx.out (HR.out.keep bt13.old)).mono ?_
            rintro e w14 ⟨rfl, hw14⟩
            have bt14 := bt13.step hw14
            go_wp2_with fail
            go_roundw
            case rel => exact ⟨j + 1, by omega, by go_num, by rw [HKS.out], by rw [HGS.out], bt14⟩
            case measure => simp [intOf]; omega
          · have hje : j = ms.length := by omega
            subst hje
            obtain ⟨e1, e2⟩ := kSum_end RR.out
            obtain ⟨q1, q2⟩ := sum_ok hb1 hb2 e1 e2
            clear e1 e2
            generalize kSum b ms ms.length = S1 at *
            generalize gSum b ms ms.length = S2 at *
            have wr' : World := wr
            have gbr : Below w.heap.size w wr := belt gb1 btr.old
            go_wp2_with fail
            refine (drawKeys_any _ _ ys _ hm2 (HR2.out.keep gbr)).mono ?_
            rintro e w30 ⟨b2, d2, v30, x2, rfl, sm30, hw30⟩
            have gb30 : Below w.heap.size w w30 := belt gbr hw30
            obtain ⟨a2, cp2, ms2, rfl, hcp2, hl92, hr30, _⟩ := sm30
            have HS : Hid (RowAt w30 a2 ms2) := hr30
            have hmx2 : Hid (ms2.length ≤ maxLen) := by unfold Hid maxLen; omega
            clear hr30
            go_wp2_with fail
            refine (KeysOf_any b2 d2 a2 cp2 ms2 x2 _ hmx2.out (HS.out.alloc _)).mono ?_
            rintro e w31 ⟨rfl, hw31⟩
            have bu31 := Bt.first hw31
            obtain ⟨l310, l311, y31⟩ := bu31.at
            go_wp2_with fail
            refine (lKeysOf_any b2 d2 a2 cp2 ms2 x2 _ hmx2.out (HS.out.keep bu31.old)).mono ?_
            rintro e w32 ⟨rfl, hw32⟩
            have bu32 := bu31.step hw32
            obtain ⟨l320, l321, y32⟩ := bu32.at
            go_wp2_with fail
            refine (GapOf_any b2 d2 a2 cp2 ms2 x2 _ hmx2.out (HS.out.keep bu32.old)).mono ?_
            rintro e w33 ⟨rfl, hw33⟩
            have bu33 := bu32.step hw33
            obtain ⟨l330, l331, y33⟩ := bu33.at
            go_wp2_with fail
            refine (lGapOf_any b2 d2 a2 cp2 ms2 x2 _ hmx2.out (HS.out.keep bu33.old)).mono ?_
            rintro e w34 ⟨rfl, hw34⟩
            have bu34 := bu33.step hw34
            have gb34 : Hid (Below w.heap.size w w34) := belt gb30 bu34.old
            go_wp2
            go_ret
            exact ⟨by simp, gb34.out⟩
  · go_enter Try.func3, Try.ntmps3
    go_wp2_with fail
    refine (big_any _ _ _ _ _ _ _ HX.out HY.out).mono ?_
    rintro e w0 ⟨rfl, hw0⟩
    replace hw0 := hw0.symm
    subst hw0
    go_wp2
    go_ret
    exact ⟨rfl, Below.refl _ _⟩

set_option maxRecDepth 100000 in
theorem fnOwners_lifted (os : Os) (started : os.Started) (H : Type) (enc : TypeId × Value → H) :
    ReturnsInHanded {} Try.checked os 3 .any (Rows.fnOwnersSpec.pre6 enc Try.prog Try.f3 Rows.fnOwnersRow.domain false) (Rows.fnOwnersSpec.post enc Try.prog Try.f3 false true false false) := by
  refine returnsInHanded_of_change (C := Try.checked) own started (by kernel_rfl) Try.func3
    (ChangeSpec.witness6 (enc := enc) (C := Try.checked) false ⟨#[], #[.slice none 0 0, .slice none 0 0], []⟩ 8 (by kernel_rfl) (by kernel_rfl) (by kernel_rfl) (by kernel_rfl)) ?_
  intro W base args ds gs before hval0 hW hcnd _
  have hval : ∀ (j : Nat) t v, Try.f3.params[j]? = some t → args[j]? = some v → Value.okWide Try.prog W .any base t v := hval0
  have hW' := hW
  obtain ⟨p, q, hA0, hV, rfl, hfz, hnd⟩ := hW
  have hA : DataW.TrodAll enc Try.prog W 0 (fun _ => true) true Try.f3.params.toList args.toList ds p := hA0
  rw [Try.params3] at hA hval
  obtain ⟨v0, vs0, d0, ds0, p0, q0, hargs, rfl, rfl, h0, r0⟩ := trodAll_cons hA
  obtain ⟨v1, vs1, d1, ds1, p1, q1, rfl, rfl, rfl, h1, r1⟩ := trodAll_cons r0
  obtain ⟨rfl, rfl, rfl⟩ := trodAll_nil r1
  obtain rfl : args = #[v0, v1] := by cases args; simp_all
  obtain ⟨rfl, rfl⟩ := trodVars_none hV
  obtain ⟨a0, len0, cap0, rfl⟩ := okWide_slice Try.underlying22 (hval 0 22 v0 rfl rfl)
  have k0 := h0
  have lt0 : ∀ x ∈ p0, x.block < W.heap.size := by obtain ⟨m, hm⟩ := k0; exact DataW.trod_lt m _ _ _ hm
  obtain ⟨z0, w0⟩ : ∃ zs, IsRowU W a0 len0 cap0 zs := by
    obtain ⟨fuel, hf⟩ := h0
    rcases open_ints Try.underlying22 Try.underlying5 (by kernel_rfl) hf with ⟨hcs, _⟩ | ⟨x, l, c, zs, hcs, _, hl, hm, hz, _, hcell, hwz⟩
    · simp [Value.cells] at hcs
      obtain ⟨rfl, rfl, rfl⟩ := hcs
      exact ⟨[], .inl ⟨rfl, rfl, rfl, rfl⟩⟩
    · simp [Value.cells] at hcs
      obtain ⟨rfl, rfl, rfl⟩ := hcs
      exact ⟨zs, .inr ⟨_, rfl, hl, hm, by simpa using hz, hcell, hwz⟩⟩
  obtain ⟨a1, len1, cap1, rfl⟩ := okWide_slice Try.underlying22 (hval 1 22 v1 rfl rfl)
  have k1 := h1
  have lt1 : ∀ x ∈ p1, x.block < W.heap.size := by obtain ⟨m, hm⟩ := k1; exact DataW.trod_lt m _ _ _ hm
  obtain ⟨z1, w1⟩ : ∃ zs, IsRowU W a1 len1 cap1 zs := by
    obtain ⟨fuel, hf⟩ := h1
    rcases open_ints Try.underlying22 Try.underlying5 (by kernel_rfl) hf with ⟨hcs, _⟩ | ⟨x, l, c, zs, hcs, _, hl, hm, hz, _, hcell, hwz⟩
    · simp [Value.cells] at hcs
      obtain ⟨rfl, rfl, rfl⟩ := hcs
      exact ⟨[], .inl ⟨rfl, rfl, rfl, rfl⟩⟩
    · simp [Value.cells] at hcs
      obtain ⟨rfl, rfl, rfl⟩ := hcs
      exact ⟨zs, .inr ⟨_, rfl, hl, hm, by simpa using hz, hcell, hwz⟩⟩
  clear hA0 hval0
  obtain ⟨y0, e0, m0, q0⟩ := isRowU_rowB w0
  obtain ⟨y1, e1, m1, q1⟩ := isRowU_rowB w1
  subst e0 e1
  refine (wFnOwners a0 a1 cap0 cap1 y0 y1 W m0 m1 q0 q1).mono fun e W' ⟨he, bel⟩ => ?_
  subst he
  exact ⟨_, rfl, _, _, _, [], _, [], hW', trodAll_mk1 (shut_bool Try.underlying4 _), (trodAll_cons_mk (Below.trod laidOut (by kernel_rfl) (of_decide_eq_true (by kernel_rfl)) k0 bel lt0) (trodAll_cons_mk (Below.trod laidOut (by kernel_rfl) (of_decide_eq_true (by kernel_rfl)) k1 bel lt1) trodAll_mk0)), rfl, bel.frame _, fun h => by cases h⟩

theorem fnOwners_holds : Rows.FnOwnersSaid :=
  OpenClaim.holds_of_wide 3 Try.f3 rfl rfl rfl rfl rfl rfl rfl ⟨rfl, rfl, rfl, rfl, rfl⟩ rfl rfl rfl rfl rfl (by kernel_rfl) Try.func3 (by kernel_rfl)
    (of_decide_eq_true (by kernel_rfl)) (by unfold Func.isWrapper; first | (rw [if_pos (by decide +kernel)]; kernel_rfl) | (rw [if_neg (by decide +kernel)]; exact ⟨rfl, rfl⟩))
    (fun os started H enc _ => fnOwners_lifted os started H enc)
#print axioms fnOwners_holds
end Go.Proofs.Ytjolkpfenloobaa
