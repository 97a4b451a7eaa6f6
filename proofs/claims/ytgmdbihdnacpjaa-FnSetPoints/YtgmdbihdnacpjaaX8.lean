/- The specification's SetPoint. -/
import Derived.Test.YtgmdbihdnacpjaaX7
namespace Go.Proofs.Ytgmdbihdnacpjaa
open Go.RowKit Go.Deep
set_option linter.unusedVariables false
theorem spL_ids (ps : List Pr) (x pt : Int) (bs : List Int) : idsP (spL ps x pt bs) = idsP ps := by
  unfold idsP spL
  rw [List.map_map]
  refine List.map_congr_left (fun p _ => ?_)
  show (if p.id = x then (⟨p.id, p.succ, pt, bs⟩ : Pr) else p).id = p.id
  split <;> rfl
theorem goodP_ring' {b d : Int} {ps : List Pr} (h : goodP b d ps = true) : ringB b d (idsP ps) = true := by
  unfold goodP at h
  rw [Bool.and_eq_true] at h
  exact h.1
theorem sp_good {b d : Int} {ps : List Pr} {x pt : Int} {bs : List Int} (hg : goodP b d ps = true) (hx : memI (idsP ps) x = true) : goodP b d (spL ps x pt bs) = (memI (idsP ps) pt && bokB (idsP ps) bs) := by
  obtain ⟨R, hp⟩ := goodP_true hg
  have hil := idsP_len ps
  have hk : blw (idsP ps) x < ps.length := by have := (of_decide_eq_true hx).1; rwa [hil] at this
  have one : ∀ i, i < ps.length → ((ps.getD i pr0).id = x ↔ i = blw (idsP ps) x) := fun i hi => by
    have := blw_one R hx (i := i) (by rw [hil]; exact hi)
    rwa [idsP_get] at this
  have hq : prB (idsP ps) ((spL ps x pt bs).getD (blw (idsP ps) x) pr0) = (memI (idsP ps) pt && bokB (idsP ps) bs) := by
    rw [spL_get hk, if_pos ((one _ hk).2 rfl), ← prI_eq R]
    have := (prB_parts.1 (hp _ hk)).1
    unfold prI
    show (decide (_ = _) && memI (idsP ps) pt && bokB (idsP ps) bs) = _
    rw [decide_eq_true this]; rfl
  cases hv : (memI (idsP ps) pt && bokB (idsP ps) bs)
  · rw [hv] at hq
    exact goodP_no (k := blw (idsP ps) x) (by rw [spL_len]; exact hk) (by rw [spL_ids, hq]; simp)
  · rw [hv] at hq
    refine goodP_yes (by rw [spL_ids]; exact goodP_ring' hg) (fun i hi => ?_)
    rw [spL_len] at hi
    rw [spL_ids]
    by_cases he : i = blw (idsP ps) x
    · rw [he]; exact hq
    · rw [spL_get hi, if_neg (fun h => he ((one i hi).1 h))]
      exact hp i hi
set_option maxRecDepth 100000 in
set_option maxHeartbeats 12800000 in
theorem lSetPoint_any (b d : Int) (a : Option Addr) (cap : Nat) (ps : List Pr) (x pt : Int) (ab : Option Addr) (cb : Nat) (bs : List Int) (w : World) (hm : ps.length ≤ 1048576) (hr : PeersAt w a ps) (hmb : bs.length ≤ 1048576) (hrb : RowAt w ab bs) (hnb : ab = none → cb = 0) :
    Calls Try.prog 14 #[.agg #[.int .i64 b, .int .i64 d, .slice a ps.length cap], .int .i64 x, .int .i64 pt, .slice ab bs.length cb] w fun e w' => ∃ v, e = .returned v ∧ Below w.heap.size w w' ∧
      ((spOk b d ps x pt bs = false ∧ v = .tuple #[.agg #[.int .i64 0, .int .i64 0, .slice none 0 0], .bool false]) ∨ (spOk b d ps x pt bs = true ∧ ∃ a0 cp, v = .tuple #[.agg #[.int .i64 b, .int .i64 d, .slice a0 ps.length cp], .bool true] ∧ PeersAt w' a0 (spL ps x pt bs))) := by
  have rb := rb0 w #[.int .i64 b, .int .i64 d, .slice a ps.length cap] 28
  have CG := lgood_any b d a cap ps _ hm (hr.keep rb.bel)
  have HR : Hid (PeersAt w a ps) := hr
  have HRB : Hid (RowAt w ab bs) := hrb
  have HNB : Hid (ab = none → cb = 0) := hnb
  have RB0 : Hid (RB w _ #[.int .i64 b, .int .i64 d, .slice a ps.length cap] 28) := rb
  have hil := idsP_len ps
  clear hr rb hrb hnb
  cases hg : goodP b d ps
  · have hv : Hid (spOk b d ps x pt bs = false) := spOk_false (.inl hg)
    rw [hg] at CG
    go_enter Try.func14, Try.ntmps14
    go_wp2_with fail
    refine CG.mono ?_
    rintro e w1 ⟨rfl, hw1⟩
    have RB1 : Hid (RB w w1 #[.int .i64 b, .int .i64 d, .slice a ps.length cap] 28) := RB0.out.keep hw1
    clear CG hw1
    obtain ⟨r0, r1, r2, q0, q1, q2⟩ := RB1.out.cells
    go_wp2
    refine bodyPost_ret (results_cell_tmp Try.results14 _ _ (w.heap.size + 1) _ _ _ _ _ rfl rfl (set3_row RB1.out.r) Try.underlying28 rfl (by kernel_rfl)) rfl ⟨_, rfl, set3_below RB1.out.bel (by omega), .inl ⟨hv.out, rfl⟩⟩
  · rw [hg] at CG
    obtain ⟨R, hp⟩ := goodP_true hg
    have l1 : 1 ≤ ps.length := by have := R.l1; rwa [idsP_len] at this
    have l2 : ps.length ≤ 16 := by have := R.l2; rwa [idsP_len] at this
    have RR : Hid (Ring b d (idsP ps)) := R
    have HG : Hid (goodP b d ps = true) := hg
    have HB3 : Hid (∀ i, i < ps.length → (ps.getD i pr0).backs.length ≤ 1048576) := fun i hi => by have := (prB_parts.1 (hp i hi)).2.2.1; omega
    clear R hp hg
    go_enter Try.func14, Try.ntmps14
    go_wp2_with fail
    refine CG.mono ?_
    rintro e w1 ⟨rfl, hw1⟩
    have RB1 : Hid (RB w w1 #[.int .i64 b, .int .i64 d, .slice a ps.length cap] 28) := RB0.out.keep hw1
    clear CG hw1
    obtain ⟨s0, s1, s2⟩ := RB1.out.arg3
    have hlt1 := RB1.out.lt
    go_wp2_with fail
    refine (lownP_any b d a cap ps w1 hm HB3.out (HR.out.keep RB1.out.bel)).mono ?_
    rintro e w2 ⟨vl, L, rfl, hL, lp, hw2⟩
    have RB2 : Hid (RB w w2 #[.int .i64 b, .int .i64 d, .slice a ps.length cap] 28) := RB1.out.keep hw2
    obtain ⟨al, cl, rfl, hcl⟩ := lp.form
    have hLl : L.length = ps.length := by rw [← hL, List.length_map]
    obtain ⟨G, cl', hvl⟩ := Joins.ownsRow_form lp.own (by omega)
    simp at hvl
    obtain ⟨rfl, rfl⟩ := hvl
    have S20 := sps0 (b := b) (d := d) (n := L.length) (c := cl) RB2.out lp.ownP (by omega)
    rw [hLl] at S20 ⊢
    have S2 : Hid (SPS w _ #[.int .i64 b, .int .i64 d, .slice a ps.length cap] 28 b d w2.heap.size G ps.length cl L) := S20
    have HL0 : Hid (∀ j, j < ps.length → (L.getD j d0).1 = ps.getD j pr0) := fun j hj => by
      rw [← hL]
      simp [List.getD_eq_getElem?_getD, List.getElem?_eq_getElem (show j < L.length by omega)]
    have HLL0 : Hid (L.length = ps.length) := hLl
    clear S20 s0 s1 s2 lp hw2 hL hLl hcl RB1 RB2 hlt1
    obtain ⟨x0, x1, x2⟩ := S2.out.cell
    go_wp2_with fail
    clear x0 x1 x2
    obtain ⟨X, hX⟩ : ∃ X, X = w2.heap.size := ⟨_, rfl⟩
    rw [← hX] at S2
    rw [← hX]
    clear hX
    go_loopw [22] (fun vi wr => ∃ (k : Nat) (M : List (Pr × Value)), k ≤ ps.length ∧ vi = .int .i64 k ∧ Hid (SPS w wr #[.int .i64 b, .int .i64 d, .slice a ps.length cap] 28 b d X G ps.length cl M) ∧ Hid (M.length = ps.length) ∧ Hid (∀ j, j < ps.length → (M.getD j d0).1 = if j < k then (spL ps x pt bs).getD j pr0 else ps.getD j pr0)) (fun vi _ => ps.length - (intOf vi).toNat)
    case atStart => exact ⟨0, L, Nat.zero_le _, rfl, S2, HLL0, fun j hj => by rw [if_neg (by omega)]; exact HL0.out j hj⟩
    case round =>
      obtain ⟨k, M, hk, rfl, ST, HML, HS⟩ := hrel
      clear S2 HL0 HLL0
      by_cases hlt : k < ps.length
      · have hkM : k < M.length := by rw [HML.out]; exact hlt
        obtain ⟨c0, c1, c2, c3⟩ := ST.out.ow.cel k hkM
        obtain ⟨av, cv, hv3, _⟩ := ST.out.ow.val k hkM
        rw [hv3] at c3
        have hMk := HS.out k hlt
        rw [if_neg (by omega)] at hMk
        have HSP : Hid ((spL ps x pt bs).getD k pr0 = if (ps.getD k pr0).id = x then ⟨(ps.getD k pr0).id, (ps.getD k pr0).succ, pt, bs⟩ else ps.getD k pr0) := spL_get hlt
        have HMK : Hid ((M.getD k d0).1 = ps.getD k pr0) := hMk
        rw [hMk] at c0 c1 c2 c3
        clear hv3 hMk
        obtain ⟨z0, hz0⟩ : ∃ z, z = (ps.getD k pr0).id := ⟨_, rfl⟩
        have HZ0 : Hid (z0 = (ps.getD k pr0).id) := hz0
        rw [← hz0] at c0
        clear hz0
        generalize (ps.getD k pr0).succ = z1 at c1
        generalize (ps.getD k pr0).point = z2 at c2
        generalize (ps.getD k pr0).backs.length = z3 at c3
        have hX := ST.out.hi
        have hlo := ST.out.lo
        by_cases he : z0 = x
        · have he' : (z0 == x) = true := beq_iff_eq.2 he
          have HE : Hid ((spL ps x pt bs).getD k pr0 = ⟨(ps.getD k pr0).id, (ps.getD k pr0).succ, pt, bs⟩) := by
            unfold Hid
            rw [HSP.out, if_pos (by rw [← HZ0.out]; exact he)]
          clear he HSP
          have SA := ST.out.keep (belA wr (.cells #[.int .i64 z0, .int .i64 z1, .int .i64 z2, .slice av z3 cv] 37))
          have SB0 := SA.num hkM 2 (by omega) pt
          obtain ⟨wq, hwq⟩ : ∃ wq, wq = (wr.alloc (.cells #[.int .i64 z0, .int .i64 z1, .int .i64 z2, .slice av z3 cv] 37)).setCell ⟨G, k * 4 + 2, none⟩ (.int .i64 pt) := ⟨_, rfl⟩
          rw [← hwq] at SB0
          have SB : Hid _ := SB0
          obtain ⟨y0, y1, y2⟩ := SA.cell
          obtain ⟨_, _, e2, _⟩ := SA.ow.cel k hkM
          have f2 := SA.at (k * 4 + 2)
          have hne := SA.ne
          have hGlt := SA.ow.lt
          rw [HMK.out] at e2
          generalize (ps.getD k pr0).point = z2' at e2
          obtain ⟨p0, p1, p2⟩ := ST.out.cell
          clear SA SB0
          go_wp2_with fail
          rw [← hwq]
          clear hwq y0 y1 y2 e2 f2 c0 c1 c2 c3 p0 p1 p2 hGlt
          have hkM2 : k < (M.set k (setF 2 (M.getD k d0).1 pt, (M.getD k d0).2)).length := by rw [List.length_set]; exact hkM
          have sta := SB.out.keep ((Below.refl _ _).drew)
          have xa := sta.cell.2.2
          go_region_held (fun w' => w'.cell? ⟨X, 2, none⟩ = some (.slice (some ⟨G, 0, none⟩) ps.length cl)) (with_reducible (first | exact xa | exact xb | exact xc _)) (first
            | (go_at_call 52; refine (lownG_any ab cb bs _ hmb (HRB.out.keep sta.rb.bel) HNB.out).mono ?_; rintro e wd ⟨gd, cd, rfl, hcd, osd, hwd⟩; have stb := sta.keep hwd; have xb := stb.cell.2.2; have xc : ∀ v, (wd.setCell ⟨G, k * 4 + 3, none⟩ v).cell? ⟨X, 2, none⟩ = some (.slice (some ⟨G, 0, none⟩) ps.length cl) := fun v => (cell_far hne).trans xb; have d3 := (stb.ow.cel k hkM2).c3; have g3 := stb.at (k * 4 + 3)))
          have S9 := sta.backs hwd hkM2 hmb hcd osd
          rw [getD_same hkM, List.set_set] at S9
          have S9' : Hid _ := S9
          clear d3 g3 xa xb xc osd S9
          go_wp2_with fail
          go_roundw
          case rel => exact ⟨k + 1, _, by omega, by go_num, S9', by unfold Hid; rw [List.length_set]; exact HML.out, fun j hj => by
            rw [getD_set (by rw [HML.out]; exact hj)]
            by_cases hij : k = j
            · subst hij
              rw [if_pos rfl, if_pos (by omega), HE.out, HMK.out]; rfl
            · rw [if_neg hij, HS.out j hj]
              by_cases hjk : j < k
              · rw [if_pos hjk, if_pos (by omega)]
              · rw [if_neg hjk, if_neg (by omega)]⟩
          case measure => simp [intOf]; omega
        · have he' : (z0 == x) = false := by simp only [beq_eq_false_iff_ne, ne_eq]; exact he
          have HE : Hid ((spL ps x pt bs).getD k pr0 = ps.getD k pr0) := by
            unfold Hid
            rw [HSP.out, if_neg (by rw [← HZ0.out]; exact he)]
          clear he HSP
          have SA : Hid _ := ST.out.keep (belA wr (.cells #[.int .i64 z0, .int .i64 z1, .int .i64 z2, .slice av z3 cv] 37))
          go_wp2_with fail
          go_roundw
          case rel => exact ⟨k + 1, M, by omega, by go_num, SA, HML, fun j hj => by
            rw [HS.out j hj]
            by_cases hjk : j < k
            · rw [if_pos hjk, if_pos (by omega)]
            · by_cases hij : j = k
              · subst hij; rw [if_neg hjk, if_pos (by omega), HE.out]
              · rw [if_neg hjk, if_neg (by omega)]⟩
          case measure => simp [intOf]; omega
      · obtain rfl : k = ps.length := by omega
        have HMAP : Hid (M.map (·.1) = spL ps x pt bs) := map_getD (by rw [HML.out, spL_len]) (fun j hj => by
          rw [spL_len] at hj
          rw [HS.out j hj, if_pos hj])
        clear HS
        obtain ⟨s0, s1, s2⟩ := ST.out.rb.arg3
        go_wp2_with fail
        refine (lmembers_any b d a cap ps wr hm (HR.out.keep ST.out.rb.bel)).mono ?_
        rintro e wa ⟨va, rfl, owa, hwa⟩
        obtain ⟨a1, cap1, rfl, hc1, hrow1⟩ := own_rowAt owa
        have STa : Hid (SPS w wa #[.int .i64 b, .int .i64 d, .slice a ps.length cap] 28 b d X G ps.length cl M) := ST.out.keep hwa
        have CX := lhas_any a1 cap1 (idsP ps) x wa (by rw [hil]; unfold maxLen; omega) hrow1
        rw [hil] at CX ⊢
        clear owa hrow1 hc1 hwa ST s0 s1 s2
        cases hx : hasB (idsP ps) x
        · have hv : Hid (spOk b d ps x pt bs = false) := spOk_false (.inr (.inl (by rw [mem_has RR.out]; exact hx)))
          rw [hx] at CX
          go_wp2_with fail
          refine CX.mono ?_
          rintro e wb ⟨rfl, hb⟩
          have hb := hb.symm
          subst hb
          obtain ⟨r0, r1, r2, q0, q1, q2⟩ := STa.out.rb.cells
          go_wp2
          refine bodyPost_ret (results_cell_tmp Try.results14 _ _ (w.heap.size + 1) _ _ _ _ _ rfl rfl (set3_row STa.out.rb.r) Try.underlying28 rfl (by kernel_rfl)) rfl ⟨_, rfl, set3_below STa.out.rb.bel (by omega), .inl ⟨hv.out, rfl⟩⟩
        · rw [hx] at CX
          have hxm : memI (idsP ps) x = true := by rw [mem_has RR.out]; exact hx
          have hsg := sp_good (pt := pt) (bs := bs) HG.out hxm
          obtain ⟨x0, x1, x2⟩ := STa.out.cell
          go_wp2_with fail
          refine CX.mono ?_
          rintro e wb ⟨rfl, hb⟩
          have hb := hb.symm
          subst hb
          have PP := STa.out.ow.peersAt
          rw [HMAP.out] at PP
          have CGG := lgood_any b d (some ⟨G, 0, none⟩) cl (spL ps x pt bs) wa (by rw [spL_len]; exact hm) PP
          rw [spL_len] at CGG
          cases hq : goodP b d (spL ps x pt bs)
          · have hv : Hid (spOk b d ps x pt bs = false) := by
              unfold Hid spOk
              rw [hq] at hsg
              rw [Bool.and_assoc, ← hsg, Bool.and_false]
            rw [hq] at CGG
            clear hsg hq PP
            go_wp2_with fail
            refine CGG.mono ?_
            rintro e wc ⟨rfl, hwc⟩
            have STc : Hid (SPS w wc #[.int .i64 b, .int .i64 d, .slice a ps.length cap] 28 b d X G ps.length cl M) := STa.out.keep hwc
            clear CGG hwc STa x0 x1 x2
            obtain ⟨r0, r1, r2, q0, q1, q2⟩ := STc.out.rb.cells
            go_wp2
            refine bodyPost_ret (results_cell_tmp Try.results14 _ _ (w.heap.size + 1) _ _ _ _ _ rfl rfl (set3_row STc.out.rb.r) Try.underlying28 rfl (by kernel_rfl)) rfl ⟨_, rfl, set3_below STc.out.rb.bel (by omega), .inl ⟨hv.out, rfl⟩⟩
          · rw [hq] at CGG hsg
            have hpp := Bool.and_eq_true_iff.1 hsg.symm
            have hv : Hid (spOk b d ps x pt bs = true) := by
              unfold Hid spOk
              rw [HG.out, hxm, hpp.1, hpp.2]; rfl
            have hptb : hasB (idsP ps) pt = true := by rw [← mem_has RR.out]; exact hpp.1
            clear hsg hq PP hpp
            go_wp2_with fail
            refine CGG.mono ?_
            rintro e wc ⟨rfl, hwc⟩
            have STc : Hid (SPS w wc #[.int .i64 b, .int .i64 d, .slice a ps.length cap] 28 b d X G ps.length cl M) := STa.out.keep hwc
            obtain ⟨s0, s1, s2⟩ := STc.out.rb.arg3
            clear CGG hwc STa x0 x1 x2
            go_wp2_with fail
            refine (lmembers_any b d a cap ps wc hm (HR.out.keep STc.out.rb.bel)).mono ?_
            rintro e wd ⟨vd, rfl, owd, hwd⟩
            obtain ⟨a2, cap2, rfl, hc2, hrow2⟩ := own_rowAt owd
            have STd : Hid (SPS w wd #[.int .i64 b, .int .i64 d, .slice a ps.length cap] 28 b d X G ps.length cl M) := STc.out.keep hwd
            have CY := lhas_any a2 cap2 (idsP ps) pt wd (by rw [hil]; unfold maxLen; omega) hrow2
            rw [hil, hptb] at CY
            rw [hil]
            clear owd hrow2 hc2 hwd STc s0 s1 s2
            go_wp2_with fail
            refine CY.mono ?_
            rintro e we ⟨rfl, hb⟩
            have hb := hb.symm
            subst hb
            obtain ⟨x0, x1, x2⟩ := STd.out.cell
            obtain ⟨r0, r1, r2, q0, q1, q2⟩ := STd.out.rb.cells
            have hlo := STd.out.lo
            have PF : Hid (PeersAt (set3 wd (w.heap.size + 1) (.int .i64 b) (.int .i64 d) (.slice (some ⟨G, 0, none⟩) ps.length cl)) (some ⟨G, 0, none⟩) (spL ps x pt bs)) := by
              have hG := STd.out.ow.lo
              have := (STd.out.ow.blocks (w1 := set3 wd (w.heap.size + 1) (.int .i64 b) (.int .i64 d) (.slice (some ⟨G, 0, none⟩) ps.length cl)) (fun k hk _ _ => set3_block (by omega))).peersAt
              rw [HMAP.out] at this
              exact this
            go_wp2
            refine bodyPost_ret (results_cell_tmp Try.results14 _ _ (w.heap.size + 1) _ _ _ _ _ rfl rfl (set3_row STd.out.rb.r) Try.underlying28 rfl (by kernel_rfl)) rfl ⟨_, rfl, set3_below STd.out.rb.bel (by omega), .inr ⟨hv.out, _, _, rfl, PF.out⟩⟩
end Go.Proofs.Ytgmdbihdnacpjaa
