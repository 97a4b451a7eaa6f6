/- The program's IsIdeal. -/
import Derived.Test.YtgmdbihdnacpjaaX3
namespace Go.Proofs.Ytgmdbihdnacpjaa
open Go.RowKit
set_option linter.unusedVariables false
set_option maxRecDepth 100000 in
set_option maxHeartbeats 12800000 in
theorem IsIdeal_any (b d : Int) (a : Option Addr) (cap : Nat) (ps : List Pr) (w : World) (hm : ps.length ≤ 1048576) (hr : PeersAt w a ps) :
    Calls Try.prog 36 #[.agg #[.int .i64 b, .int .i64 d, .slice a ps.length cap]] w fun e w' => e = .returned (.tuple #[.bool (idlB b d ps), .bool (goodP b d ps)]) ∧ Below w.heap.size w w' := by
  have hr1 := hr.alloc (.cells #[.int .i64 b, .int .i64 d, .slice a ps.length cap] 28)
  have CG := GoodPeers_any b d a cap ps _ hm hr1
  have HR : Hid (PeersAt w a ps) := hr
  clear hr hr1
  unfold idlB
  cases hg : goodP b d ps
  · rw [hg] at CG
    go_enter Try.func36, Try.ntmps36
    go_wp2_with fail
    refine CG.mono ?_
    rintro e w1 ⟨rfl, hw1⟩
    go_wp2
    go_ret2
    exact ⟨rfl, bel1 hw1 (by simp)⟩
  · rw [hg] at CG
    obtain ⟨R, hp⟩ := goodP_true hg
    have hrg := goodP_ring hg
    have hil := idsP_len ps
    have hl1 : 1 ≤ ps.length := by have := R.l1; rwa [idsP_len] at this
    have hl2 : ps.length ≤ 16 := by have := R.l2; rwa [idsP_len] at this
    have hmm : ps.length ≤ maxLen := by unfold maxLen; omega
    have hn3 := (prB_parts.1 (hp 0 (by omega))).2.2.1
    clear R hp
    obtain ⟨bk, off, rfl⟩ := peersAt_form HR.out (by omega)
    obtain ⟨_, _, _, ab, cb, c3, _, _, _⟩ := (peersAt_cell HR.out (by omega)).2 0 (by omega)
    have hbk := (peersAt_cell HR.out (by omega)).1
    have HC3 : Hid (w.cell? ⟨bk, off + 3, none⟩ = some (.slice ab (ps.getD 0 pr0).backs.length cb)) := by unfold Hid; simpa using c3
    have HOK : Hid (idlOk b d (idsP ps) ((ps.getD 0 pr0).backs.length : Int) = true) := idlOk_good hrg hn3
    clear c3 hrg hg
    obtain ⟨nb, hnb⟩ : ∃ nb, nb = (ps.getD 0 pr0).backs.length := ⟨_, rfl⟩
    rw [← hnb] at HC3 hn3 HOK ⊢
    clear hnb
    obtain ⟨qs, hqs⟩ : ∃ qs, qs = idealL b d (idsP ps) nb := ⟨_, rfl⟩
    have HQ : Hid (qs = idealL b d (idsP ps) nb) := hqs
    have hql : qs.length = ps.length := by rw [hqs, idealL_len, hil]
    have HQL : Hid (qs.length = ps.length) := hql
    rw [← hqs]
    clear hqs hql
    go_enter Try.func36, Try.ntmps36
    go_wp2_with fail
    refine CG.mono ?_
    rintro e w1 ⟨rfl, hw1⟩
    have hbel := bel1 hw1 (by simp)
    have ST : Hid (ISt w w1 b d bk off ps.length cap (.slice ab nb cb)) := ⟨bxP1 hw1 (by simp), Nat.lt_of_lt_of_le hbk hbel.size, (hbel.cell (p := ⟨bk, off + 3, none⟩) hbk).trans HC3.out⟩
    clear CG hw1 hbel HC3
    have hpos : 0 < ps.length := hl1
    have hposI : (0 : Int) < (ps.length : Int) := by omega
    go_upto_region 3 with (fail)
    go_cut [4] (fun v4 wc => ∃ X g, v4 = .pointer (some ⟨X, 0, none⟩) ∧ Hid (IY w wc b d (some ⟨bk, off, none⟩) ps.length cap X g qs))
    case first =>
      have sta := ST.out.keep ((Below.refl _ _).drew)
      have ixa := (ix_new ST.out).keep ((Below.refl _ _).drew)
      have staA := ixa.st
      go_region_held (fun w' => w'.cell? ⟨w.heap.size, 0, none⟩ = some (.int .i64 b) ∧ w'.cell? ⟨w.heap.size, 1, none⟩ = some (.int .i64 d) ∧ w'.cell? ⟨w.heap.size, 2, none⟩ = some (.slice (some ⟨bk, off, none⟩) ps.length cap) ∧ w'.cell? ⟨bk, off + 3, none⟩ = some (.slice ab nb cb)) (with_reducible (first | exact sta.qq | exact staA.qq | exact stb.qq | exact stbA.qq | exact stc.qq | exact ixc.st.qq | exact (stc.keep (belA _ _)).qq | exact ixc.qq3 hbk _ _ _)) (first
        | (go_at_call 44; refine (idsOf_any w.heap.size _ cap ps _ hm sta.bx.lt sta.bx.c2 (HR.out.keep sta.bx.bel)).mono ?_; rintro e wa ⟨rfl, owa⟩; have stb := sta.keep owa.bel; have HROW : Hid (RowAt wa (some ⟨w1.heap.size, 0, none⟩) (idsP ps)) := rowAt_of_row owa.row; have ixb := ix_new stb; have stbA := ixb.st; clear owa)
        | (go_at_call 44; refine (idsOf_any w.heap.size _ cap ps _ hm staA.bx.lt staA.bx.c2 (HR.out.keep staA.bx.bel)).mono ?_; rintro e wa ⟨rfl, owa⟩; have ixb := ixa.keep owa.bel; have stb := ixb.st; have HROW : Hid (RowAt wa (some ⟨w1.heap.size + 1, 0, none⟩) (idsP ps)) := (by have := rowAt_of_row owa.row; simp only [heap_drew, World.size_alloc] at this; exact this); have stbA := stb; clear owa)
        | (go_at_call 28; have CI := IdealPeers_ok b d nb _ ps.length (idsP ps) _ (by rw [hil]; exact hmm) HROW.out HOK.out; rw [hil] at CI; refine CI.mono ?_; rintro e wb ⟨g, L, rfl, hL, ow, hwb⟩; have ixc := ixb.keep hwb; have stc := ixc.st; obtain ⟨n0, n1, n2, m0, m1, m2⟩ := ixc.cells; have hp := ow.peersAt; rw [hL, ← HQ.out] at hp; have HPP : Hid _ := hp; clear hp)
        | (go_at_call 28; have CI := IdealPeers_ok b d nb _ ps.length (idsP ps) _ (by rw [hil]; exact hmm) HROW.out HOK.out; rw [hil] at CI; refine CI.mono ?_; rintro e wb ⟨g, L, rfl, hL, ow, hwb⟩; have stc := stb.keep hwb; have ixc := ix_new stc; obtain ⟨n0, n1, n2, m0, m1, m2⟩ := ixc.cells; have hp := ow.peersAt; rw [hL, ← HQ.out] at hp; have HPP : Hid _ := hp; clear hp)
        | (go_at_call 28; have CI := IdealPeers_ok b d nb _ ps.length (idsP ps) _ (by rw [hil]; exact hmm) (RowAt.keep HROW.out (belA _ (.cells #[.int .i64 0, .int .i64 0, .slice none 0 0] 28))) HOK.out; rw [hil] at CI; refine CI.mono ?_; rintro e wb ⟨g, L, rfl, hL, ow, hwb⟩; have ixc := ixb.keep hwb; have stc := ixc.st; obtain ⟨n0, n1, n2, m0, m1, m2⟩ := ixc.cells; have hp := ow.peersAt; rw [hL, ← HQ.out] at hp; have HPP : Hid _ := hp; clear hp))
      all_goals (go_wp2_with fail; go_meet; first | exact ⟨_, _, rfl, iy_new stc HPP.out⟩ | exact ⟨_, _, rfl, iy_set ixc ow (by have := ixb.hi; first | exact this | (simp at this; omega)) (hL.trans HQ.out.symm)⟩)
    case rest =>
      obtain ⟨X, g, rfl, Y0⟩ := hcut
      obtain ⟨_, _, k0, k1, k2⟩ := Y0.out.bx
      clear ST hn3 HOK
      go_wp2_with fail
      go_loopw [26] (fun vi wr => ∃ k : Nat, k ≤ ps.length ∧ vi = .int .i64 k ∧ Hid (IY w wr b d (some ⟨bk, off, none⟩) ps.length cap X g qs) ∧ Hid (∀ i, i < k → smP (ps.getD i pr0) (qs.getD i pr0) = true)) (fun vi _ => ps.length - (intOf vi).toNat)
      case atStart => exact ⟨0, Nat.zero_le _, rfl, Y0, fun i hi => by omega⟩
      case round =>
        obtain ⟨k, hk, rfl, YY, HS⟩ := hrel
        clear Y0 k0 k1 k2
        by_cases hlt : k < ps.length
        · have hb1 := YY.out.bx.bel
          have HPW := HR.out.keep hb1
          obtain ⟨hbk2, hpk⟩ := peersAt_cell HPW (by omega)
          obtain ⟨hg2, hqk⟩ := peersAt_cell YY.out.pp (by rw [HQL.out]; omega)
          have C := samePeer_any bk (off + k * 4) g (0 + k * 4) (ps.getD k pr0) (qs.getD k pr0) wr hbk2 hg2 (hpk k hlt) (hqk k (by rw [HQL.out]; exact hlt))
          rw [Nat.zero_add] at C
          have z2 : ∀ q : Kin wr.heap.size wr, q.v.cell? ⟨w.heap.size, 2, none⟩ = some (.slice (some ⟨bk, off, none⟩) ps.length cap) := kin_cell YY.out.bx.lt YY.out.bx.c2
          have u2 : ∀ q : Kin wr.heap.size wr, q.v.cell? ⟨X, 2, none⟩ = some (.slice (some ⟨g, 0, none⟩) ps.length ps.length) := kin_cell YY.out.hi YY.out.x
          have CC : ∀ w1, Below wr.heap.size wr w1 → Calls Try.prog 88 #[.pointer (some ⟨bk, off + k * 4, none⟩), .pointer (some ⟨g, k * 4, none⟩)] w1 fun e w' => e = .returned (.bool (smP (ps.getD k pr0) (qs.getD k pr0))) ∧ Below w1.heap.size w1 w' := fun w1 h => by
            have := samePeer_any bk (off + k * 4) g (0 + k * 4) (ps.getD k pr0) (qs.getD k pr0) w1 (Nat.lt_of_lt_of_le hbk2 h.size) (Nat.lt_of_lt_of_le hg2 h.size) ((hpk k hlt).keep h hbk2) ((hqk k (by rw [HQL.out]; exact hlt)).keep h hg2)
            rwa [Nat.zero_add] at this
          clear C hpk hqk HPW hb1
          cases hsm : smP (ps.getD k pr0) (qs.getD k pr0)
          · have hv : Hid (sameP ps qs = false) := sameP_no hlt (by rw [hsm]; simp)
            rw [hsm] at CC
            clear hsm
            go_wp2
            refine region_kin wr.heap.size (by kernel_rfl) (by kernel_rfl) (fun hne => ?_)
            repeat (go_big_quiet_step ((go_at_call 88; exact kin_of (Nat.le_refl _) (CC _ (Kin.bel _)))))
            refine wpQuiet_nil ?_
            intro w5 hw'
            obtain ⟨⟨w6, hw5⟩, hw''⟩ := hw'
            obtain rfl : w5 = w6 := hw''
            clear z2 u2 hne
            go_wp2
            go_ret2
            exact ⟨by rw [hv.out]; rfl, belt YY.out.bx.bel hw5⟩
          · have HS2 : Hid (∀ i, i < k + 1 → smP (ps.getD i pr0) (qs.getD i pr0) = true) := fun i hi => by
              by_cases he : i = k
              · subst he; exact hsm
              · exact HS.out i (by omega)
            rw [hsm] at CC
            clear hsm
            go_wp2
            refine region_kin wr.heap.size (by kernel_rfl) (by kernel_rfl) (fun hne => ?_)
            repeat (go_big_quiet_step ((go_at_call 88; exact kin_of (Nat.le_refl _) (CC _ (Kin.bel _)))))
            refine wpQuiet_nil ?_
            intro w5 hw'
            obtain ⟨⟨w6, hw5⟩, hw''⟩ := hw'
            obtain rfl : w5 = w6 := hw''
            clear z2 u2 hne
            go_wp2
            go_roundw
            case rel => exact ⟨k + 1, by omega, by go_num, YY.out.keep hw5, HS2⟩
            case measure => simp [intOf]; omega
        · have hv : Hid (sameP ps qs = true) := sameP_yes HQL.out.symm (fun i hi => HS.out i (by omega))
          go_wp2
          go_ret2
          exact ⟨by rw [hv.out]; rfl, YY.out.bx.bel⟩
end Go.Proofs.Ytgmdbihdnacpjaa
