/- Peers that are drawn: the walk. -/
import Derived.Test.YtgmdbihdnacpjaaY1
namespace Go.Proofs.Ytgmdbihdnacpjaa
open Go.RowKit Go.Deep
set_option linter.unusedVariables false
set_option maxRecDepth 100000 in
set_option maxHeartbeats 25600000 in
theorem peers_any (w : World) (g n : Nat) (a : Option Addr) (cap : Nat) (zs : List Int) (hc : CurAt w g n a cap zs) (hn : n ≤ 500) :
    Calls Try.prog 40 #[.pointer (some ⟨g, 0, none⟩)] w fun e w' => ∃ (b d : Int) (ap : Option Addr) (cp : Nat) (ps : List Pr), e = .returned (.agg #[.int .i64 b, .int .i64 d, .slice ap ps.length cp]) ∧ OwnPs w.heap.size w'.heap.size w' ap ps.length ps ∧ ps.length ≤ 16 ∧ (∀ i, i < ps.length → (ps.getD i pr0).backs.length ≤ 3) ∧ Mv g w w' ∧ CurAt w' g (n + 300) a cap zs := by
  have hlt := hc.lt
  have HR0 : Hid (RowU w g a zs) := hc.row
  go_enter Try.func40, Try.ntmps40
  go_wp2_with fail
  refine (ring_any _ _ _ _ _ _ (hc.new _) (by omega)).mono ?_
  rintro e w1 ⟨b, d, v, rfl, sm1, mv1, hc1⟩
  have hs1 := mv1.size
  simp at hs1
  obtain ⟨a0, cp, ms, rfl, hcp, hl9, hr0, hB⟩ := sm1
  have P20 : PS0 w (w1.alloc (.cells #[.int .i64 b, .int .i64 d] 25)) g (n + 60) a cap zs b d w1.heap.size a0 ms := by
    refine ⟨((Mv.of_below (belA _ _)).trans mv1).alloc _, hc1.new _, ?_, heap_alloc_new _ _, by omega, ?_, hlt, HR0.out⟩
    · rw [heap_alloc_old _ _ (by omega), mv1.block _ (by simp) (by omega)]
      exact heap_alloc_new _ _
    · by_cases h0 : ms = []
      · exact .inl h0
      · obtain ⟨bk, off, rfl, hbk⟩ : ∃ bk off, a0 = some ⟨bk, off, none⟩ ∧ (w.alloc (.cells #[.int .i64 0, .int .i64 0, .slice none 0 0] 28)).heap.size ≤ bk := by
          rcases hB with h | h
          · exact absurd h h0
          · exact h
        simp at hbk
        have hp : 0 < ms.length := by
          cases ms
          · exact absurd rfl h0
          · simp
        obtain ⟨h1, h2⟩ := rowAt_cell hr0 hp
        exact .inr ⟨bk, off, rfl, by omega, h1, fun i hi => ((belA _ _).cell (p := ⟨bk, off + i, none⟩) h1).trans (h2 i hi)⟩
  have P2 : Hid _ := P20
  have HB9 : Hid (ms.length ≤ 9) := hl9
  clear P20 hr0 hB mv1 hc1 hcp hc
  obtain ⟨W2, hW2⟩ : ∃ W2, (w1.alloc (.cells #[.int .i64 b, .int .i64 d] 25)) = W2 := ⟨_, rfl⟩
  rw [hW2] at P2
  obtain ⟨Q, hQ⟩ : ∃ Q, w1.heap.size = Q := ⟨_, rfl⟩
  rw [hQ] at P2
  go_upto_region 2 with (fail)
  clear hW2 hQ hs1
  go_cut [5, 6] (fun v5 v6 wc => ∃ X ok, v5 = .pointer (some ⟨X, 0, none⟩) ∧ v6 = .bool ok ∧ Hid (PGo w wc g (n + 62) a cap zs b d Q a0 ms X ok))
  case first =>
    have sta := P2.out.keep ((Below.refl _ _).drew)
    have pxa := (px_new P2.out).keep ((Below.refl _ _).drew)
    have staA := pxa.st
    have hmx : ms.length ≤ maxLen := by unfold maxLen; omega
    go_region_held (fun w' => w'.cell? ⟨Q, 0, none⟩ = some (.int .i64 b) ∧ w'.cell? ⟨Q, 1, none⟩ = some (.int .i64 d)) (with_reducible (first | exact sta.qc | exact staA.qc | exact stb.qc | exact pxb.st.qc | exact stc.qc | exact pxc.st.qc | exact (stc.keep (belA _ _)).qc | exact pxc.qc3 _ _ _)) (first
      | (go_at_call 41; refine (pick_any _ _ _ _ _ _ _ sta.cur (by omega) (by omega) (by omega)).mono ?_; rintro e wa ⟨xa, rfl, xa1, xa2, mva, hca⟩; have stb := sta.step mva hca; have pxb := px_new stb)
      | (go_at_call 41; refine (pick_any _ _ _ _ _ _ _ staA.cur (by omega) (by omega) (by omega)).mono ?_; rintro e wa ⟨xa, rfl, xa1, xa2, mva, hca⟩; have pxb := pxa.step mva hca; have stb := pxb.st)
      | (go_at_call 25; have CI := lIdealPeers_uni b d xa _ cp ms _ hmx stb.rowAt; refine CI.mono ?_; rintro e wb ⟨b', d', al, nl, cl, ok, rfl, hwb, hr⟩; have pxc := pxb.keep hwb; have stc := pxc.st; obtain ⟨n0, n1, n2, m0, m1, m2⟩ := pxc.cells)
      | (go_at_call 25; have CI := lIdealPeers_uni b d xa _ cp ms _ hmx stb.rowAt; refine CI.mono ?_; rintro e wb ⟨b', d', al, nl, cl, ok, rfl, hwb, hr⟩; have stc := stb.keep hwb; have pxc := px_new stc; obtain ⟨n0, n1, n2, m0, m1, m2⟩ := pxc.cells)
      | (go_at_call 25; have CI := lIdealPeers_uni b d xa _ cp ms _ hmx pxb.st.rowAt; refine CI.mono ?_; rintro e wb ⟨b', d', al, nl, cl, ok, rfl, hwb, hr⟩; have pxc := pxb.keep hwb; have stc := pxc.st; obtain ⟨n0, n1, n2, m0, m1, m2⟩ := pxc.cells))
    all_goals (go_wp2_with fail; go_meet; first | exact ⟨_, _, rfl, rfl, pgo_new' stc hr (by have := stb.hiQ; first | exact this | (simp; omega))⟩ | exact ⟨_, _, rfl, rfl, pgo_set' pxc hr (by have := pxb.hi; first | exact this | (simp at this ⊢; omega))⟩)
  case rest =>
    obtain ⟨X, ok, rfl, rfl, PG⟩ := hcut
    clear P2
    cases ok
    · have p0 := PG.out.1
      obtain ⟨r0, r1, r2, q0, q1, q2⟩ := p0.rc
      obtain ⟨s0, s1⟩ := p0.qc
      have hq := p0.qlo
      have hg := p0.gl
      have mvf : Hid (Mv g w (set3 wc w.heap.size (.int .i64 b) (.int .i64 d) (.slice none 0 0))) := ((p0.mv.put (q := w.heap.size) (Nat.le_refl _) 0 _).put (q := w.heap.size) (Nat.le_refl _) 1 _).put (q := w.heap.size) (Nat.le_refl _) 2 _
      have cuf : Hid (CurAt (set3 wc w.heap.size (.int .i64 b) (.int .i64 d) (.slice none 0 0)) g (n + 300) a cap zs) := (p0.cur.blocks p0.row mvf.out (set3_block (by omega))).more (by omega)
      have HRW : Hid _ := p0.r
      clear p0
      go_wp2
      exact bodyPost_ret (results_cell_row Try.results40 _ _ w.heap.size _ _ _ _ rfl (set3_row HRW.out) Try.underlying28 rfl (by kernel_rfl)) rfl ⟨b, d, none, 0, [], rfl, ownPs_nil _ _ _ _, by simp, fun i hi => by simp at hi, mvf.out, cuf.out⟩
    · obtain ⟨bm, om, G, c, L0, rfl, l1, l2, m1, pst0⟩ := PG.out.2 rfl
      have ST0 : Hid (PSt w wc g (n + 62) a cap zs b d Q X G c (Q + 1) bm om ms L0) := pst0
      have m9 : ms.length ≤ 9 := HB9.out
      obtain ⟨l0, hl0⟩ : ∃ l0, l0 = L0.length := ⟨_, rfl⟩
      have HL0 : Hid (L0.length = l0) := hl0.symm
      rw [← hl0] at l1 l2
      clear PG pst0 hl0
      go_wp2_with fail
      refine (one_any _ _ _ _ _ _ _ ST0.out.cur (by omega) (by omega) (by omega)).mono ?_
      rintro e w3 ⟨v3, rfl, mv3, hc3⟩
      have ST3 : Hid (PSt w w3 g (n + 64) a cap zs b d Q X G c (Q + 1) bm om ms L0) := ST0.out.step mv3 hc3
      clear ST0 mv3 hc3
      go_upto_if 28 with (fail)
      go_cut [6] (fun v6 wc => v6 = .bool true ∧ ∃ L, Hid (PSt w wc g (n + 270) a cap zs b d Q X G c (Q + 1) bm om ms L) ∧ Hid (L.length = l0))
      case first =>
        cases v3
        · go_wp2_with fail
          go_meet
          exact ⟨rfl, L0, ST3.out.more (by omega), HL0⟩
        · obtain ⟨_, _, x2⟩ := ST3.out.xc
          rw [HL0.out] at x2
          go_wp2_with fail
          clear x2
          go_loopw [32] (fun vi wr => ∃ (k : Nat) (L : List (Pr × Value)), k ≤ l0 ∧ vi = .int .i64 k ∧ Hid (PSt w wr g (n + 64 + 12 * k) a cap zs b d Q X G c (Q + 1) bm om ms L) ∧ Hid (L.length = l0)) (fun vi _ => l0 - (intOf vi).toNat)
          case atStart => exact ⟨0, L0, Nat.zero_le _, rfl, ST3, HL0⟩
          case round =>
            obtain ⟨k, L, hk, rfl, ST, HL⟩ := hrel
            clear ST3 HL0
            by_cases hlt : k < l0
            · go_wp2_with fail
              refine (one_any _ _ _ _ _ _ _ ST.out.cur (by omega) (by omega) (by omega)).mono ?_
              rintro e w4 ⟨v4, rfl, mv4, hc4⟩
              have ST4 : Hid (PSt w w4 g (n + 64 + 12 * k + 2) a cap zs b d Q X G c (Q + 1) bm om ms L) := ST.out.step mv4 hc4
              clear ST mv4 hc4
              go_upto_if 36 with (fail)
              go_cut [7] (fun v7 wc => v7 = .int .i64 k ∧ ∃ L, Hid (PSt w wc g (n + 64 + 12 * k + 4) a cap zs b d Q X G c (Q + 1) bm om ms L) ∧ Hid (L.length = l0))
              case first =>
                cases v4
                · go_wp2_with fail
                  go_meet
                  exact ⟨rfl, L, ST4.out.more (by omega), HL⟩
                · have hkL : k < L.length := by rw [HL.out]; exact hlt
                  go_wp2_with fail
                  have sta := ST4.out.keep ((Below.refl _ _).drew)
                  have hne := sta.ne
                  have hGl := sta.ow.lo
                  go_region_held (fun w' => w'.cell? ⟨X, 2, none⟩ = some (.slice (some ⟨G, 0, none⟩) L.length c) ∧ ∀ i, i < ms.length → w'.cell? ⟨bm, om + i, none⟩ = some (.int .i64 (ms.getD i 0))) (with_reducible (first | exact sta.mc | exact stb.mc | exact stb.mc1 hGl hne _ _)) ((go_at_call 41; refine (pick_any _ _ _ _ _ _ _ sta.cur (by omega) (by omega) (by omega)).mono ?_; rintro e wa ⟨xa, rfl, xa1, xa2, mva, hca⟩; obtain ⟨i, rfl⟩ := Int.eq_ofNat_of_zero_le xa1; have stb := sta.step mva hca; have hii : i < ms.length := (by omega); have d2 := (stb.ow.cel k hkL).c2; have g2 := stb.fz (k * 4 + 2)))
                  go_wp2_with fail
                  go_meet
                  exact ⟨rfl, _, stb.num hkL 2 (by omega) _, by unfold Hid; rw [List.length_set]; exact HL.out⟩
              case rest =>
                obtain ⟨rfl, M0, S0, HM0⟩ := hcut
                clear ST4 HL
                have hkM : k < M0.length := by rw [HM0.out]; exact hlt
                obtain ⟨ab, cb, hv2, c3, _⟩ := S0.out.bk hkM
                have hfew := S0.out.few k hkM
                obtain ⟨nb, hnb⟩ : ∃ nb, nb = (M0.getD k d0).1.backs.length := ⟨_, rfl⟩
                have HV0 : Hid ((M0.getD k d0).2 = .slice ab nb cb ∧ (M0.getD k d0).1.backs.length = nb) := ⟨by rw [hnb]; exact hv2, hnb.symm⟩
                rw [← hnb] at c3 hfew
                obtain ⟨_, _, x2⟩ := S0.out.xc
                rw [HM0.out] at x2
                clear hv2 hnb
                go_wp2_with fail
                clear x2 c3
                go_loopw [56] (fun vi wr => ∃ (i : Nat) (M : List (Pr × Value)), i ≤ nb ∧ vi = .int .i64 i ∧ Hid (PSt w wr g (n + 64 + 12 * k + 4 + 2 * i) a cap zs b d Q X G c (Q + 1) bm om ms M) ∧ Hid (M.length = l0) ∧ Hid ((M.getD k d0).2 = .slice ab nb cb ∧ (M.getD k d0).1.backs.length = nb)) (fun vi _ => nb - (intOf vi).toNat)
                case atStart => exact ⟨0, M0, Nat.zero_le _, rfl, S0, HM0, HV0⟩
                case round =>
                  obtain ⟨i, M, hi, rfl, ST, HM, HV⟩ := hrel
                  clear S0 HM0 HV0 hkM
                  have hkM : k < M.length := by rw [HM.out]; exact hlt
                  by_cases hib : i < nb
                  · obtain ⟨gb, rfl, hgl, hXg, hGg⟩ := ST.out.bk2 hkM HV.out.1 HV.out.2 hib
                    go_wp2_with fail
                    have sta := ST.out.keep ((Below.refl _ _).drew)
                    have hVV := HV.out.1
                    go_region_held (fun w' => w'.cell? ⟨X, 2, none⟩ = some (.slice (some ⟨G, 0, none⟩) M.length c) ∧ w'.cell? ⟨G, k * 4 + 3, none⟩ = some (.slice (some ⟨gb, 0, none⟩) nb cb) ∧ ∀ i, i < ms.length → w'.cell? ⟨bm, om + i, none⟩ = some (.int .i64 (ms.getD i 0))) (with_reducible (first | exact sta.m3 hkM hVV | exact stb.m3 hkM hVV | exact stb.m4 hkM hVV hgl hXg hGg _ _)) ((go_at_call 41; refine (pick_any _ _ _ _ _ _ _ sta.cur (by omega) (by omega) (by omega)).mono ?_; rintro e wa ⟨xa, rfl, xa1, xa2, mva, hca⟩; obtain ⟨j, rfl⟩ := Int.eq_ofNat_of_zero_le xa1; have stb := sta.step mva hca; have hii : j < ms.length := (by omega); obtain ⟨⟨zz, d2⟩, g2⟩ := stb.bk3 hkM hVV HV.out.2 hib))
                    clear hVV
                    go_wp2_with fail
                    go_roundw
                    case rel =>
                      obtain ⟨M2, S2, hM2, hM3⟩ := stb.back hkM (j := i) (gb := gb) (by rw [HV.out.2]; exact hib) (by rw [HV.out.1]; rfl) ms[j]
                      exact ⟨i + 1, M2, by omega, by go_num, S2.more (by omega), by unfold Hid; rw [hM2]; exact HM.out, by unfold Hid; rw [(hM3 k).1, (hM3 k).2]; exact HV.out⟩
                    case measure => simp [intOf]; omega
                  · go_wp2_with fail
                    go_roundw
                    case rel => exact ⟨k + 1, M, by omega, by go_num, ST.out.more (by omega), HM⟩
                    case measure => simp [intOf]; omega
            · go_wp2_with fail
              go_meet
              exact ⟨rfl, L, ST.out.more (by omega), HL⟩
      case rest =>
        obtain ⟨rfl, L, ST, HL⟩ := hcut
        clear ST3 HL0
        obtain ⟨_, _, x2⟩ := ST.out.xc
        rw [HL.out] at x2
        go_wp2_with fail
        refine (pick_any _ _ _ _ _ _ _ ST.out.cur (by omega) (by omega) (by omega)).mono ?_
        rintro e w5 ⟨xk, rfl, xk1, xk2, mv5, hc5⟩
        obtain ⟨kk, rfl⟩ := Int.eq_ofNat_of_zero_le xk1
        have S5 : Hid (PSt w w5 g (n + 270 + 2) a cap zs b d Q X G c (Q + 1) bm om ms L) := ST.out.step mv5 hc5
        have hkL : kk < L.length := by rw [HL.out]; omega
        clear ST x2 mv5 hc5
        go_wp2_with fail
        refine (pick_any _ _ _ _ _ _ _ S5.out.cur (by omega) (by omega) (by omega)).mono ?_
        rintro e w6 ⟨sw, rfl, sw1, sw2, mv6, hc6⟩
        have S6 : Hid (PSt w w6 g (n + 270 + 4) a cap zs b d Q X G c (Q + 1) bm om ms L) := S5.out.step mv6 hc6
        clear S5 mv6 hc6
        by_cases hs0 : sw = 0
        · have e0 : (sw == 0) = true := by rw [hs0]; rfl
          go_wp2_with fail
          have sta := S6.out.keep ((Below.refl _ _).drew)
          go_region_held (fun w' => w'.cell? ⟨X, 2, none⟩ = some (.slice (some ⟨G, 0, none⟩) L.length c) ∧ w'.cell? ⟨Q, 0, none⟩ = some (.int .i64 b) ∧ w'.cell? ⟨Q, 1, none⟩ = some (.int .i64 d)) (with_reducible (first | exact sta.n3 | exact stb.n3 | exact stb.n4 _ _)) ((go_at_call 43; refine (num_any _ _ _ _ _ _ _ _ sta.cur (by omega)).mono ?_; rintro e wa ⟨xa, rfl, xa1, xa2, mva, hca⟩; have stb := sta.step mva hca; have d2 := (stb.ow.cel kk hkL).c1; have g2 := stb.fz (kk * 4 + 1)))
          have S7 : Hid _ := stb.num hkL 1 (by omega) xa
          clear d2 g2
          obtain ⟨x0, x1, x2⟩ := S7.out.xc
          obtain ⟨r0, r1, r2, q0, q1, q2⟩ := S7.out.rc
          have FIN0 := S7.out.fin (M := n + 300) (by rw [List.length_set, HL.out]; exact l2) (by omega)
          rw [List.length_set] at FIN0
          have FIN : Hid _ := FIN0
          clear FIN0
          have HRW : Hid _ := S7.out.r
          have hq1 := S7.out.qlo
          have hq2 := S7.out.qhi
          have hq3 := S7.out.xlo
          go_wp2
          refine bodyPost_ret (results_cell_row Try.results40 _ _ w.heap.size _ _ _ _ rfl (set3_row HRW.out) Try.underlying28 rfl (by kernel_rfl)) rfl ⟨b, d, some ⟨G, 0, none⟩, c, (L.set kk (setF 1 (L.getD kk d0).1 xa, (L.getD kk d0).2)).map (fun x : Pr × Value => x.1), by rw [List.length_map]; rw [List.length_set], FIN.out⟩
        · have e0 : (sw == 0) = false := by simpa using hs0
          by_cases hs1 : sw = 1
          · have e1 : (sw == 1) = true := by rw [hs1]; rfl
            go_wp2_with fail
            have sta := S6.out.keep ((Below.refl _ _).drew)
            go_region_held (fun w' => w'.cell? ⟨X, 2, none⟩ = some (.slice (some ⟨G, 0, none⟩) L.length c) ∧ w'.cell? ⟨Q, 0, none⟩ = some (.int .i64 b) ∧ w'.cell? ⟨Q, 1, none⟩ = some (.int .i64 d)) (with_reducible (first | exact sta.n3 | exact stb.n3 | exact stb.n4 _ _)) ((go_at_call 43; refine (num_any _ _ _ _ _ _ _ _ sta.cur (by omega)).mono ?_; rintro e wa ⟨xa, rfl, xa1, xa2, mva, hca⟩; have stb := sta.step mva hca; have d2 := (stb.ow.cel kk hkL).c2; have g2 := stb.fz (kk * 4 + 2)))
            have S7 : Hid _ := stb.num hkL 2 (by omega) xa
            clear d2 g2
            obtain ⟨x0, x1, x2⟩ := S7.out.xc
            obtain ⟨r0, r1, r2, q0, q1, q2⟩ := S7.out.rc
            have FIN0 := S7.out.fin (M := n + 300) (by rw [List.length_set, HL.out]; exact l2) (by omega)
            rw [List.length_set] at FIN0
            have FIN : Hid _ := FIN0
            clear FIN0
            have HRW : Hid _ := S7.out.r
            have hq1 := S7.out.qlo
            have hq2 := S7.out.qhi
            have hq3 := S7.out.xlo
            go_wp2
            refine bodyPost_ret (results_cell_row Try.results40 _ _ w.heap.size _ _ _ _ rfl (set3_row HRW.out) Try.underlying28 rfl (by kernel_rfl)) rfl ⟨b, d, some ⟨G, 0, none⟩, c, (L.set kk (setF 2 (L.getD kk d0).1 xa, (L.getD kk d0).2)).map (fun x : Pr × Value => x.1), by rw [List.length_map]; rw [List.length_set], FIN.out⟩
          · have e1 : (sw == 1) = false := by simpa using hs1
            by_cases hs2 : sw = 2
            · have e2 : (sw == 2) = true := by rw [hs2]; rfl
              have ck := S6.out.keep (belA w6 (.cells #[.int .i64 (-1)] 3))
              have os : OwnS w6.heap.size (w6.alloc (.cells #[.int .i64 (-1)] 3)) w6.heap.size [-1] := ⟨Nat.le_refl _, _, heap_alloc_new _ _, rfl⟩
              have S70 : PSt w ((w6.alloc (.cells #[.int .i64 (-1)] 3)).setCell ⟨G, kk * 4 + 3, none⟩ (.slice (some ⟨w6.heap.size, 0, none⟩) 1 1)) g (n + 270 + 4) a cap zs b d Q X G c (Q + 1) bm om ms (L.set kk (⟨(L.getD kk d0).1.id, (L.getD kk d0).1.succ, (L.getD kk d0).1.point, [-1]⟩, .slice (some ⟨w6.heap.size, 0, none⟩) 1 1)) := S6.out.backs (belA w6 (.cells #[.int .i64 (-1)] 3)) hkL (bs := [-1]) (cb := 1) (by simp) (by simp) os
              rw [World.setCell_alloc_past _ _ _ _ S6.out.ow.lt] at S70
              have S7 : Hid _ := S70
              clear S70
              obtain ⟨_, _, y2⟩ := ck.xc
              have d3 := (ck.ow.cel kk hkL).c3
              have g3 := ck.fz (kk * 4 + 3)
              obtain ⟨_, _, z2⟩ := S6.out.xc
              have hX := S6.out.hiX
              rw [HL.out] at y2 z2
              clear os
              obtain ⟨x0, x1, x2⟩ := S7.out.xc
              obtain ⟨r0, r1, r2, q0, q1, q2⟩ := S7.out.rc
              obtain ⟨v0, v1, v2⟩ := ck.xc
              obtain ⟨t0, t1, t2, p0, p1, p2⟩ := ck.rc
              have FIN0 := S7.out.fin (M := n + 300) (by rw [List.length_set, HL.out]; exact l2) (by omega)
              rw [List.length_set, HL.out] at FIN0 x2
              rw [HL.out] at v2
              have FIN : Hid _ := FIN0
              have HRW : Hid _ := S7.out.r
              have hq1 := S6.out.qlo
              have hq2 := S6.out.qhi
              have hq3 := S6.out.xlo
              have hne := S6.out.ne
              have hGl := S6.out.ow.lo
              have hGt := S6.out.ow.lt
              clear FIN0 ck
              rw [HL.out] at hkL
              go_wp2
              refine bodyPost_ret (results_cell_row Try.results40 _ _ w.heap.size _ _ _ _ rfl (set3_row HRW.out) Try.underlying28 rfl (by kernel_rfl)) rfl ⟨b, d, some ⟨G, 0, none⟩, c, (L.set kk (⟨(L.getD kk d0).1.id, (L.getD kk d0).1.succ, (L.getD kk d0).1.point, [-1]⟩, .slice (some ⟨w6.heap.size, 0, none⟩) 1 1)).map (fun x : Pr × Value => x.1), by rw [List.length_map]; rw [List.length_set, HL.out], FIN.out⟩
            · have e2 : (sw == 2) = false := by simpa using hs2
              obtain ⟨x0, x1, x2⟩ := S6.out.xc
              obtain ⟨r0, r1, r2, q0, q1, q2⟩ := S6.out.rc
              have FIN : Hid _ := S6.out.fin (M := n + 300) (by rw [HL.out]; exact l2) (by omega)
              have HRW : Hid _ := S6.out.r
              have hq1 := S6.out.qlo
              have hq2 := S6.out.qhi
              have hq3 := S6.out.xlo
              go_wp2
              refine bodyPost_ret (results_cell_row Try.results40 _ _ w.heap.size _ _ _ _ rfl (set3_row HRW.out) Try.underlying28 rfl (by kernel_rfl)) rfl ⟨b, d, some ⟨G, 0, none⟩, c, L.map (fun x : Pr × Value => x.1), by rw [List.length_map], FIN.out⟩
end Go.Proofs.Ytgmdbihdnacpjaa
