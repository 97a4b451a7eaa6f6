/- RouteOf, in the specification: the answer in one form. -/
import Derived.Test.YtejajlloipkkhaaH0Z
namespace Go.Proofs.Ytejajlloipkkhaa
open Go.RowKit Go.Deep
set_option linter.unusedVariables false
theorem rtP_big (b d : Int) (ps : List Pr) (x k ttl : Int) : (rtP b d ps x k ttl).length ≤ 1048576 := by
  unfold rtP
  split
  · rename_i h
    unfold rtOk at h
    rw [Bool.and_eq_true] at h
    obtain ⟨hg, hh, k1, k2⟩ := askP_parts h.1
    obtain ⟨t1, t2⟩ := inB_true h.2
    have ho := stt_on (ttl := ttl) hg hh k1 k2 t1
    have := rt_end (ttl := ttl) hg k1 k2 300 (stt b d ps x k) ho.wv.ok rfl rfl ho.le ho.pt
    obtain ⟨_, _, h3, h4, _⟩ := this
    have h5 : (stt b d ps x k).points + (stt b d ps x k).succs = 0 := rfl
    rw [h5] at h4
    simp only [List.length_cons]
    omega
  · simp
set_option maxRecDepth 100000 in
set_option maxHeartbeats 1600000 in
theorem lRouteOf_own (b d : Int) (a : Option Addr) (cap : Nat) (ps : List Pr) (x k ttl : Int) (w : World) (hm : ps.length ≤ 1048576) (hr : PeersAt w a ps) :
    Calls Try.prog 15 #[.agg #[.int .i64 b, .int .i64 d, .slice a ps.length cap], .int .i64 x, .int .i64 k, .int .i64 ttl] w fun e w' => ∃ a' n' c', e = .returned (.tuple #[.agg #[.int .i64 (rtV b d ps x k ttl).at_, .int .i64 (rtV b d ps x k ttl).imag, .int .i64 (rtV b d ps x k ttl).left, .int .i64 (rtV b d ps x k ttl).points, .int .i64 (rtV b d ps x k ttl).succs, .int .i64 (rtV b d ps x k ttl).state, .int .i64 (rtV b d ps x k ttl).owner], .slice a' n' c', .bool (rtOk b d ps x k ttl)]) ∧ (rtP b d ps x k ttl).length = n' ∧ RowAt w' a' (rtP b d ps x k ttl) ∧ Below w.heap.size w w' := by
  have ST0 : Hid (ST w ((w.alloc (.cells #[.int .i64 b, .int .i64 d, .slice a ps.length cap] 28)).alloc (.cells #[.int .i64 0, .int .i64 0, .int .i64 0, .int .i64 0, .int .i64 0, .int .i64 0, .int .i64 0] 32)) #[.int .i64 b, .int .i64 d, .slice a ps.length cap]) := st0 w _
  have CA := lasked4_any b d a cap ps x k _ hm (hr.keep ST0.out.bel)
  have CF := fun w1 => lin_any ttl 0 1000 w1
  have HR : Hid (PeersAt w a ps) := hr
  clear hr
  cases hk : askP b d ps x k
  · have hno : rtOk b d ps x k ttl = false := by unfold rtOk; rw [hk]; rfl
    have hz : rtV b d ps x k ttl = wk0 := by unfold rtV; rw [hno]; rfl
    have hz2 : rtP b d ps x k ttl = [] := by unfold rtP; rw [hno]; rfl
    rw [hk] at CA
    rw [hz, hz2, hno]
    dsimp only [wk0]
    clear hk hz hz2 hno
    go_enter Try.func15, Try.ntmps15
    go_wp2_with fail
    refine CA.mono ?_
    rintro e w1 ⟨rfl, hx⟩
    have S1 : Hid (ST w w1 #[.int .i64 b, .int .i64 d, .slice a ps.length cap]) := ST0.out.keep hx
    clear hx ST0 CA
    obtain ⟨c0, c1, c2⟩ := Bk.c3 S1.out.kb
    obtain ⟨r0, r1, r2, r3, r4, r5, r6⟩ := Bk.c7 S1.out.ka
    obtain ⟨f0, f1, f2, f3, f4, f5, f6⟩ := S1.out.ka.f7
    go_wp2_with fail
    obtain ⟨KA, KB⟩ := ST.ends (vs := [.int .i64 0, .int .i64 0, .int .i64 0, .int .i64 0, .int .i64 0, .int .i64 0, .int .i64 0]) S1.out
    refine bodyPost_ret (results_cell_tmp2 Try.results15 _ _ (w.heap.size + 1) _ _ _ _ _ _ rfl rfl rfl KA Try.underlying32 rfl (by kernel_rfl)) rfl ?_
    first | exact ⟨none, 0, 0, rfl, rfl, .inl rfl, KB⟩ | exact ⟨none, 0, ⟨0, rfl⟩, rfl, .inl rfl, KB⟩
  · rw [hk] at CA
    obtain ⟨hg, hh, k1, k2⟩ := askP_parts hk
    cases htt : inB ttl 0 1000
    · have hno : rtOk b d ps x k ttl = false := by unfold rtOk; rw [htt]; simp
      have hz : rtV b d ps x k ttl = wk0 := by unfold rtV; rw [hno]; rfl
      have hz2 : rtP b d ps x k ttl = [] := by unfold rtP; rw [hno]; rfl
      rw [htt] at CF
      rw [hz, hz2, hno]
      dsimp only [wk0]
      clear hk hz hz2 hno htt
      go_enter Try.func15, Try.ntmps15
      go_wp2_with fail
      refine CA.mono ?_
      rintro e w1 ⟨rfl, hx⟩
      have S1 : Hid (ST w w1 #[.int .i64 b, .int .i64 d, .slice a ps.length cap]) := ST0.out.keep hx
      clear hx ST0 CA
      obtain ⟨c0, c1, c2⟩ := Bk.c3 S1.out.kb
      obtain ⟨r0, r1, r2, r3, r4, r5, r6⟩ := Bk.c7 S1.out.ka
      obtain ⟨f0, f1, f2, f3, f4, f5, f6⟩ := S1.out.ka.f7
      go_wp2_with fail
      refine (CF _).mono ?_
      rintro e wx ⟨rfl, hx⟩
      subst hx
      go_wp2_with fail
      obtain ⟨KA, KB⟩ := ST.ends (vs := [.int .i64 0, .int .i64 0, .int .i64 0, .int .i64 0, .int .i64 0, .int .i64 0, .int .i64 0]) S1.out
      refine bodyPost_ret (results_cell_tmp2 Try.results15 _ _ (w.heap.size + 1) _ _ _ _ _ _ rfl rfl rfl KA Try.underlying32 rfl (by kernel_rfl)) rfl ?_
      first | exact ⟨none, 0, 0, rfl, rfl, .inl rfl, KB⟩ | exact ⟨none, 0, ⟨0, rfl⟩, rfl, .inl rfl, KB⟩
    · have hyes : rtOk b d ps x k ttl = true := by unfold rtOk; rw [hk, htt]; rfl
      obtain ⟨t1, t2⟩ := inB_true htt
      rw [htt] at CF
      have CR := fun w1 hb => lroute_any b d a cap ps x k ttl w1 hg hh k1 k2 t1 t2 (HR.out.keep hb)
      rw [rtV_yes hyes, rtP_yes hyes, hyes]
      generalize rtW b d ps k ttl 300 (stt b d ps x k) = RW at *
      generalize x :: rtL b d ps k ttl 300 (stt b d ps x k) = RP at *
      obtain ⟨v0, v1, v2, v3, v4, v5, v6⟩ := RW
      dsimp only at CR ⊢
      clear hk htt hyes
      go_enter Try.func15, Try.ntmps15
      go_wp2_with fail
      refine CA.mono ?_
      rintro e w1 ⟨rfl, hx⟩
      have S1 : Hid (ST w w1 #[.int .i64 b, .int .i64 d, .slice a ps.length cap]) := ST0.out.keep hx
      clear hx ST0 CA
      obtain ⟨c0, c1, c2⟩ := Bk.c3 S1.out.kb
      obtain ⟨r0, r1, r2, r3, r4, r5, r6⟩ := Bk.c7 S1.out.ka
      obtain ⟨f0, f1, f2, f3, f4, f5, f6⟩ := S1.out.ka.f7
      go_wp2_with fail
      refine (CF _).mono ?_
      rintro e wx ⟨rfl, hx⟩
      rw [hx]
      clear hx wx
      go_wp2_with fail
      refine (CR _ S1.out.bel).mono ?_
      rintro e w2 ⟨ar, cr, rfl, ⟨g, har, os⟩, hx⟩
      subst har
      have hgl := os.lt
      have hgo : w1.heap.size ≤ g := os.lo
      have hs1 : w.heap.size + 1 < w1.heap.size := S1.out.ka.lt
      have S2 : Hid (ST w (w2.alloc (.cells #[.int .i64 v0, .int .i64 v1, .int .i64 v2, .int .i64 v3, .int .i64 v4, .int .i64 v5, .int .i64 v6] 32)) #[.int .i64 b, .int .i64 d, .slice a ps.length cap]) := (S1.out.keep hx).keep (belA _ _)
      have OS : Hid (OwnS w1.heap.size (w2.alloc (.cells #[.int .i64 v0, .int .i64 v1, .int .i64 v2, .int .i64 v3, .int .i64 v4, .int .i64 v5, .int .i64 v6] 32)) g RP) := os.keep (belA _ _)
      have Y2 : Hid (Bk (w2.alloc (.cells #[.int .i64 v0, .int .i64 v1, .int .i64 v2, .int .i64 v3, .int .i64 v4, .int .i64 v5, .int .i64 v6] 32)) w2.heap.size #[.int .i64 v0, .int .i64 v1, .int .i64 v2, .int .i64 v3, .int .i64 v4, .int .i64 v5, .int .i64 v6] 32) := Bk.new _ _ _
      have hY : w.heap.size + 1 < w2.heap.size := (S1.out.keep hx).ka.lt
      go_upto_region 4 with (fail)
      clear c0 c1 c2 r0 r1 r2 r3 r4 r5 r6 f0 f1 f2 f3 f4 f5 f6
      clear S1 hx os
      generalize w2.alloc (.cells #[.int .i64 v0, .int .i64 v1, .int .i64 v2, .int .i64 v3, .int .i64 v4, .int .i64 v5, .int .i64 v6] 32) = w3 at *
      generalize w2.heap.size = Y at *
      obtain ⟨c0, c1, c2⟩ := Bk.c3 S2.out.kb
      obtain ⟨r0, r1, r2, r3, r4, r5, r6⟩ := Bk.c7 S2.out.ka
      obtain ⟨f0, f1, f2, f3, f4, f5, f6⟩ := S2.out.ka.f7
      obtain ⟨y0, y1, y2, y3, y4, y5, y6⟩ := Bk.c7 Y2.out
      go_wp2_with fail
      obtain ⟨KA, KB⟩ := ST.ends (vs := [.int .i64 v0, .int .i64 v1, .int .i64 v2, .int .i64 v3, .int .i64 v4, .int .i64 v5, .int .i64 v6]) S2.out
      refine bodyPost_ret (results_cell_tmp2 Try.results15 _ _ (w.heap.size + 1) _ _ _ _ _ _ rfl rfl rfl KA Try.underlying32 rfl (by kernel_rfl)) rfl ?_
      have OW : RowAt (setL w3 (w.heap.size + 1) 0 [.int .i64 v0, .int .i64 v1, .int .i64 v2, .int .i64 v3, .int .i64 v4, .int .i64 v5, .int .i64 v6]) (some ⟨g, 0, none⟩) RP := (OS.out.of_block (setL_oth (by omega) [.int .i64 v0, .int .i64 v1, .int .i64 v2, .int .i64 v3, .int .i64 v4, .int .i64 v5, .int .i64 v6] w3 0)).rowAt
      first | exact ⟨some ⟨g, 0, none⟩, RP.length, cr, rfl, rfl, OW, KB⟩ | exact ⟨some ⟨g, 0, none⟩, RP.length, ⟨cr, rfl⟩, rfl, OW, KB⟩
end Go.Proofs.Ytejajlloipkkhaa
