/- HopsIn, in the specification. -/
import Derived.Test.YtejajlloipkkhaaH1Z
namespace Go.Proofs.Ytejajlloipkkhaa
open Go.RowKit Go.Deep
set_option linter.unusedVariables false
def hopI (b d : Int) (ps : List Pr) (k x : Int) : Int := (rtW b d ps k 1000 300 (stt b d ps x k)).points + (rtW b d ps k 1000 300 (stt b d ps x k)).succs
def hopOk (b d : Int) (ps : List Pr) (k : Int) : Bool := goodP b d ps && numB b d k
def hopL (b d : Int) (ps : List Pr) (k : Int) : List Int := if hopOk b d ps k = true then (idsP ps).map (hopI b d ps k) else []
theorem hopL_big (b d : Int) (ps : List Pr) (k : Int) : (hopL b d ps k).length ≤ 1048576 := by
  unfold hopL
  split
  · rename_i h
    unfold hopOk at h
    rw [Bool.and_eq_true] at h
    have := (goodP_true h.1).1.l2
    simp only [List.length_map]
    omega
  · simp
theorem idsP_has {ps : List Pr} {i : Nat} (hi : i < ps.length) : hasB (idsP ps) (ps.getD i pr0).id = true := decide_eq_true ⟨i, by rw [idsP_len]; exact hi, idsP_get ps i⟩
theorem hop_rng {b d : Int} {ps : List Pr} {k x : Int} (hg : goodP b d ps = true) (hh : hasB (idsP ps) x = true) (k1 : 0 ≤ k) (k2 : k < sz b) : 0 ≤ (rtW b d ps k 1000 300 (stt b d ps x k)).points ∧ (rtW b d ps k 1000 300 (stt b d ps x k)).points ≤ 1000 ∧ 0 ≤ (rtW b d ps k 1000 300 (stt b d ps x k)).succs ∧ (rtW b d ps k 1000 300 (stt b d ps x k)).succs ≤ 1000 := by
  have ho := stt_on (ttl := 1000) hg hh k1 k2 (by omega)
  obtain ⟨_, _, h3, _, h5, h6⟩ := rt_end (ttl := 1000) hg k1 k2 300 (stt b d ps x k) ho.wv.ok rfl rfl ho.le ho.pt
  have e1 : (stt b d ps x k).points = 0 := rfl
  have e2 : (stt b d ps x k).succs = 0 := rfl
  rw [e1] at h5
  rw [e2] at h6
  exact ⟨h5, by omega, h6, by omega⟩
theorem hop_take {b d : Int} {ps : List Pr} {k : Int} {j : Nat} (hj : j < ps.length) : (idsP (ps.take (j + 1))).map (hopI b d ps k) = (idsP (ps.take j)).map (hopI b d ps k) ++ [hopI b d ps k (ps.getD j pr0).id] := by
  rw [idsP_take hj, List.map_append]; rfl
theorem bxP_keepB {w wr w1 : World} {b d : Int} {v : Value} {n : Nat} (h : BxP w wr b d v) (hb : Below n wr w1) (hn : w.heap.size < n) : BxP w w1 b d v :=
  ⟨h.bel.trans (hb.mono (by omega)), Nat.lt_of_lt_of_le h.lt hb.size, (hb.cell (p := ⟨w.heap.size, 0, none⟩) hn).trans h.c0, (hb.cell (p := ⟨w.heap.size, 1, none⟩) hn).trans h.c1, (hb.cell (p := ⟨w.heap.size, 2, none⟩) hn).trans h.c2⟩
set_option maxRecDepth 100000 in
set_option maxHeartbeats 1600000 in
theorem lHopsIn_own (b d : Int) (a : Option Addr) (cap : Nat) (ps : List Pr) (k : Int) (w : World) (hm : ps.length ≤ 1048576) (hr : PeersAt w a ps) :
    Calls Try.prog 24 #[.agg #[.int .i64 b, .int .i64 d, .slice a ps.length cap], .int .i64 k] w fun e w' => ∃ a' n c, e = .returned (.tuple #[.slice a' n c, .bool (hopOk b d ps k)]) ∧ (hopL b d ps k).length = n ∧ RowAt w' a' (hopL b d ps k) ∧ Below w.heap.size w w' := by
  have hr1 := hr.alloc (.cells #[.int .i64 b, .int .i64 d, .slice a ps.length cap] 28)
  have CG := lgood_any b d a cap ps (w.alloc (.cells #[.int .i64 b, .int .i64 d, .slice a ps.length cap] 28)) hm hr1
  have CN := fun w1 => lnums1 b d k w1
  have HR : Hid (PeersAt w a ps) := hr
  clear hr hr1
  cases hg : goodP b d ps
  · have hno : hopOk b d ps k = false := by unfold hopOk; rw [hg]; rfl
    have hz : hopL b d ps k = [] := by unfold hopL; rw [hno]; rfl
    rw [hz, hno]
    rw [hg] at CG
    clear hg hz hno
    go_enter Try.func24, Try.ntmps24
    go_wp2_with fail
    refine CG.mono ?_
    rintro e w1 ⟨rfl, hw1⟩
    go_wp2
    go_ret2
    exact ⟨_, _, _, rfl, rfl, .inl rfl, bel1 hw1 (by simp)⟩
  · rw [hg] at CG
    cases hn : numB b d k
    · have hno : hopOk b d ps k = false := by unfold hopOk; rw [hn]; simp
      have hz : hopL b d ps k = [] := by unfold hopL; rw [hno]; rfl
      rw [hz, hno]
      rw [hn] at CN
      clear hg hz hno hn
      go_enter Try.func24, Try.ntmps24
      go_wp2_with fail
      refine CG.mono ?_
      rintro e w1 ⟨rfl, hw1⟩
      have BX1 : Hid (BxP w w1 b d (.slice a ps.length cap)) := bxP1 hw1 (by simp)
      clear CG hw1
      obtain ⟨_, _, q0, q1, q2⟩ := BX1.out
      go_wp2_with fail
      refine (CN _).mono ?_
      rintro e w2 ⟨rfl, hw2⟩
      have B2 : Hid (Below w.heap.size w w2) := belt BX1.out.bel hw2
      clear q0 q1 q2 hw2
      go_wp2
      go_ret2
      exact ⟨_, _, _, rfl, rfl, .inl rfl, B2.out⟩
    · have hyes : hopOk b d ps k = true := by unfold hopOk; rw [hg, hn]; rfl
      have hz : hopL b d ps k = (idsP ps).map (hopI b d ps k) := by unfold hopL; rw [hyes]; rfl
      rw [hz, hyes]
      rw [hn] at CN
      obtain ⟨_, k1, k2⟩ := numB_true hn
      have CR := fun w1 x hh hb => lroute_any b d a cap ps x k 1000 w1 hg hh k1 k2 (by omega) (by omega) (HR.out.keep hb)
      have HK : Hid (∀ i, i < ps.length → 0 ≤ (rtW b d ps k 1000 300 (stt b d ps (ps.getD i pr0).id k)).points ∧ (rtW b d ps k 1000 300 (stt b d ps (ps.getD i pr0).id k)).points ≤ 1000 ∧ 0 ≤ (rtW b d ps k 1000 300 (stt b d ps (ps.getD i pr0).id k)).succs ∧ (rtW b d ps k 1000 300 (stt b d ps (ps.getD i pr0).id k)).succs ≤ 1000) := fun i hi => hop_rng hg (idsP_has hi) k1 k2
      have HT0 : Hid (∀ i, i < ps.length → (idsP (ps.take (i + 1))).map (hopI b d ps k) = (idsP (ps.take i)).map (hopI b d ps k) ++ [hopI b d ps k (ps.getD i pr0).id]) := fun i hi => hop_take hi
      clear hz hyes hn hg
      obtain ⟨i0, hi, hz0, hz1, hz2⟩ := info_parts'
      go_enter Try.func24, Try.ntmps24
      go_wp2_with fail
      refine CG.mono ?_
      rintro e w1 ⟨rfl, hw1⟩
      have BX1 : Hid (BxP w w1 b d (.slice a ps.length cap)) := bxP1 hw1 (by simp)
      clear CG hw1
      obtain ⟨_, _, q0, q1, q2⟩ := BX1.out
      go_wp2_with fail
      refine (CN _).mono ?_
      rintro e w2 ⟨rfl, hw2⟩
      have BX2 : Hid (BxP w w2 b d (.slice a ps.length cap)) := BX1.out.keep hw2
      clear q0 q1 q2 hw2 BX1
      obtain ⟨_, hlt2, q0, q1, q2⟩ := BX2.out
      have hl2 : w.heap.size < w2.heap.size := hlt2
      go_wp2_with fail
      clear q0 q1 q2 hlt2
      generalize hB : w2.heap.size = B0 at *
      go_loopw [6, 25] (fun vs vi wr => ∃ (vo : Value) (j : Nat), vs = vo ∧ j ≤ ps.length ∧ vi = .int .i64 j ∧ Hid (wr.ownsRow B0 3 1 vo ((idsP (ps.take j)).map (hopI b d ps k)).length (((idsP (ps.take j)).map (hopI b d ps k)).map (Value.int .i64))) ∧ Hid (BxP w wr b d (.slice a ps.length cap)) ∧ B0 ≤ wr.heap.size) (fun _ vi _ => ps.length - (intOf vi).toNat)
      case atStart => exact ⟨_, 0, rfl, Nat.zero_le _, rfl, World.ownsRow_nil _ _ _ _, BX2, by omega⟩
      case round =>
        obtain ⟨vo, j, hvo, hj, rfl, HO, HB, hbb⟩ := hrel
        have hvo := hvo.symm
        subst hvo
        clear BX2 hB
        obtain ⟨_, _, q0, q1, q2⟩ := HB.out
        by_cases hlt : j < ps.length
        · have HH := idsP_has hlt
          have HKj := HK.out j hlt
          have HT : Hid ((idsP (ps.take (j + 1))).map (hopI b d ps k) = (idsP (ps.take j)).map (hopI b d ps k) ++ [(rtW b d ps k 1000 300 (stt b d ps (ps.getD j pr0).id k)).points + (rtW b d ps k 1000 300 (stt b d ps (ps.getD j pr0).id k)).succs]) := HT0.out j hlt
          clear HK HT0
          obtain ⟨bk, off, rfl⟩ := peersAt_form HR.out (by omega)
          obtain ⟨c0, c1, c2, ab, cb, c3, _, hn, _⟩ := (peersAt_cell (HR.out.keep HB.out.bel) (by omega)).2 j hlt
          have hle : ((idsP (ps.take j)).map (hopI b d ps k)).length ≤ 1048576 := by rw [List.length_map, idsP_len, List.length_take]; omega
          generalize (ps.getD j pr0).backs.length = nb at c3 hn
          generalize (ps.getD j pr0).id = x0 at c0 HT HH HKj
          generalize (ps.getD j pr0).succ = x1 at c1
          generalize (ps.getD j pr0).point = x2 at c2
          generalize (idsP (ps.take j)).map (hopI b d ps k) = L at *
          go_upto_region 7 with (fail)
          have B4 : Hid (BxP w (wr.alloc (.cells #[.int .i64 x0, .int .i64 x1, .int .i64 x2, .slice ab nb cb] 101)) b d (.slice (some ⟨bk, off, none⟩) ps.length cap)) := HB.out.keep (belA _ _)
          have O4 : Hid ((wr.alloc (.cells #[.int .i64 x0, .int .i64 x1, .int .i64 x2, .slice ab nb cb] 101)).ownsRow B0 3 1 vo L.length (L.map (Value.int .i64))) := HO.out.alloc _
          have P4 : Hid (Bk (wr.alloc (.cells #[.int .i64 x0, .int .i64 x1, .int .i64 x2, .slice ab nb cb] 101)) wr.heap.size #[.int .i64 x0, .int .i64 x1, .int .i64 x2, .slice ab nb cb] 101) := Bk.new _ _ _
          have hb4 : B0 ≤ (wr.alloc (.cells #[.int .i64 x0, .int .i64 x1, .int .i64 x2, .slice ab nb cb] 101)).heap.size := Nat.le_trans hbb (by simp)
          clear c0 c1 c2 c3 hn q0 q1 q2 HB HO hbb
          generalize wr.alloc (.cells #[.int .i64 x0, .int .i64 x1, .int .i64 x2, .slice ab nb cb] 101) = w4 at *
          generalize wr.heap.size = X at *
          obtain ⟨_, _, q0, q1, q2⟩ := B4.out
          have p0 := Bk.cell P4.out 0
          go_wp2_with fail
          refine (CR w4 x0 HH B4.out.bel).mono ?_
          rintro e w5 ⟨ar, cr, rfl, ⟨g, har, os⟩, hx⟩
          have B5 : Hid (BxP w w5 b d (.slice (some ⟨bk, off, none⟩) ps.length cap)) := B4.out.keep hx
          have O5 : Hid (w5.ownsRow B0 3 1 vo L.length (L.map (Value.int .i64))) := owns_keep O4.out hx
          have hb5 : B0 ≤ w5.heap.size := Nat.le_trans hb4 hx.size
          clear q0 q1 q2 p0 hx os har P4 B4 O4 hb4 CR
          generalize rtW b d ps k 1000 300 (stt b d ps x0 k) = u at *
          generalize (x0 :: rtL b d ps k 1000 300 (stt b d ps x0 k)).length = nr at *
          obtain ⟨n0, n1, n2, n3, n4, n5, n6⟩ := u
          dsimp only at HT HKj ⊢
          obtain ⟨hn1, hn2, hn3, hn4⟩ := HKj
          go_upto_region 8 with (fail)
          have B6 : Hid (BxP w (w5.alloc (.cells #[.int .i64 n0, .int .i64 n1, .int .i64 n2, .int .i64 n3, .int .i64 n4, .int .i64 n5, .int .i64 n6] 32)) b d (.slice (some ⟨bk, off, none⟩) ps.length cap)) := B5.out.keep (belA _ _)
          have O6 : Hid ((w5.alloc (.cells #[.int .i64 n0, .int .i64 n1, .int .i64 n2, .int .i64 n3, .int .i64 n4, .int .i64 n5, .int .i64 n6] 32)).ownsRow B0 3 1 vo L.length (L.map (Value.int .i64))) := O5.out.alloc _
          have Y6 : Hid (Bk (w5.alloc (.cells #[.int .i64 n0, .int .i64 n1, .int .i64 n2, .int .i64 n3, .int .i64 n4, .int .i64 n5, .int .i64 n6] 32)) w5.heap.size #[.int .i64 n0, .int .i64 n1, .int .i64 n2, .int .i64 n3, .int .i64 n4, .int .i64 n5, .int .i64 n6] 32) := Bk.new _ _ _
          have hb6 : B0 ≤ (w5.alloc (.cells #[.int .i64 n0, .int .i64 n1, .int .i64 n2, .int .i64 n3, .int .i64 n4, .int .i64 n5, .int .i64 n6] 32)).heap.size := Nat.le_trans hb5 (by simp)
          clear B5 O5 hb5
          generalize (w5.alloc (.cells #[.int .i64 n0, .int .i64 n1, .int .i64 n2, .int .i64 n3, .int .i64 n4, .int .i64 n5, .int .i64 n6] 32)) = w6 at *
          generalize w5.heap.size = Y at *
          obtain ⟨y0, y1, y2, y3, y4, y5, y6⟩ := Bk.c7 Y6.out
          go_wp2_with (at_builtin; refine wpList_append_own _ rfl (.tmp 37) (.tmp 43) 33 rfl B0 3 i0 (.int .i64 0) 1 8 Try.underlying33 hi hz0 hz1 hz2 rfl (by decide) _ _ _ rfl (O6.out.alloc _) ⟨w6.heap.size, 0, none⟩ 1 1 [.int .i64 (n3 + n4)] rfl rfl (cell_one_new _ _ _) (by simp [Value.oneCell']) (by unfold maxLen; omega) (by omega) (Nat.le_trans hb6 (by simp)) ?_; intro v5 w7 hown5 hgrow5 _; have HB7 : Hid (Below B0 w6 w7) := grown_bel ((Below.refl _ _).alloc hb6 _) hgrow5 (Nat.le_trans hb6 (by simp)) (fun k hk => (O6.out.lt k hk).1); have O7 : Hid (w7.ownsRow B0 3 1 v5 ((idsP (ps.take (j + 1))).map (hopI b d ps k)).length (((idsP (ps.take (j + 1))).map (hopI b d ps k)).map (Value.int .i64))) := own_snoc HT.out hown5; have hb7 : B0 ≤ w7.heap.size := grown_le hb6 hgrow5; clear hown5 hgrow5)
          have B7 : Hid (BxP w w7 b d (.slice (some ⟨bk, off, none⟩) ps.length cap)) := bxP_keepB B6.out HB7.out hl2
          go_roundw
          case rel => exact ⟨_, j + 1, rfl, by omega, by go_num, O7, B7, hb7⟩
          case measure => simp [intOf]; omega
        · have hO := HO.out
          rw [List.take_of_length_le (by omega)] at hO
          obtain ⟨ar, cr, hvr, hcr, row⟩ := own_rowAt hO
          subst hvr
          have HW : Hid (RowAt wr ar ((idsP ps).map (hopI b d ps k))) := row
          clear hO HO row
          go_wp2
          go_ret2
          exact ⟨_, _, _, rfl, rfl, HW.out, HB.out.bel⟩
end Go.Proofs.Ytejajlloipkkhaa
