/- HopsIn, in the program. -/
import Derived.Test.YtejajlloipkkhaaH2Z
namespace Go.Proofs.Ytejajlloipkkhaa
open Go.RowKit Go.Deep
set_option linter.unusedVariables false
/-- the program's loop over the peers: the box, and the list that is filled -/
structure HS (w wr : World) (P : Array Value) (g : Nat) (l : List Int) : Prop where
  bel : Below w.heap.size w wr
  kp : Bk wr w.heap.size P 28
  kg : Bk wr g (zv l) 3
  hg : w.heap.size < g
theorem HS.keep {w wr w1 : World} {P : Array Value} {g : Nat} {l : List Int} (h : HS w wr P g l) (hb : Below wr.heap.size wr w1) : HS w w1 P g l := ⟨belt h.bel hb, h.kp.keep hb, h.kg.keep hb, h.hg⟩
theorem HS.oz {w wr : World} {P : Array Value} {g : Nat} {l : List Int} (h : HS w wr P g l) : OwnZ w wr g l := ⟨h.bel, Nat.le_of_lt h.hg, h.kg⟩
theorem HS.put {w wr : World} {P : Array Value} {g : Nat} {l : List Int} (h : HS w wr P g l) (i : Nat) (v : Int) : HS w (wr.setCell ⟨g, i, none⟩ (.int .i64 v)) P g (l.set i v) :=
  ⟨(h.oz.put i v).bel, h.kp.oth (by have := h.hg; omega) i _, (h.oz.put i v).row, h.hg⟩
theorem HS.s4 {w wr : World} {b d : Int} {bk off cap : Nat} {ps : List Pr} {g : Nat} {l : List Int} {j : Nat} {x : Int} (h : HS w wr #[.int .i64 b, .int .i64 d, .slice (some ⟨bk, off, none⟩) ps.length cap] g l) (hq : PeersAt w (some ⟨bk, off, none⟩) ps) (hj : j < ps.length) (hx : (ps.getD j pr0).id = x) : wr.cell? ⟨w.heap.size, 0, none⟩ = some (.int .i64 b) ∧ wr.cell? ⟨w.heap.size, 1, none⟩ = some (.int .i64 d) ∧ wr.cell? ⟨w.heap.size, 2, none⟩ = some (.slice (some ⟨bk, off, none⟩) ps.length cap) ∧ wr.cell? ⟨bk, off + j * 4, none⟩ = some (.int .i64 x) := by
  obtain ⟨q0, q1, q2⟩ := Bk.c3 h.kp
  obtain ⟨c0, _⟩ := (peersAt_cell (hq.keep h.bel) (by omega)).2 j hj
  rw [hx] at c0
  exact ⟨q0, q1, q2, c0⟩
/-- a walk's box beside it -/
structure HX (w wc : World) (P : Array Value) (g : Nat) (l : List Int) (X : Nat) (U : Array Value) : Prop where
  st : HS w wc P g l
  kx : Bk wc X U 32
  hX : g < X
theorem HX.new {w wa : World} {P : Array Value} {g : Nat} {l : List Int} (h : HS w wa P g l) (U : Array Value) : HX w (wa.alloc (.cells U 32)) P g l wa.heap.size U := ⟨h.keep (belA _ _), Bk.new _ _ _, h.kg.lt⟩
theorem HX.keep {w wr w1 : World} {P : Array Value} {g : Nat} {l : List Int} {X : Nat} {U : Array Value} (h : HX w wr P g l X U) (hb : Below wr.heap.size wr w1) : HX w w1 P g l X U := ⟨h.st.keep hb, h.kx.keep hb, h.hX⟩
theorem HX.put {w wr : World} {P : Array Value} {g : Nat} {l : List Int} {X : Nat} {U : Array Value} (h : HX w wr P g l X U) (vs : List Value) : HX w (setL wr X 0 vs) P g l X (ovr U 0 vs) :=
  ⟨⟨setL_below (by have := h.hX; have := h.st.hg; omega) vs 0 h.st.bel, (setL_oth (by have := h.hX; have := h.st.hg; omega) vs wr 0).trans h.st.kp, (setL_oth (by have := h.hX; omega) vs wr 0).trans h.st.kg, h.st.hg⟩, h.kx.setL vs 0, h.hX⟩
theorem cop_map {f : Int → Int} {l : List Int} (j : Nat) (hj : j < l.length) : (l.map f).getD j 0 = f (l.getD j 0) := by
  simp [List.getD_eq_getElem?_getD, hj]
set_option maxRecDepth 100000 in
set_option maxHeartbeats 1600000 in
theorem HopsIn_own (b d : Int) (a : Option Addr) (cap : Nat) (ps : List Pr) (k : Int) (w : World) (hm : ps.length ≤ 1048576) (hr : PeersAt w a ps) :
    Calls Try.prog 20 #[.agg #[.int .i64 b, .int .i64 d, .slice a ps.length cap], .int .i64 k] w fun e w' => ∃ a' n c, e = .returned (.tuple #[.slice a' n c, .bool (hopOk b d ps k)]) ∧ (hopL b d ps k).length = n ∧ OwnLs w.heap.size w'.heap.size w' a' n (hopL b d ps k) ∧ Below w.heap.size w w' := by
  have hr1 := hr.alloc (.cells #[.int .i64 b, .int .i64 d, .slice a ps.length cap] 28)
  have CG := GoodPeers_any b d a cap ps (w.alloc (.cells #[.int .i64 b, .int .i64 d, .slice a ps.length cap] 28)) hm hr1
  have CN := fun w1 => isNumber_any b d k w1
  have HR : Hid (PeersAt w a ps) := hr
  clear hr hr1
  cases hg : goodP b d ps
  · have hno : hopOk b d ps k = false := by unfold hopOk; rw [hg]; rfl
    have hz : hopL b d ps k = [] := by unfold hopL; rw [hno]; rfl
    rw [hz, hno]
    rw [hg] at CG
    clear hg hz hno
    go_enter Try.func20, Try.ntmps20
    go_wp2_with fail
    refine CG.mono ?_
    rintro e w1 ⟨rfl, hw1⟩
    go_wp2
    go_ret2
    exact ⟨_, _, _, rfl, rfl, ownLs_nil _ _ _ _, bel1 hw1 (by simp)⟩
  · rw [hg] at CG
    cases hn : numB b d k
    · have hno : hopOk b d ps k = false := by unfold hopOk; rw [hn]; simp
      have hz : hopL b d ps k = [] := by unfold hopL; rw [hno]; rfl
      rw [hz, hno]
      rw [hn] at CN
      clear hg hz hno hn
      go_enter Try.func20, Try.ntmps20
      go_wp2_with fail
      refine CG.mono ?_
      rintro e w1 ⟨rfl, hw1⟩
      have BX1 : Hid (BxP w w1 b d (.slice a ps.length cap)) := bxP1 hw1 (by simp)
      clear CG hw1
      obtain ⟨_, _, q0, q1, q2⟩ := BX1.out
      go_wp2_with fail
      refine (CN _).mono ?_
      rintro e w2 ⟨rfl, hw2⟩
      have B2 : Hid (Below w.heap.size w w2) := belt BX1.out.bel hw2
      clear q0 q1 q2 hw2
      go_wp2
      go_ret2
      exact ⟨_, _, _, rfl, rfl, ownLs_nil _ _ _ _, B2.out⟩
    · have hyes : hopOk b d ps k = true := by unfold hopOk; rw [hg, hn]; rfl
      have hz : hopL b d ps k = (idsP ps).map (hopI b d ps k) := by unfold hopL; rw [hyes]; rfl
      rw [hz, hyes]
      obtain ⟨_, k1, k2⟩ := numB_true hn
      have CR : ∀ (w1 : World) (x : Int), hasB (idsP ps) x = true → Below w.heap.size w w1 → Calls Try.prog 14 #[.agg #[.int .i64 b, .int .i64 d, .slice a ps.length cap], .int .i64 x, .int .i64 k, .int .i64 1000] w1 fun e w' => ∃ a' n' c', e = .returned (.tuple #[.agg #[.int .i64 (rtW b d ps k 1000 300 (stt b d ps x k)).at_, .int .i64 (rtW b d ps k 1000 300 (stt b d ps x k)).imag, .int .i64 (rtW b d ps k 1000 300 (stt b d ps x k)).left, .int .i64 (rtW b d ps k 1000 300 (stt b d ps x k)).points, .int .i64 (rtW b d ps k 1000 300 (stt b d ps x k)).succs, .int .i64 (rtW b d ps k 1000 300 (stt b d ps x k)).state, .int .i64 (rtW b d ps k 1000 300 (stt b d ps x k)).owner], .slice a' n' c', .bool true]) ∧ Below w1.heap.size w1 w' := fun w1 x hh hb => by
        refine (RouteOf_own b d a cap ps x k 1000 w1 hm (HR.out.keep hb)).mono ?_
        have hy : rtOk b d ps x k 1000 = true := by unfold rtOk askP; rw [hg, hh, hn]; rfl
        rw [rtV_yes hy, hy]
        rintro e w2 ⟨a', n', c', rfl, _, _, hx⟩
        exact ⟨a', n', c', rfl, hx⟩
      rw [hn] at CN
      have HK : Hid (∀ i, i < ps.length → 0 ≤ (rtW b d ps k 1000 300 (stt b d ps (ps.getD i pr0).id k)).points ∧ (rtW b d ps k 1000 300 (stt b d ps (ps.getD i pr0).id k)).points ≤ 1000 ∧ 0 ≤ (rtW b d ps k 1000 300 (stt b d ps (ps.getD i pr0).id k)).succs ∧ (rtW b d ps k 1000 300 (stt b d ps (ps.getD i pr0).id k)).succs ≤ 1000) := fun i hi => hop_rng hg (idsP_has hi) k1 k2
      have hil : ((idsP ps).map (hopI b d ps k)).length = ps.length := by rw [List.length_map, idsP_len]
      have HI : Hid (∀ i, i < ps.length → ((idsP ps).map (hopI b d ps k)).getD i 0 = (rtW b d ps k 1000 300 (stt b d ps (ps.getD i pr0).id k)).points + (rtW b d ps k 1000 300 (stt b d ps (ps.getD i pr0).id k)).succs) := fun i hi => by rw [cop_map i (by rw [idsP_len]; exact hi), idsP_get]; rfl
      generalize (idsP ps).map (hopI b d ps k) = HL at *
      clear hz hyes hn hg
      have hmk := make_ints ps.length hm
      go_enter Try.func20, Try.ntmps20
      go_wp2_with fail
      refine CG.mono ?_
      rintro e w1 ⟨rfl, hw1⟩
      have BX1 : Hid (BxP w w1 b d (.slice a ps.length cap)) := bxP1 hw1 (by simp)
      have K1 : Hid (Bk w1 w.heap.size #[.int .i64 b, .int .i64 d, .slice a ps.length cap] 28) := (Bk.new _ _ _).keep hw1
      clear CG hw1
      obtain ⟨_, _, q0, q1, q2⟩ := BX1.out
      go_wp2_with fail
      refine (CN _).mono ?_
      rintro e w2 ⟨rfl, hw2⟩
      have BX2 : Hid (BxP w w2 b d (.slice a ps.length cap)) := BX1.out.keep hw2
      have K2 : Hid (Bk w2 w.heap.size #[.int .i64 b, .int .i64 d, .slice a ps.length cap] 28) := K1.out.keep hw2
      clear q0 q1 q2 hw2 BX1 K1
      obtain ⟨_, hlt2, q0, q1, q2⟩ := BX2.out
      go_wp2_with fail
      clear hmk q0 q1 q2
      have S0 : Hid (HS w (w2.alloc (.cells (zv (List.replicate ps.length 0)) 3)) #[.int .i64 b, .int .i64 d, .slice a ps.length cap] w2.heap.size (cop HL 0)) := ⟨BX2.out.bel.alloc BX2.out.bel.size _, K2.out.alloc _, by rw [cop_none, hil]; exact Bk.new _ _ _, hlt2⟩
      generalize w2.alloc (.cells (zv (List.replicate ps.length 0)) 3) = w3 at *
      generalize w2.heap.size = g at *
      clear BX2 K2
      go_loopw [28] (fun vi wr => ∃ j : Nat, j ≤ ps.length ∧ vi = .int .i64 j ∧ Hid (HS w wr #[.int .i64 b, .int .i64 d, .slice a ps.length cap] g (cop HL j))) (fun vi _ => ps.length - (intOf vi).toNat)
      case atStart => exact ⟨0, Nat.zero_le _, rfl, S0⟩
      case round =>
        obtain ⟨j, hj, rfl, ST⟩ := hrel
        clear S0
        by_cases hlt : j < ps.length
        · have HH := idsP_has hlt
          have HKj := HK.out j hlt
          have HIj := HI.out j hlt
          clear HK HI
          obtain ⟨bk, off, rfl⟩ := peersAt_form HR.out (by omega)
          have hx0 : (ps.getD j pr0).id = (ps.getD j pr0).id := rfl
          generalize hx : (ps.getD j pr0).id = x0 at HH HKj HIj
          clear hx0
          have CRx := fun w1 hb => CR w1 x0 HH hb
          clear CR
          generalize rtW b d ps k 1000 300 (stt b d ps x0 k) = u at *
          obtain ⟨n0, n1, n2, n3, n4, n5, n6⟩ := u
          dsimp only at HKj HIj CRx
          obtain ⟨hn1, hn2, hn3, hn4⟩ := HKj
          have hcl : j < (cop HL j).length := by rw [cop_len (by omega)]; omega
          have STs : Hid (cop HL (j + 1) = (cop HL j).set j (n3 + n4)) := by unfold Hid; rw [← HIj, cop_set (by omega)]
          clear HIj
          go_upto_region 7 with (fail)
          go_cut [8, 28] from 28 to 52 (fun v8 v28 wc => ∃ X, v8 = .pointer (some ⟨X, 0, none⟩) ∧ v28 = .int .i64 j ∧ Hid (HX w wc #[.int .i64 b, .int .i64 d, .slice (some ⟨bk, off, none⟩) ps.length cap] g (cop HL j) X #[.int .i64 n0, .int .i64 n1, .int .i64 n2, .int .i64 n3, .int .i64 n4, .int .i64 n5, .int .i64 n6]))
          case first =>
            have sta := ST.out.keep ((Below.refl _ _).drew)
            have xsa := (HX.new ST.out #[.int .i64 0, .int .i64 0, .int .i64 0, .int .i64 0, .int .i64 0, .int .i64 0, .int .i64 0]).keep ((Below.refl _ _).drew)
            go_region_held (fun w' => w'.cell? ⟨w.heap.size, 0, none⟩ = some (.int .i64 b) ∧ w'.cell? ⟨w.heap.size, 1, none⟩ = some (.int .i64 d) ∧ w'.cell? ⟨w.heap.size, 2, none⟩ = some (.slice (some ⟨bk, off, none⟩) ps.length cap) ∧ w'.cell? ⟨bk, off + j * 4, none⟩ = some (.int .i64 x0)) (first | with_reducible (first | exact HS.s4 sta HR.out hlt hx | exact HS.s4 xsa.st HR.out hlt hx | exact HS.s4 stb HR.out hlt hx | exact HS.s4 xsb.st HR.out hlt hx | exact HS.s4 (HX.new stb _).st HR.out hlt hx) | exact HS.s4 (HX.put xsb [.int .i64 n0, .int .i64 n1, .int .i64 n2, .int .i64 n3, .int .i64 n4, .int .i64 n5, .int .i64 n6]).st HR.out hlt hx | exact HS.s4 (HX.put (HX.new stb #[.int .i64 0, .int .i64 0, .int .i64 0, .int .i64 0, .int .i64 0, .int .i64 0, .int .i64 0]) [.int .i64 n0, .int .i64 n1, .int .i64 n2, .int .i64 n3, .int .i64 n4, .int .i64 n5, .int .i64 n6]).st HR.out hlt hx) (first
              | (go_at_call 14; refine (CRx _ sta.bel).mono ?_; rintro e wa ⟨a1, m1, c1, rfl, hwa⟩; have stb := sta.keep hwa)
              | (go_at_call 14; refine (CRx _ xsa.st.bel).mono ?_; rintro e wa ⟨a1, m1, c1, rfl, hwa⟩; have xsb := xsa.keep hwa; obtain ⟨y0, y1, y2, y3, y4, y5, y6⟩ := Bk.c7 xsb.kx; obtain ⟨g0, g1, g2, g3, g4, g5, g6⟩ := Bk.f7 xsb.kx))
            all_goals (go_wp2_with fail; go_meet; first | exact ⟨_, rfl, rfl, HX.new stb _⟩ | exact ⟨_, rfl, rfl, xsb.put [.int .i64 n0, .int .i64 n1, .int .i64 n2, .int .i64 n3, .int .i64 n4, .int .i64 n5, .int .i64 n6]⟩ | exact ⟨_, rfl, rfl, (HX.new stb #[.int .i64 0, .int .i64 0, .int .i64 0, .int .i64 0, .int .i64 0, .int .i64 0, .int .i64 0]).put [.int .i64 n0, .int .i64 n1, .int .i64 n2, .int .i64 n3, .int .i64 n4, .int .i64 n5, .int .i64 n6]⟩)
          case rest =>
            obtain ⟨X, rfl, rfl, XS⟩ := hcut
            clear ST
            obtain ⟨y0, y1, y2, y3, y4, y5, y6⟩ := Bk.c7 XS.out.kx
            obtain ⟨r0, r1⟩ := XS.out.st.oz.at j hcl
            have S2 : Hid (HS w (wc.setCell ⟨g, j, none⟩ (.int .i64 (n3 + n4))) #[.int .i64 b, .int .i64 d, .slice (some ⟨bk, off, none⟩) ps.length cap] g (cop HL (j + 1))) := by unfold Hid; rw [STs.out]; exact XS.out.st.put j _
            generalize (cop HL j).getD j 0 = yy at r0
            go_wp2_with fail
            go_roundw
            case rel => exact ⟨j + 1, by omega, by go_num, S2⟩
            case measure => simp [intOf]; omega
        · have hjl : j = HL.length := by omega
          rw [hjl, cop_all] at ST
          have hlo := ST.out.hg
          go_wp2
          go_ret2
          exact ⟨_, _, _, rfl, hil, ownLs_of ST.out.oz.owns (Nat.le_refl _) hil, ST.out.bel⟩
end Go.Proofs.Ytejajlloipkkhaa
