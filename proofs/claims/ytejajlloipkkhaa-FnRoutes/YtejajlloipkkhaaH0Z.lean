/- RouteOf, in the specification. -/
import Derived.Test.YtejajlloipkkhaaG9Z
namespace Go.Proofs.Ytejajlloipkkhaa
open Go.RowKit Go.Deep
set_option linter.unusedVariables false
theorem grown_bk {w w1 : World} {r : Option Nat} {g : Nat} {C : Array Value} {T : TypeId} (h : Bk w g C T) (hg : w.grownBy w1 r) (hr : ¬ r = some g) : Bk w1 g C T := (hg.block g h.lt (fun he => hr he.symm)).trans h
theorem grown_le {w w1 : World} {o : Obj} {r : Option Nat} {n : Nat} (h : n ≤ w.heap.size) (hg : (w.alloc o).grownBy w1 r) : n ≤ w1.heap.size := Nat.le_trans h (Nat.le_trans (by simp) hg.size)
theorem stp_rng {b d : Int} {ps : List Pr} {k ttl : Int} {va vi vl vp vs vt vo : Int} (p1 : 0 ≤ vp) (p2 : vp ≤ 1000) (s1 : 0 ≤ vs) (s2 : vs ≤ 1000) : (stp b d ps k ttl ⟨va, vi, vl, vp, vs, vt, vo⟩).points ≤ 1001 ∧ 0 ≤ (stp b d ps k ttl ⟨va, vi, vl, vp, vs, vt, vo⟩).points ∧ (stp b d ps k ttl ⟨va, vi, vl, vp, vs, vt, vo⟩).succs ≤ 1001 ∧ 0 ≤ (stp b d ps k ttl ⟨va, vi, vl, vp, vs, vt, vo⟩).succs := by
  unfold stp
  dsimp only
  split
  · exact ⟨by dsimp only; omega, p1, by dsimp only; omega, s1⟩
  · split
    · exact ⟨by dsimp only; omega, p1, by dsimp only; omega, s1⟩
    · split
      · exact ⟨by dsimp only; omega, p1, by dsimp only; omega, s1⟩
      · split
        · exact ⟨by dsimp only; omega, by dsimp only; omega, by dsimp only; omega, s1⟩
        · exact ⟨by dsimp only; omega, p1, by dsimp only; omega, by dsimp only; omega⟩
set_option maxRecDepth 100000 in
set_option maxHeartbeats 3200000 in
theorem lroute_any (b d : Int) (a : Option Addr) (cap : Nat) (ps : List Pr) (x k ttl : Int) (w : World) (hg : goodP b d ps = true) (hh : hasB (idsP ps) x = true) (k1 : 0 ≤ k) (k2 : k < sz b) (t1 : 0 ≤ ttl) (t2 : ttl ≤ 1000) (hr : PeersAt w a ps) :
    Calls Try.prog 55 #[.agg #[.int .i64 b, .int .i64 d, .slice a ps.length cap], .int .i64 x, .int .i64 k, .int .i64 ttl] w fun e w' => ∃ a' c', e = .returned (.tuple #[.agg #[.int .i64 (rtW b d ps k ttl 300 (stt b d ps x k)).at_, .int .i64 (rtW b d ps k ttl 300 (stt b d ps x k)).imag, .int .i64 (rtW b d ps k ttl 300 (stt b d ps x k)).left, .int .i64 (rtW b d ps k ttl 300 (stt b d ps x k)).points, .int .i64 (rtW b d ps k ttl 300 (stt b d ps x k)).succs, .int .i64 (rtW b d ps k ttl 300 (stt b d ps x k)).state, .int .i64 (rtW b d ps k ttl 300 (stt b d ps x k)).owner], .slice a' (x :: rtL b d ps k ttl 300 (stt b d ps x k)).length c']) ∧ (∃ g, a' = some ⟨g, 0, none⟩ ∧ OwnS w.heap.size w' g (x :: rtL b d ps k ttl 300 (stt b d ps x k))) ∧ Below w.heap.size w w' := by
  have HR : Hid (PeersAt w a ps) := hr
  clear hr
  have I1 := rts0 (ttl := ttl) hg hh k1 k2 t1
  generalize hRW : rtW b d ps k ttl 300 (stt b d ps x k) = RW at *
  generalize hRP : x :: rtL b d ps k ttl 300 (stt b d ps x k) = RP at *
  clear hRW hRP
  have CS : ∀ (w1 : World) (u : Wk), Below w.heap.size w w1 → WV b d ps k u → Calls Try.prog 67 #[.agg #[.int .i64 b, .int .i64 d, .slice a ps.length cap], .int .i64 k, .int .i64 ttl, .agg #[.int .i64 u.at_, .int .i64 u.imag, .int .i64 u.left, .int .i64 u.points, .int .i64 u.succs, .int .i64 u.state, .int .i64 u.owner]] w1 fun e w' => e = .returned (.agg #[.int .i64 (stp b d ps k ttl u).at_, .int .i64 (stp b d ps k ttl u).imag, .int .i64 (stp b d ps k ttl u).left, .int .i64 (stp b d ps k ttl u).points, .int .i64 (stp b d ps k ttl u).succs, .int .i64 (stp b d ps k ttl u).state, .int .i64 (stp b d ps k ttl u).owner]) ∧ Below w1.heap.size w1 w' := fun w1 u h hv => lstep_any b d a cap ps k ttl u w1 hg hv k1 k2 t1 t2 (HR.out.keep h)
  have HI1 : Hid (RtS b d ps k ttl RW RP 300 (stt b d ps x k) [x]) := I1
  clear I1
  have ST0 : Hid (ST w ((w.alloc (.cells #[.int .i64 b, .int .i64 d, .slice a ps.length cap] 28)).alloc (.cells #[.int .i64 0, .int .i64 0, .int .i64 0, .int .i64 0, .int .i64 0, .int .i64 0, .int .i64 0] 32)) #[.int .i64 b, .int .i64 d, .slice a ps.length cap]) := st0 w _
  have CA : Calls Try.prog 71 #[.agg #[.int .i64 b, .int .i64 d, .slice a ps.length cap], .int .i64 x, .int .i64 k] ((w.alloc (.cells #[.int .i64 b, .int .i64 d, .slice a ps.length cap] 28)).alloc (.cells #[.int .i64 0, .int .i64 0, .int .i64 0, .int .i64 0, .int .i64 0, .int .i64 0, .int .i64 0] 32)) fun e w' => e = .returned (.agg #[.int .i64 (stt b d ps x k).at_, .int .i64 (stt b d ps x k).imag, .int .i64 (stt b d ps x k).left, .int .i64 (stt b d ps x k).points, .int .i64 (stt b d ps x k).succs, .int .i64 (stt b d ps x k).state, .int .i64 (stt b d ps x k).owner]) ∧ Below ((w.alloc (.cells #[.int .i64 b, .int .i64 d, .slice a ps.length cap] 28)).alloc (.cells #[.int .i64 0, .int .i64 0, .int .i64 0, .int .i64 0, .int .i64 0, .int .i64 0, .int .i64 0] 32)).heap.size ((w.alloc (.cells #[.int .i64 b, .int .i64 d, .slice a ps.length cap] 28)).alloc (.cells #[.int .i64 0, .int .i64 0, .int .i64 0, .int .i64 0, .int .i64 0, .int .i64 0, .int .i64 0] 32)) w' := lstart_any b d a cap ps x k _ hg hh k1 k2 (HR.out.keep ST0.out.bel)
  generalize stt b d ps x k = v0 at *
  obtain ⟨s0, s1, s2, s3, s4, s5, s6⟩ := v0
  dsimp only at CA
  obtain ⟨i0, hi, hz0, hz1, hz2⟩ := info_parts'
  go_enter Try.func55, Try.ntmps55
  go_wp2_with fail
  refine CA.mono ?_
  rintro e w1 ⟨rfl, hx⟩
  have S1 : Hid (ST w w1 #[.int .i64 b, .int .i64 d, .slice a ps.length cap]) := ST0.out.keep hx
  clear hx ST0 CA
  go_upto_region 2 with (fail)
  have R2 : Hid (RS w (w1.alloc (.cells #[.int .i64 s0, .int .i64 s1, .int .i64 s2, .int .i64 s3, .int .i64 s4, .int .i64 s5, .int .i64 s6] 32)) #[.int .i64 b, .int .i64 d, .slice a ps.length cap] w1.heap.size #[.int .i64 s0, .int .i64 s1, .int .i64 s2, .int .i64 s3, .int .i64 s4, .int .i64 s5, .int .i64 s6]) := ⟨S1.out.bel.alloc S1.out.bel.size _, S1.out.kb.alloc _, S1.out.ka.alloc _, Bk.new _ _ _, S1.out.ka.lt⟩
  clear S1
  generalize w1.alloc (.cells #[.int .i64 s0, .int .i64 s1, .int .i64 s2, .int .i64 s3, .int .i64 s4, .int .i64 s5, .int .i64 s6] 32) = w2 at *
  have hB : w1.heap.size < w2.heap.size := R2.out.kw.lt
  have hX1 := R2.out.hX
  generalize w1.heap.size = X at *
  go_wp2_with fail
  have R3 : Hid (RS w (w2.alloc (.cells #[.int .i64 x] 3)) #[.int .i64 b, .int .i64 d, .slice a ps.length cap] X #[.int .i64 s0, .int .i64 s1, .int .i64 s2, .int .i64 s3, .int .i64 s4, .int .i64 s5, .int .i64 s6]) := R2.out.keep (belA _ _)
  have O3 : Hid ((w2.alloc (.cells #[.int .i64 x] 3)).ownsRow w2.heap.size 3 1 (.slice (some ⟨w2.heap.size, 0, none⟩) 1 1) [x].length ([x].map (Value.int .i64))) := owns_one _ _
  have hB3 : w2.heap.size ≤ (w2.alloc (.cells #[.int .i64 x] 3)).heap.size := by simp
  clear R2
  generalize w2.alloc (.cells #[.int .i64 x] 3) = w3 at *
  generalize w2.heap.size = B0 at *
  go_loopg [11] 300 (fun F vs wr => ∃ (vo : Value) (u : Wk) (L : List Int), vs = vo ∧ Hid (wr.ownsRow B0 3 1 vo L.length (L.map (Value.int .i64))) ∧ Hid (RS w wr #[.int .i64 b, .int .i64 d, .slice a ps.length cap] X #[.int .i64 u.at_, .int .i64 u.imag, .int .i64 u.left, .int .i64 u.points, .int .i64 u.succs, .int .i64 u.state, .int .i64 u.owner]) ∧ B0 ≤ wr.heap.size ∧ Hid (RtS b d ps k ttl RW RP F u L) ∧ 1 ≤ L.length)
  case atStart => exact ⟨_, ⟨s0, s1, s2, s3, s4, s5, s6⟩, [x], rfl, O3, R3, hB3, HI1, by simp⟩
  case round =>
    obtain ⟨vo, u, L, hvo, HO, HRS0, hbb, HI, hL1⟩ := hrel
    have hvo := hvo.symm
    subst hvo
    clear R3 O3 HI1 hB3
    obtain ⟨ua, ui, ul, up, us, ut, uo⟩ := u
    have HRS : Hid (RS w wr #[.int .i64 b, .int .i64 d, .slice a ps.length cap] X #[.int .i64 ua, .int .i64 ui, .int .i64 ul, .int .i64 up, .int .i64 us, .int .i64 ut, .int .i64 uo]) := HRS0
    clear HRS0
    obtain ⟨c0, c1, c2⟩ := Bk.c3 HRS.out.kp
    obtain ⟨r0, r1, r2, r3, r4, r5, r6⟩ := Bk.c7 HRS.out.kw
    obtain ⟨g0, g1, g2, g3, g4, g5, g6⟩ := HRS.out.kw.f7
    obtain ⟨a0, a1, a2, a3, a4, a5, a6⟩ := Bk.c7 HRS.out.ka
    obtain ⟨f0, f1, f2, f3, f4, f5, f6⟩ := HRS.out.ka.f7
    by_cases hut : ut = 0
    · obtain ⟨F2, hF2, I2⟩ := HI.out.step hg k1 k2 t2 hut
      have HWu : Hid (WV b d ps k ⟨ua, ui, ul, up, us, ut, uo⟩) := (HI.out.on hut).wv
      have HOn := HI.out.on hut
      have hq := HOn.wv
      obtain ⟨_, _, _, _, _, hp1, hp2, hs1, hs2⟩ := hq
      dsimp only at hp1 hp2 hs1 hs2
      have hut' : (ut == 0) = true := by simpa using hut
      have hLn : L.length ≤ 301 := by have := HI.out.ln; omega
      have HG : Hid ((stp b d ps k ttl ⟨ua, ui, ul, up, us, ut, uo⟩).points ≤ 1001 ∧ 0 ≤ (stp b d ps k ttl ⟨ua, ui, ul, up, us, ut, uo⟩).points ∧ (stp b d ps k ttl ⟨ua, ui, ul, up, us, ut, uo⟩).succs ≤ 1001 ∧ 0 ≤ (stp b d ps k ttl ⟨ua, ui, ul, up, us, ut, uo⟩).succs) := stp_rng hp1 hp2 hs1 hs2
      have HI2 : Hid (RtS b d ps k ttl RW RP F2 (stp b d ps k ttl ⟨ua, ui, ul, up, us, ut, uo⟩) (L ++ (if up + us < (stp b d ps k ttl ⟨ua, ui, ul, up, us, ut, uo⟩).points + (stp b d ps k ttl ⟨ua, ui, ul, up, us, ut, uo⟩).succs then [(stp b d ps k ttl ⟨ua, ui, ul, up, us, ut, uo⟩).at_] else []))) := I2
      clear hut I2 HI HOn
      go_wp2_with fail
      refine (CS _ ⟨ua, ui, ul, up, us, ut, uo⟩ HRS.out.bel HWu.out).mono ?_
      rintro e w5 ⟨rfl, hx⟩
      have R5 : Hid (RS w w5 #[.int .i64 b, .int .i64 d, .slice a ps.length cap] X #[.int .i64 ua, .int .i64 ui, .int .i64 ul, .int .i64 up, .int .i64 us, .int .i64 ut, .int .i64 uo]) := HRS.out.keep hx
      have O5 : Hid (w5.ownsRow B0 3 1 vo L.length (L.map (Value.int .i64))) := owns_keep HO.out hx
      have hB5 : B0 ≤ w5.heap.size := Nat.le_trans hbb hx.size
      clear c0 c1 c2 r0 r1 r2 r3 r4 r5 r6 g0 g1 g2 g3 g4 g5 g6 a0 a1 a2 a3 a4 a5 a6 f0 f1 f2 f3 f4 f5 f6
      clear HRS HO hx HWu hbb
      generalize stp b d ps k ttl ⟨ua, ui, ul, up, us, ut, uo⟩ = u2 at *
      obtain ⟨n0, n1, n2, n3, n4, n5, n6⟩ := u2
      dsimp only
      unfold Hid at HG
      dsimp only at HG HI2
      obtain ⟨hn1, hn2, hn3, hn4⟩ := HG
      go_upto_region 5 with (fail)
      have R6 : Hid (RS w (w5.alloc (.cells #[.int .i64 n0, .int .i64 n1, .int .i64 n2, .int .i64 n3, .int .i64 n4, .int .i64 n5, .int .i64 n6] 32)) #[.int .i64 b, .int .i64 d, .slice a ps.length cap] X #[.int .i64 ua, .int .i64 ui, .int .i64 ul, .int .i64 up, .int .i64 us, .int .i64 ut, .int .i64 uo]) := R5.out.keep (belA _ _)
      have O6 : Hid ((w5.alloc (.cells #[.int .i64 n0, .int .i64 n1, .int .i64 n2, .int .i64 n3, .int .i64 n4, .int .i64 n5, .int .i64 n6] 32)).ownsRow B0 3 1 vo L.length (L.map (Value.int .i64))) := O5.out.alloc _
      have Y6 : Hid (Bk (w5.alloc (.cells #[.int .i64 n0, .int .i64 n1, .int .i64 n2, .int .i64 n3, .int .i64 n4, .int .i64 n5, .int .i64 n6] 32)) w5.heap.size #[.int .i64 n0, .int .i64 n1, .int .i64 n2, .int .i64 n3, .int .i64 n4, .int .i64 n5, .int .i64 n6] 32) := Bk.new _ _ _
      have hY : ∀ k, vo.ownBlock = some k → k < w5.heap.size := fun k hk => (O5.out.lt k hk).2
      have hBY : B0 ≤ w5.heap.size := hB5
      have hB6 : B0 ≤ (w5.alloc (.cells #[.int .i64 n0, .int .i64 n1, .int .i64 n2, .int .i64 n3, .int .i64 n4, .int .i64 n5, .int .i64 n6] 32)).heap.size := Nat.le_trans hB5 (by simp)
      have HHY : Hid (∀ k, vo.ownBlock = some k → k < w5.heap.size) := hY
      clear R5 O5 hB5 hY
      generalize w5.alloc (.cells #[.int .i64 n0, .int .i64 n1, .int .i64 n2, .int .i64 n3, .int .i64 n4, .int .i64 n5, .int .i64 n6] 32) = w6 at *
      generalize w5.heap.size = Y at *
      obtain ⟨c0, c1, c2⟩ := Bk.c3 R6.out.kp
      obtain ⟨r0, r1, r2, r3, r4, r5, r6⟩ := Bk.c7 R6.out.kw
      obtain ⟨g0, g1, g2, g3, g4, g5, g6⟩ := R6.out.kw.f7
      obtain ⟨a0, a1, a2, a3, a4, a5, a6⟩ := Bk.c7 R6.out.ka
      obtain ⟨f0, f1, f2, f3, f4, f5, f6⟩ := R6.out.ka.f7
      obtain ⟨y0, y1, y2, y3, y4, y5, y6⟩ := Bk.c7 Y6.out
      by_cases hgr : up + us < n3 + n4
      · have HI3 : Hid (RtS b d ps k ttl RW RP F2 ⟨n0, n1, n2, n3, n4, n5, n6⟩ (L ++ [n0])) := by have h := HI2.out; rw [if_pos hgr] at h; exact h
        go_wp2_with (at_builtin; refine wpList_append_own _ rfl (.tmp 38) (.tmp 41) 33 rfl B0 3 i0 (.int .i64 0) 1 8 Try.underlying33 hi hz0 hz1 hz2 rfl (by decide) _ _ _ rfl (O6.out.alloc _) ⟨w6.heap.size, 0, none⟩ 1 1 [.int .i64 n0] rfl rfl (cell_one_new _ _ _) (by simp [Value.oneCell']) (by unfold maxLen; omega) (by omega) (Nat.le_trans hB6 (by simp)) ?_; intro v5 w7 hown5 hgrow5 _; have HB7 : Hid (Below B0 w6 w7) := grown_bel ((Below.refl _ _).alloc hB6 _) hgrow5 (Nat.le_trans hB6 (by simp)) (fun k hk => (O6.out.lt k hk).1); have O7 : Hid (w7.ownsRow B0 3 1 v5 (L ++ [n0]).length ((L ++ [n0]).map (Value.int .i64))) := own_snoc rfl hown5; have R7 : Hid (RS w w7 #[.int .i64 b, .int .i64 d, .slice a ps.length cap] X #[.int .i64 ua, .int .i64 ui, .int .i64 ul, .int .i64 up, .int .i64 us, .int .i64 ut, .int .i64 uo]) := R6.out.keepB HB7.out hB; have Y7 : Hid (Bk w7 Y #[.int .i64 n0, .int .i64 n1, .int .i64 n2, .int .i64 n3, .int .i64 n4, .int .i64 n5, .int .i64 n6] 32) := grown_bk (Y6.out.alloc _) hgrow5 (fun h => Nat.lt_irrefl _ (HHY.out Y h)); have hB7 : B0 ≤ w7.heap.size := grown_le hB6 hgrow5; clear hown5 hgrow5; obtain ⟨b0, b1, b2, b3, b4, b5, b6⟩ := Bk.c7 Y7.out; obtain ⟨r0b, r1b, r2b, r3b, r4b, r5b, r6b⟩ := Bk.c7 R7.out.kw; obtain ⟨g0b, g1b, g2b, g3b, g4b, g5b, g6b⟩ := R7.out.kw.f7)
        have R8 : Hid (RS w (((((((w7.setCell ⟨X, 0, none⟩ (.int .i64 n0)).setCell ⟨X, 1, none⟩ (.int .i64 n1)).setCell ⟨X, 2, none⟩ (.int .i64 n2)).setCell ⟨X, 3, none⟩ (.int .i64 n3)).setCell ⟨X, 4, none⟩ (.int .i64 n4)).setCell ⟨X, 5, none⟩ (.int .i64 n5)).setCell ⟨X, 6, none⟩ (.int .i64 n6)) #[.int .i64 b, .int .i64 d, .slice a ps.length cap] X #[.int .i64 n0, .int .i64 n1, .int .i64 n2, .int .i64 n3, .int .i64 n4, .int .i64 n5, .int .i64 n6]) := R7.out.put [.int .i64 n0, .int .i64 n1, .int .i64 n2, .int .i64 n3, .int .i64 n4, .int .i64 n5, .int .i64 n6]
        have O8 : Hid (World.ownsRow (((((((w7.setCell ⟨X, 0, none⟩ (.int .i64 n0)).setCell ⟨X, 1, none⟩ (.int .i64 n1)).setCell ⟨X, 2, none⟩ (.int .i64 n2)).setCell ⟨X, 3, none⟩ (.int .i64 n3)).setCell ⟨X, 4, none⟩ (.int .i64 n4)).setCell ⟨X, 5, none⟩ (.int .i64 n5)).setCell ⟨X, 6, none⟩ (.int .i64 n6)) B0 3 1 v5 (L ++ [n0]).length ((L ++ [n0]).map (Value.int .i64))) := owns_oth (vs := [.int .i64 n0, .int .i64 n1, .int .i64 n2, .int .i64 n3, .int .i64 n4, .int .i64 n5, .int .i64 n6]) O7.out hB
        have hBb8 : B0 ≤ (setL w7 X 0 [.int .i64 n0, .int .i64 n1, .int .i64 n2, .int .i64 n3, .int .i64 n4, .int .i64 n5, .int .i64 n6]).heap.size := by rw [setL_size]; exact hB7
        have hB8 : B0 ≤ (World.heap (((((((w7.setCell ⟨X, 0, none⟩ (.int .i64 n0)).setCell ⟨X, 1, none⟩ (.int .i64 n1)).setCell ⟨X, 2, none⟩ (.int .i64 n2)).setCell ⟨X, 3, none⟩ (.int .i64 n3)).setCell ⟨X, 4, none⟩ (.int .i64 n4)).setCell ⟨X, 5, none⟩ (.int .i64 n5)).setCell ⟨X, 6, none⟩ (.int .i64 n6))).size := hBb8
        clear hBb8
        generalize (((((((w7.setCell ⟨X, 0, none⟩ (.int .i64 n0)).setCell ⟨X, 1, none⟩ (.int .i64 n1)).setCell ⟨X, 2, none⟩ (.int .i64 n2)).setCell ⟨X, 3, none⟩ (.int .i64 n3)).setCell ⟨X, 4, none⟩ (.int .i64 n4)).setCell ⟨X, 5, none⟩ (.int .i64 n5)).setCell ⟨X, 6, none⟩ (.int .i64 n6)) = w8 at *
        go_roundg F2
        case measure => exact hF2
        case rel => exact ⟨_, ⟨n0, n1, n2, n3, n4, n5, n6⟩, L ++ [n0], rfl, O8, R8, hB8, HI3, by first | omega | simp⟩
      · have HI3 : Hid (RtS b d ps k ttl RW RP F2 ⟨n0, n1, n2, n3, n4, n5, n6⟩ L) := by have h := HI2.out; rw [if_neg hgr, List.append_nil] at h; exact h
        have hgb : decide (up + us < n3 + n4) = false := decide_eq_false hgr
        go_wp2_with fail
        have R8 : Hid (RS w (((((((w6.setCell ⟨X, 0, none⟩ (.int .i64 n0)).setCell ⟨X, 1, none⟩ (.int .i64 n1)).setCell ⟨X, 2, none⟩ (.int .i64 n2)).setCell ⟨X, 3, none⟩ (.int .i64 n3)).setCell ⟨X, 4, none⟩ (.int .i64 n4)).setCell ⟨X, 5, none⟩ (.int .i64 n5)).setCell ⟨X, 6, none⟩ (.int .i64 n6)) #[.int .i64 b, .int .i64 d, .slice a ps.length cap] X #[.int .i64 n0, .int .i64 n1, .int .i64 n2, .int .i64 n3, .int .i64 n4, .int .i64 n5, .int .i64 n6]) := R6.out.put [.int .i64 n0, .int .i64 n1, .int .i64 n2, .int .i64 n3, .int .i64 n4, .int .i64 n5, .int .i64 n6]
        have O8 : Hid (World.ownsRow (((((((w6.setCell ⟨X, 0, none⟩ (.int .i64 n0)).setCell ⟨X, 1, none⟩ (.int .i64 n1)).setCell ⟨X, 2, none⟩ (.int .i64 n2)).setCell ⟨X, 3, none⟩ (.int .i64 n3)).setCell ⟨X, 4, none⟩ (.int .i64 n4)).setCell ⟨X, 5, none⟩ (.int .i64 n5)).setCell ⟨X, 6, none⟩ (.int .i64 n6)) B0 3 1 vo (L).length ((L).map (Value.int .i64))) := owns_oth (vs := [.int .i64 n0, .int .i64 n1, .int .i64 n2, .int .i64 n3, .int .i64 n4, .int .i64 n5, .int .i64 n6]) O6.out hB
        have hBb8 : B0 ≤ (setL w6 X 0 [.int .i64 n0, .int .i64 n1, .int .i64 n2, .int .i64 n3, .int .i64 n4, .int .i64 n5, .int .i64 n6]).heap.size := by rw [setL_size]; exact hB6
        have hB8 : B0 ≤ (World.heap (((((((w6.setCell ⟨X, 0, none⟩ (.int .i64 n0)).setCell ⟨X, 1, none⟩ (.int .i64 n1)).setCell ⟨X, 2, none⟩ (.int .i64 n2)).setCell ⟨X, 3, none⟩ (.int .i64 n3)).setCell ⟨X, 4, none⟩ (.int .i64 n4)).setCell ⟨X, 5, none⟩ (.int .i64 n5)).setCell ⟨X, 6, none⟩ (.int .i64 n6))).size := hBb8
        clear hBb8
        generalize (((((((w6.setCell ⟨X, 0, none⟩ (.int .i64 n0)).setCell ⟨X, 1, none⟩ (.int .i64 n1)).setCell ⟨X, 2, none⟩ (.int .i64 n2)).setCell ⟨X, 3, none⟩ (.int .i64 n3)).setCell ⟨X, 4, none⟩ (.int .i64 n4)).setCell ⟨X, 5, none⟩ (.int .i64 n5)).setCell ⟨X, 6, none⟩ (.int .i64 n6)) = w8 at *
        go_roundg F2
        case measure => exact hF2
        case rel => exact ⟨_, ⟨n0, n1, n2, n3, n4, n5, n6⟩, L, rfl, O8, R8, hB8, HI3, by first | omega | simp⟩
    · have hut' : (ut == 0) = false := by simpa using hut
      obtain ⟨e1, e2⟩ := HI.out.off hut
      subst e1 e2
      clear hut HI
      obtain ⟨g, cp, rfl⟩ := Joins.ownsRow_form HO.out (by omega)
      obtain ⟨os, _, _⟩ := OwnS.of_owns HO.out
      have OS : Hid (OwnS B0 wr g RP) := os
      clear os HO
      go_wp2_with fail
      obtain ⟨KA, KB⟩ := RS.ends (vs := [.int .i64 ua, .int .i64 ui, .int .i64 ul, .int .i64 up, .int .i64 us, .int .i64 ut, .int .i64 uo]) HRS.out
      have hlo := OS.out.lo
      refine bodyPost_ret (results_cell_tmp Try.results55 _ _ (w.heap.size + 1) _ _ _ _ _ rfl rfl KA Try.underlying32 rfl (by kernel_rfl)) rfl ?_
      have hge : ¬ g = w.heap.size + 1 := by omega
      have OW : OwnS w.heap.size (setL wr (w.heap.size + 1) 0 [.int .i64 ua, .int .i64 ui, .int .i64 ul, .int .i64 up, .int .i64 us, .int .i64 ut, .int .i64 uo]) g RP := (OS.out.of_block (setL_oth hge [.int .i64 ua, .int .i64 ui, .int .i64 ul, .int .i64 up, .int .i64 us, .int .i64 ut, .int .i64 uo] wr 0)).mono (by omega)
      first | exact ⟨some ⟨g, 0, none⟩, ⟨cp, rfl⟩, ⟨g, rfl, OW⟩, KB⟩ | exact ⟨some ⟨g, 0, none⟩, cp, rfl, ⟨g, rfl, OW⟩, KB⟩
end Go.Proofs.Ytejajlloipkkhaa
