/- RouteOf, in the program. -/
import Derived.Test.YtejajlloipkkhaaG8Z
import Derived.Deep.LoopGhost
namespace Go.Proofs.Ytejajlloipkkhaa
open Go.RowKit Go.Deep
set_option linter.unusedVariables false
theorem results_cell_tmp2 {fn : Func} {p q r : Tmp} {ty : TypeId} (h : fn.results = #[.cell p ty, .tmp q, .tmp r]) (tmps : Array Value) (w : World) (g : Nat) (t : TypeId) (cs : Array Value) (fr : Nat × Nat) (d : TypeDesc) (u1 u2 : Value)
    (hp : tmps.getD p undef = .pointer (some ⟨g, 0, none⟩)) (hq : tmps.getD q undef = u1) (hr : tmps.getD r undef = u2) (hg : w.heap[g]? = some (.cells cs t fr))
    (hu : Try.prog.underlying ty = some d) (hd : isRowD d = true) (hi : (Try.prog.info? ty).map (·.size) = some cs.size) :
    (results fn tmps).run Try.prog w = .ok (.tuple #[.agg cs, u1, u2]) w := by
  have hp' : tmps[p]?.getD undef = .pointer (some ⟨g, 0, none⟩) := by simpa using hp
  have hq' : tmps[q]?.getD undef = u1 := by simpa using hq
  have hr' : tmps[r]?.getD undef = u2 := by simpa using hr
  have hl := run_loadVar_row w g t ty cs fr d hg hu (by cases d <;> first | rfl | (simp [isRowD] at hd)) hi
  simp [results, h, hp', hq', hr', asAddr, hl]
/-- the peers' box, the answer's, the walk's at X -/
structure RS (w wr : World) (P : Array Value) (X : Nat) (U : Array Value) : Prop where
  bel : Below w.heap.size w wr
  kp : Bk wr w.heap.size P 28
  ka : Bk wr (w.heap.size + 1) #[.int .i64 0, .int .i64 0, .int .i64 0, .int .i64 0, .int .i64 0, .int .i64 0, .int .i64 0] 32
  kw : Bk wr X U 32
  hX : w.heap.size + 1 < X
theorem RS.keepB {w wr w1 : World} {P U : Array Value} {X n : Nat} (h : RS w wr P X U) (hb : Below n wr w1) (hn : X < n) : RS w w1 P X U :=
  ⟨h.bel.trans (hb.mono (by have := h.hX; omega)), h.kp.keepN hb (by have := h.hX; omega), h.ka.keepN hb (by have := h.hX; omega), h.kw.keepN hb hn, h.hX⟩
theorem RS.keep {w wr w1 : World} {P U : Array Value} {X : Nat} (h : RS w wr P X U) (hb : Below wr.heap.size wr w1) : RS w w1 P X U := h.keepB hb h.kw.lt
theorem RS.put {w wr : World} {P U : Array Value} {X : Nat} (h : RS w wr P X U) (vs : List Value) : RS w (setL wr X 0 vs) P X (ovr U 0 vs) :=
  ⟨setL_below (by have := h.hX; omega) vs 0 h.bel, (setL_oth (by have := h.hX; omega) vs wr 0).trans h.kp, (setL_oth (by have := h.hX; omega) vs wr 0).trans h.ka, h.kw.setL vs 0, h.hX⟩
theorem RS.ends {w wr : World} {P U : Array Value} {X : Nat} {vs : List Value} (h : RS w wr P X U) : Bk (setL wr (w.heap.size + 1) 0 vs) (w.heap.size + 1) (ovr #[.int .i64 0, .int .i64 0, .int .i64 0, .int .i64 0, .int .i64 0, .int .i64 0, .int .i64 0] 0 vs) 32 ∧ Below w.heap.size w (setL wr (w.heap.size + 1) 0 vs) := ⟨h.ka.setL vs 0, setL_below (by omega) vs 0 h.bel⟩
theorem RS.pq {w wr : World} {U : Array Value} {X : Nat} {b d : Int} {bk off n cap : Nat} {ps : List Pr} (h : RS w wr #[.int .i64 b, .int .i64 d, .slice (some ⟨bk, off, none⟩) n cap] X U) (hr : PeersAt w (some ⟨bk, off, none⟩) ps) (hn : ps.length = n) : PQ wr w.heap.size b d bk off n cap ps :=
  ⟨h.kp.lt, h.kp.cell 0, h.kp.cell 1, h.kp.cell 2, hr.keep h.bel, hn⟩
theorem rtV_yes {b d : Int} {ps : List Pr} {x k ttl : Int} (h : rtOk b d ps x k ttl = true) : rtV b d ps x k ttl = rtW b d ps k ttl 300 (stt b d ps x k) := by unfold rtV; rw [if_pos h]
theorem rtP_yes {b d : Int} {ps : List Pr} {x k ttl : Int} (h : rtOk b d ps x k ttl = true) : rtP b d ps x k ttl = x :: rtL b d ps k ttl 300 (stt b d ps x k) := by unfold rtP; rw [if_pos h]
/-- the list of the call's own that is written meanwhile elsewhere -/
theorem owns_oth {w : World} {B e n : Nat} {v : Value} {xs : List Value} {X : Nat} {vs : List Value} (h : w.ownsRow B e 1 v n xs) (hX : X < B) : (setL w X 0 vs).ownsRow B e 1 v n xs := by
  refine ⟨h.1, ?_⟩
  rcases h.2 with h0 | ⟨g, cap, cur, hv, hg, hr, rest⟩
  · exact .inl h0
  · exact .inr ⟨g, cap, cur, hv, hg, (setL_oth (by omega) vs w 0).trans hr, rest⟩
theorem owns_keep {w w1 : World} {B e n : Nat} {v : Value} {xs : List Value} (h : w.ownsRow B e 1 v n xs) (hb : Below w.heap.size w w1) : w1.ownsRow B e 1 v n xs := by
  refine ⟨h.1, ?_⟩
  rcases h.2 with h0 | ⟨g, cap, cur, hv, hg, hr, rest⟩
  · exact .inl h0
  · exact .inr ⟨g, cap, cur, hv, hg, (hb.block g (Array.getElem?_eq_some_iff.1 hr).1).trans hr, rest⟩
theorem owns_one (w : World) (x : Int) : (w.alloc (.cells #[.int .i64 x] 3)).ownsRow w.heap.size 3 1 (.slice (some ⟨w.heap.size, 0, none⟩) 1 1) [x].length ([x].map (Value.int .i64)) :=
  ⟨rfl, .inr ⟨w.heap.size, 1, _, rfl, Nat.le_refl _, heap_alloc_new _ _, Nat.le_refl _, by unfold maxLen; omega, by simp, by simp⟩⟩
set_option maxRecDepth 100000 in
set_option maxHeartbeats 3200000 in
theorem RouteOf_own (b d : Int) (a : Option Addr) (cap : Nat) (ps : List Pr) (x k ttl : Int) (w : World) (hm : ps.length ≤ 1048576) (hr : PeersAt w a ps) :
    Calls Try.prog 14 #[.agg #[.int .i64 b, .int .i64 d, .slice a ps.length cap], .int .i64 x, .int .i64 k, .int .i64 ttl] w fun e w' => ∃ a' n' c', e = .returned (.tuple #[.agg #[.int .i64 (rtV b d ps x k ttl).at_, .int .i64 (rtV b d ps x k ttl).imag, .int .i64 (rtV b d ps x k ttl).left, .int .i64 (rtV b d ps x k ttl).points, .int .i64 (rtV b d ps x k ttl).succs, .int .i64 (rtV b d ps x k ttl).state, .int .i64 (rtV b d ps x k ttl).owner], .slice a' n' c', .bool (rtOk b d ps x k ttl)]) ∧ (rtP b d ps x k ttl).length = n' ∧ OwnLs w.heap.size w'.heap.size w' a' n' (rtP b d ps x k ttl) ∧ Below w.heap.size w w' := by
  have ST0 : Hid (ST w ((w.alloc (.cells #[.int .i64 b, .int .i64 d, .slice a ps.length cap] 28)).alloc (.cells #[.int .i64 0, .int .i64 0, .int .i64 0, .int .i64 0, .int .i64 0, .int .i64 0, .int .i64 0] 32)) #[.int .i64 b, .int .i64 d, .slice a ps.length cap]) := st0 w _
  have CA := StartAt_own b d a cap ps x k _ hm (hr.keep ST0.out.bel)
  have CF := fun w1 => fwd_any ttl w1
  have HR : Hid (PeersAt w a ps) := hr
  clear hr
  cases hk : askP b d ps x k
  · have hno : rtOk b d ps x k ttl = false := by unfold rtOk; rw [hk]; rfl
    have hz : stV b d ps x k = wk0 := by unfold stV; rw [hk]; rfl
    rw [hk, hz] at CA
    simp only [wk0] at CA
    unfold rtV rtP
    rw [hno]
    simp only [Bool.false_eq_true, if_false]
    clear hno
    show Calls _ _ _ _ fun e w' => ∃ a' n' c', e = .returned (.tuple #[.agg #[.int .i64 0, .int .i64 0, .int .i64 0, .int .i64 0, .int .i64 0, .int .i64 0, .int .i64 0], .slice a' n' c', .bool false]) ∧ _
    clear hk hz
    go_enter Try.func14, Try.ntmps14
    go_wp2_with fail
    refine CA.mono ?_
    rintro e w1 ⟨rfl, hx⟩
    have S1 : Hid (ST w w1 #[.int .i64 b, .int .i64 d, .slice a ps.length cap]) := ST0.out.keep hx
    clear hx ST0 CA
    go_upto_region 2 with (fail)
    have R2 : Hid (RS w (w1.alloc (.cells #[.int .i64 0, .int .i64 0, .int .i64 0, .int .i64 0, .int .i64 0, .int .i64 0, .int .i64 0] 32)) #[.int .i64 b, .int .i64 d, .slice a ps.length cap] w1.heap.size #[.int .i64 0, .int .i64 0, .int .i64 0, .int .i64 0, .int .i64 0, .int .i64 0, .int .i64 0]) := ⟨S1.out.bel.alloc S1.out.bel.size _, S1.out.kb.alloc _, S1.out.ka.alloc _, Bk.new _ _ _, S1.out.ka.lt⟩
    clear S1
    generalize w1.alloc (.cells #[.int .i64 0, .int .i64 0, .int .i64 0, .int .i64 0, .int .i64 0, .int .i64 0, .int .i64 0] 32) = w2 at *
    have hX2 := R2.out.kw.lt
    have hX1 := R2.out.hX
    generalize w1.heap.size = X at *
    obtain ⟨c0, c1, c2⟩ := Bk.c3 R2.out.kp
    obtain ⟨r0, r1, r2, r3, r4, r5, r6⟩ := Bk.c7 R2.out.kw
    obtain ⟨g0, g1, g2, g3, g4, g5, g6⟩ := R2.out.kw.f7
    obtain ⟨a0, a1, a2, a3, a4, a5, a6⟩ := Bk.c7 R2.out.ka
    obtain ⟨f0, f1, f2, f3, f4, f5, f6⟩ := R2.out.ka.f7
    go_wp2_with fail
    obtain ⟨KA, KB⟩ := RS.ends (vs := [.int .i64 0, .int .i64 0, .int .i64 0, .int .i64 0, .int .i64 0, .int .i64 0, .int .i64 0]) R2.out
    refine bodyPost_ret (results_cell_tmp2 Try.results14 _ _ (w.heap.size + 1) _ _ _ _ _ _ rfl rfl rfl KA Try.underlying32 rfl (by kernel_rfl)) rfl ⟨none, 0, 0, rfl, rfl, ownLs_nil _ _ _ _, KB⟩
  · obtain ⟨hg, hh, k1, k2⟩ := askP_parts hk
    have hz : stV b d ps x k = stt b d ps x k := by unfold stV; rw [hk]; rfl
    rw [hk, hz] at CA
    have R := (goodP_true hg).1
    have l1 := R.l1
    rw [idsP_len] at l1
    obtain ⟨bk, off, rfl⟩ := peersAt_form HR.out (by omega)
    clear l1 R
    cases htt : inB ttl 0 1000
    · have hno : rtOk b d ps x k ttl = false := by unfold rtOk; rw [htt]; simp
      unfold rtV rtP
      rw [hno]
      simp only [Bool.false_eq_true, if_false]
      clear hno
      show Calls _ _ _ _ fun e w' => ∃ a' n' c', e = .returned (.tuple #[.agg #[.int .i64 0, .int .i64 0, .int .i64 0, .int .i64 0, .int .i64 0, .int .i64 0, .int .i64 0], .slice a' n' c', .bool false]) ∧ _
      rw [htt] at CF
      clear hk hz htt
      generalize (stt b d ps x k).at_ = s0 at *
      generalize (stt b d ps x k).imag = s1 at *
      generalize (stt b d ps x k).left = s2 at *
      generalize (stt b d ps x k).points = s3 at *
      generalize (stt b d ps x k).succs = s4 at *
      generalize (stt b d ps x k).state = s5 at *
      generalize (stt b d ps x k).owner = s6 at *
      go_enter Try.func14, Try.ntmps14
      go_wp2_with fail
      refine CA.mono ?_
      rintro e w1 ⟨rfl, hx⟩
      have S1 : Hid (ST w w1 #[.int .i64 b, .int .i64 d, .slice (some ⟨bk, off, none⟩) ps.length cap]) := ST0.out.keep hx
      clear hx ST0 CA
      go_upto_region 2 with (fail)
      have R2 : Hid (RS w (w1.alloc (.cells #[.int .i64 s0, .int .i64 s1, .int .i64 s2, .int .i64 s3, .int .i64 s4, .int .i64 s5, .int .i64 s6] 32)) #[.int .i64 b, .int .i64 d, .slice (some ⟨bk, off, none⟩) ps.length cap] w1.heap.size #[.int .i64 s0, .int .i64 s1, .int .i64 s2, .int .i64 s3, .int .i64 s4, .int .i64 s5, .int .i64 s6]) := ⟨S1.out.bel.alloc S1.out.bel.size _, S1.out.kb.alloc _, S1.out.ka.alloc _, Bk.new _ _ _, S1.out.ka.lt⟩
      clear S1
      generalize w1.alloc (.cells #[.int .i64 s0, .int .i64 s1, .int .i64 s2, .int .i64 s3, .int .i64 s4, .int .i64 s5, .int .i64 s6] 32) = w2 at *
      have hX2 := R2.out.kw.lt
      have hX1 := R2.out.hX
      generalize w1.heap.size = X at *
      obtain ⟨c0, c1, c2⟩ := Bk.c3 R2.out.kp
      obtain ⟨r0, r1, r2, r3, r4, r5, r6⟩ := Bk.c7 R2.out.kw
      obtain ⟨g0, g1, g2, g3, g4, g5, g6⟩ := R2.out.kw.f7
      obtain ⟨a0, a1, a2, a3, a4, a5, a6⟩ := Bk.c7 R2.out.ka
      obtain ⟨f0, f1, f2, f3, f4, f5, f6⟩ := R2.out.ka.f7
      go_wp2_with fail
      refine (CF _).mono ?_
      rintro e wx ⟨rfl, hx⟩
      subst hx
      go_wp2_with fail
      obtain ⟨KA, KB⟩ := RS.ends (vs := [.int .i64 0, .int .i64 0, .int .i64 0, .int .i64 0, .int .i64 0, .int .i64 0, .int .i64 0]) R2.out
      refine bodyPost_ret (results_cell_tmp2 Try.results14 _ _ (w.heap.size + 1) _ _ _ _ _ _ rfl rfl rfl KA Try.underlying32 rfl (by kernel_rfl)) rfl ⟨none, 0, 0, rfl, rfl, ownLs_nil _ _ _ _, KB⟩
    · have hyes : rtOk b d ps x k ttl = true := by unfold rtOk; rw [hk, htt]; rfl
      obtain ⟨t1, t2⟩ := inB_true htt
      have I0 := rti0 (ttl := ttl) hg hh k1 k2 t1
      obtain ⟨F1, hF1, I1⟩ := I0.step hg k1 k2 t2 rfl
      rw [rtV_yes hyes, rtP_yes hyes, hyes]
      generalize hRW : rtW b d ps k ttl 300 (stt b d ps x k) = RW at *
      generalize hRP : x :: rtL b d ps k ttl 300 (stt b d ps x k) = RP at *
      have CS : ∀ (w1 : World) (X : Nat) (u : Wk), RS w w1 #[.int .i64 b, .int .i64 d, .slice (some ⟨bk, off, none⟩) ps.length cap] X #[.int .i64 u.at_, .int .i64 u.imag, .int .i64 u.left, .int .i64 u.points, .int .i64 u.succs, .int .i64 u.state, .int .i64 u.owner] → WV b d ps k u → Calls Try.prog 52 #[.pointer (some ⟨w.heap.size, 0, none⟩), .int .i64 k, .int .i64 ttl, .agg #[.int .i64 u.at_, .int .i64 u.imag, .int .i64 u.left, .int .i64 u.points, .int .i64 u.succs, .int .i64 u.state, .int .i64 u.owner]] w1 fun e w' => e = .returned (.agg #[.int .i64 (stp b d ps k ttl u).at_, .int .i64 (stp b d ps k ttl u).imag, .int .i64 (stp b d ps k ttl u).left, .int .i64 (stp b d ps k ttl u).points, .int .i64 (stp b d ps k ttl u).succs, .int .i64 (stp b d ps k ttl u).state, .int .i64 (stp b d ps k ttl u).owner]) ∧ Below w1.heap.size w1 w' := fun w1 X u h hv => stepOn_any b d w.heap.size bk off ps.length cap ps k ttl u w1 hg hv k1 k2 t1 t2 (h.pq HR.out rfl)
      have HW0 : Hid (WV b d ps k (stt b d ps x k)) := (I0.on rfl).wv
      have HI1 : Hid (RtI b d ps k ttl RW RP F1 (stp b d ps k ttl (stt b d ps x k)) [(stt b d ps x k).at_]) := I1
      have hF : F1 < 300 := hF1
      rw [htt] at CF
      clear hk hz htt I0 I1 hyes hRW hRP hF1
      generalize stt b d ps x k = v0 at *
      obtain ⟨s0, s1, s2, s3, s4, s5, s6⟩ := v0
      dsimp only at CA HI1
      obtain ⟨i0, hi, hz0, hz1, hz2⟩ := info_parts'
      go_enter Try.func14, Try.ntmps14
      go_wp2_with fail
      refine CA.mono ?_
      rintro e w1 ⟨rfl, hx⟩
      have S1 : Hid (ST w w1 #[.int .i64 b, .int .i64 d, .slice (some ⟨bk, off, none⟩) ps.length cap]) := ST0.out.keep hx
      clear hx ST0 CA
      go_upto_region 2 with (fail)
      have R2 : Hid (RS w (w1.alloc (.cells #[.int .i64 s0, .int .i64 s1, .int .i64 s2, .int .i64 s3, .int .i64 s4, .int .i64 s5, .int .i64 s6] 32)) #[.int .i64 b, .int .i64 d, .slice (some ⟨bk, off, none⟩) ps.length cap] w1.heap.size #[.int .i64 s0, .int .i64 s1, .int .i64 s2, .int .i64 s3, .int .i64 s4, .int .i64 s5, .int .i64 s6]) := ⟨S1.out.bel.alloc S1.out.bel.size _, S1.out.kb.alloc _, S1.out.ka.alloc _, Bk.new _ _ _, S1.out.ka.lt⟩
      clear S1
      generalize w1.alloc (.cells #[.int .i64 s0, .int .i64 s1, .int .i64 s2, .int .i64 s3, .int .i64 s4, .int .i64 s5, .int .i64 s6] 32) = w2 at *
      have hX2 := R2.out.kw.lt
      have hX1 := R2.out.hX
      generalize w1.heap.size = X at *
      obtain ⟨c0, c1, c2⟩ := Bk.c3 R2.out.kp
      obtain ⟨r0, r1, r2, r3, r4, r5, r6⟩ := Bk.c7 R2.out.kw
      obtain ⟨g0, g1, g2, g3, g4, g5, g6⟩ := R2.out.kw.f7
      obtain ⟨a0, a1, a2, a3, a4, a5, a6⟩ := Bk.c7 R2.out.ka
      obtain ⟨f0, f1, f2, f3, f4, f5, f6⟩ := R2.out.ka.f7
      go_wp2_with fail
      refine (CF _).mono ?_
      rintro e wx ⟨rfl, hx⟩
      rw [hx]
      clear hx wx
      go_upto_region 5 with (fail)
      have R3 : Hid (RS w (w2.alloc (.cells #[.int .i64 s0] 3)) #[.int .i64 b, .int .i64 d, .slice (some ⟨bk, off, none⟩) ps.length cap] X #[.int .i64 s0, .int .i64 s1, .int .i64 s2, .int .i64 s3, .int .i64 s4, .int .i64 s5, .int .i64 s6]) := R2.out.keep (belA _ _)
      have O3 : Hid ((w2.alloc (.cells #[.int .i64 s0] 3)).ownsRow w2.heap.size 3 1 (.slice (some ⟨w2.heap.size, 0, none⟩) 1 1) [s0].length ([s0].map (Value.int .i64))) := owns_one _ _
      have hB : X < w2.heap.size := hX2
      have hB3 : w2.heap.size ≤ (w2.alloc (.cells #[.int .i64 s0] 3)).heap.size := by simp
      clear c0 c1 c2 r0 r1 r2 r3 r4 r5 r6 g0 g1 g2 g3 g4 g5 g6 a0 a1 a2 a3 a4 a5 a6 f0 f1 f2 f3 f4 f5 f6
      clear R2
      generalize w2.alloc (.cells #[.int .i64 s0] 3) = w3 at *
      generalize w2.heap.size = B0 at *
      obtain ⟨c0, c1, c2⟩ := Bk.c3 R3.out.kp
      obtain ⟨r0, r1, r2, r3, r4, r5, r6⟩ := Bk.c7 R3.out.kw
      obtain ⟨g0, g1, g2, g3, g4, g5, g6⟩ := R3.out.kw.f7
      obtain ⟨a0, a1, a2, a3, a4, a5, a6⟩ := Bk.c7 R3.out.ka
      obtain ⟨f0, f1, f2, f3, f4, f5, f6⟩ := R3.out.ka.f7
      go_wp2_with fail
      refine (CS _ X ⟨s0, s1, s2, s3, s4, s5, s6⟩ R3.out HW0.out).mono ?_
      rintro e w4 ⟨rfl, hx⟩
      have R4 : Hid (RS w w4 #[.int .i64 b, .int .i64 d, .slice (some ⟨bk, off, none⟩) ps.length cap] X #[.int .i64 s0, .int .i64 s1, .int .i64 s2, .int .i64 s3, .int .i64 s4, .int .i64 s5, .int .i64 s6]) := R3.out.keep hx
      have O4 : Hid (w4.ownsRow B0 3 1 (.slice (some ⟨B0, 0, none⟩) 1 1) [s0].length ([s0].map (Value.int .i64))) := owns_keep O3.out hx
      have hB4 : B0 ≤ w4.heap.size := Nat.le_trans hB3 hx.size
      clear c0 c1 c2 r0 r1 r2 r3 r4 r5 r6 g0 g1 g2 g3 g4 g5 g6 a0 a1 a2 a3 a4 a5 a6 f0 f1 f2 f3 f4 f5 f6
      clear hx R3 O3 hB3 HW0
      generalize stp b d ps k ttl ⟨s0, s1, s2, s3, s4, s5, s6⟩ = u0 at *
      obtain ⟨o0, o1, o2, o3, o4, o5, o6⟩ := u0
      dsimp only
      obtain ⟨c0, c1, c2⟩ := Bk.c3 R4.out.kp
      obtain ⟨r0, r1, r2, r3, r4, r5, r6⟩ := Bk.c7 R4.out.kw
      obtain ⟨g0, g1, g2, g3, g4, g5, g6⟩ := R4.out.kw.f7
      obtain ⟨a0, a1, a2, a3, a4, a5, a6⟩ := Bk.c7 R4.out.ka
      obtain ⟨f0, f1, f2, f3, f4, f5, f6⟩ := R4.out.ka.f7
      go_wp2_with fail
      have R5 : Hid (RS w (((((((w4.setCell ⟨X, 0, none⟩ (.int .i64 o0)).setCell ⟨X, 1, none⟩ (.int .i64 o1)).setCell ⟨X, 2, none⟩ (.int .i64 o2)).setCell ⟨X, 3, none⟩ (.int .i64 o3)).setCell ⟨X, 4, none⟩ (.int .i64 o4)).setCell ⟨X, 5, none⟩ (.int .i64 o5)).setCell ⟨X, 6, none⟩ (.int .i64 o6)) #[.int .i64 b, .int .i64 d, .slice (some ⟨bk, off, none⟩) ps.length cap] X #[.int .i64 o0, .int .i64 o1, .int .i64 o2, .int .i64 o3, .int .i64 o4, .int .i64 o5, .int .i64 o6]) := R4.out.put [.int .i64 o0, .int .i64 o1, .int .i64 o2, .int .i64 o3, .int .i64 o4, .int .i64 o5, .int .i64 o6]
      have O5 : Hid (World.ownsRow (((((((w4.setCell ⟨X, 0, none⟩ (.int .i64 o0)).setCell ⟨X, 1, none⟩ (.int .i64 o1)).setCell ⟨X, 2, none⟩ (.int .i64 o2)).setCell ⟨X, 3, none⟩ (.int .i64 o3)).setCell ⟨X, 4, none⟩ (.int .i64 o4)).setCell ⟨X, 5, none⟩ (.int .i64 o5)).setCell ⟨X, 6, none⟩ (.int .i64 o6)) B0 3 1 (.slice (some ⟨B0, 0, none⟩) 1 1) [s0].length ([s0].map (Value.int .i64))) := owns_oth (vs := [.int .i64 o0, .int .i64 o1, .int .i64 o2, .int .i64 o3, .int .i64 o4, .int .i64 o5, .int .i64 o6]) O4.out hB
      have hBb5 : B0 ≤ (setL w4 X 0 [.int .i64 o0, .int .i64 o1, .int .i64 o2, .int .i64 o3, .int .i64 o4, .int .i64 o5, .int .i64 o6]).heap.size := by rw [setL_size]; exact hB4
      have hB5 : B0 ≤ (World.heap (((((((w4.setCell ⟨X, 0, none⟩ (.int .i64 o0)).setCell ⟨X, 1, none⟩ (.int .i64 o1)).setCell ⟨X, 2, none⟩ (.int .i64 o2)).setCell ⟨X, 3, none⟩ (.int .i64 o3)).setCell ⟨X, 4, none⟩ (.int .i64 o4)).setCell ⟨X, 5, none⟩ (.int .i64 o5)).setCell ⟨X, 6, none⟩ (.int .i64 o6))).size := hBb5
      clear hBb5
      clear c0 c1 c2 r0 r1 r2 r3 r4 r5 r6 g0 g1 g2 g3 g4 g5 g6 a0 a1 a2 a3 a4 a5 a6 f0 f1 f2 f3 f4 f5 f6
      clear R4 O4
      generalize (((((((w4.setCell ⟨X, 0, none⟩ (.int .i64 o0)).setCell ⟨X, 1, none⟩ (.int .i64 o1)).setCell ⟨X, 2, none⟩ (.int .i64 o2)).setCell ⟨X, 3, none⟩ (.int .i64 o3)).setCell ⟨X, 4, none⟩ (.int .i64 o4)).setCell ⟨X, 5, none⟩ (.int .i64 o5)).setCell ⟨X, 6, none⟩ (.int .i64 o6)) = w5 at *
      go_loopg [13] F1 (fun F vs wr => ∃ (vo : Value) (u : Wk) (L : List Int), vs = vo ∧ Hid (wr.ownsRow B0 3 1 vo L.length (L.map (Value.int .i64))) ∧ Hid (RS w wr #[.int .i64 b, .int .i64 d, .slice (some ⟨bk, off, none⟩) ps.length cap] X #[.int .i64 u.at_, .int .i64 u.imag, .int .i64 u.left, .int .i64 u.points, .int .i64 u.succs, .int .i64 u.state, .int .i64 u.owner]) ∧ B0 ≤ wr.heap.size ∧ Hid (RtI b d ps k ttl RW RP F u L) ∧ 1 ≤ L.length)
      case atStart => exact ⟨_, ⟨o0, o1, o2, o3, o4, o5, o6⟩, [s0], rfl, O5, R5, hB5, HI1, by simp⟩
      case round =>
        obtain ⟨vo, u, L, hvo, HO, HRS0, hbb, HI, hL1⟩ := hrel
        have hvo := hvo.symm
        subst hvo
        clear R5 O5 HI1 hB5
        obtain ⟨ua, ui, ul, up, us, ut, uo⟩ := u
        have HRS : Hid (RS w wr #[.int .i64 b, .int .i64 d, .slice (some ⟨bk, off, none⟩) ps.length cap] X #[.int .i64 ua, .int .i64 ui, .int .i64 ul, .int .i64 up, .int .i64 us, .int .i64 ut, .int .i64 uo]) := HRS0
        clear HRS0
        obtain ⟨c0, c1, c2⟩ := Bk.c3 HRS.out.kp
        obtain ⟨r0, r1, r2, r3, r4, r5, r6⟩ := Bk.c7 HRS.out.kw
        obtain ⟨g0, g1, g2, g3, g4, g5, g6⟩ := HRS.out.kw.f7
        obtain ⟨a0, a1, a2, a3, a4, a5, a6⟩ := Bk.c7 HRS.out.ka
        obtain ⟨f0, f1, f2, f3, f4, f5, f6⟩ := HRS.out.ka.f7
        by_cases hut : ut = 0
        · obtain ⟨F2, hF2, I2⟩ := HI.out.step hg k1 k2 t2 hut
          have HWu : Hid (WV b d ps k ⟨ua, ui, ul, up, us, ut, uo⟩) := (HI.out.on hut).wv
          have HI2 : Hid (RtI b d ps k ttl RW RP F2 (stp b d ps k ttl ⟨ua, ui, ul, up, us, ut, uo⟩) (L ++ [ua])) := I2
          have hut' : (ut == 0) = true := by simpa using hut
          have hLn : L.length ≤ 301 := by have := HI.out.ln; omega
          clear hut I2 HI
          go_wp2_with (at_builtin; refine wpList_append_own _ rfl (.tmp 43) (.tmp 46) 33 rfl B0 3 i0 (.int .i64 0) 1 8 Try.underlying33 hi hz0 hz1 hz2 rfl (by decide) _ _ _ rfl (HO.out.alloc _) ⟨wr.heap.size, 0, none⟩ 1 1 [.int .i64 ua] rfl rfl (cell_one_new _ _ _) (by simp [Value.oneCell']) (by unfold maxLen; omega) (by omega) (Nat.le_trans hbb (by simp)) ?_; intro v5 w5 hown5 hgrow5 _; have HB5 : Hid (Below B0 wr w5) := grown_bel ((Below.refl _ _).alloc hbb _) hgrow5 (Nat.le_trans hbb (by simp)) (fun k hk => (HO.out.lt k hk).1); have HO5 : Hid (w5.ownsRow B0 3 1 v5 (L ++ [ua]).length ((L ++ [ua]).map (Value.int .i64))) := own_snoc rfl hown5; have R5 : Hid (RS w w5 #[.int .i64 b, .int .i64 d, .slice (some ⟨bk, off, none⟩) ps.length cap] X #[.int .i64 ua, .int .i64 ui, .int .i64 ul, .int .i64 up, .int .i64 us, .int .i64 ut, .int .i64 uo]) := HRS.out.keepB HB5.out hB; clear hown5 hgrow5; obtain ⟨c0b, c1b, c2b⟩ := Bk.c3 R5.out.kp; obtain ⟨r0b, r1b, r2b, r3b, r4b, r5b, r6b⟩ := Bk.c7 R5.out.kw)
          refine (CS _ X ⟨ua, ui, ul, up, us, ut, uo⟩ R5.out HWu.out).mono ?_
          rintro e w6 ⟨rfl, hx⟩
          have R6 : Hid (RS w w6 #[.int .i64 b, .int .i64 d, .slice (some ⟨bk, off, none⟩) ps.length cap] X #[.int .i64 ua, .int .i64 ui, .int .i64 ul, .int .i64 up, .int .i64 us, .int .i64 ut, .int .i64 uo]) := R5.out.keep hx
          have HO6 : Hid (w6.ownsRow B0 3 1 v5 (L ++ [ua]).length ((L ++ [ua]).map (Value.int .i64))) := owns_keep HO5.out hx
          have hB6 : B0 ≤ w6.heap.size := by have := R6.out.kw.lt; have := HB5.out.size; have := hx.size; omega
          clear c0 c1 c2 r0 r1 r2 r3 r4 r5 r6 g0 g1 g2 g3 g4 g5 g6 a0 a1 a2 a3 a4 a5 a6 f0 f1 f2 f3 f4 f5 f6
          clear c0b c1b c2b r0b r1b r2b r3b r4b r5b r6b R5 HO5 HB5 HRS HO hx HWu
          generalize stp b d ps k ttl ⟨ua, ui, ul, up, us, ut, uo⟩ = u2 at *
          obtain ⟨n0, n1, n2, n3, n4, n5, n6⟩ := u2
          dsimp only
          obtain ⟨c0, c1, c2⟩ := Bk.c3 R6.out.kp
          obtain ⟨r0, r1, r2, r3, r4, r5, r6⟩ := Bk.c7 R6.out.kw
          obtain ⟨g0, g1, g2, g3, g4, g5, g6⟩ := R6.out.kw.f7
          obtain ⟨a0, a1, a2, a3, a4, a5, a6⟩ := Bk.c7 R6.out.ka
          obtain ⟨f0, f1, f2, f3, f4, f5, f6⟩ := R6.out.ka.f7
          go_wp2_with fail
          have R7 : Hid (RS w (((((((w6.setCell ⟨X, 0, none⟩ (.int .i64 n0)).setCell ⟨X, 1, none⟩ (.int .i64 n1)).setCell ⟨X, 2, none⟩ (.int .i64 n2)).setCell ⟨X, 3, none⟩ (.int .i64 n3)).setCell ⟨X, 4, none⟩ (.int .i64 n4)).setCell ⟨X, 5, none⟩ (.int .i64 n5)).setCell ⟨X, 6, none⟩ (.int .i64 n6)) #[.int .i64 b, .int .i64 d, .slice (some ⟨bk, off, none⟩) ps.length cap] X #[.int .i64 n0, .int .i64 n1, .int .i64 n2, .int .i64 n3, .int .i64 n4, .int .i64 n5, .int .i64 n6]) := R6.out.put [.int .i64 n0, .int .i64 n1, .int .i64 n2, .int .i64 n3, .int .i64 n4, .int .i64 n5, .int .i64 n6]
          have O7 : Hid (World.ownsRow (((((((w6.setCell ⟨X, 0, none⟩ (.int .i64 n0)).setCell ⟨X, 1, none⟩ (.int .i64 n1)).setCell ⟨X, 2, none⟩ (.int .i64 n2)).setCell ⟨X, 3, none⟩ (.int .i64 n3)).setCell ⟨X, 4, none⟩ (.int .i64 n4)).setCell ⟨X, 5, none⟩ (.int .i64 n5)).setCell ⟨X, 6, none⟩ (.int .i64 n6)) B0 3 1 v5 (L ++ [ua]).length ((L ++ [ua]).map (Value.int .i64))) := owns_oth (vs := [.int .i64 n0, .int .i64 n1, .int .i64 n2, .int .i64 n3, .int .i64 n4, .int .i64 n5, .int .i64 n6]) HO6.out hB
          have hBb7 : B0 ≤ (setL w6 X 0 [.int .i64 n0, .int .i64 n1, .int .i64 n2, .int .i64 n3, .int .i64 n4, .int .i64 n5, .int .i64 n6]).heap.size := by rw [setL_size]; exact hB6
          have hB7 : B0 ≤ (World.heap (((((((w6.setCell ⟨X, 0, none⟩ (.int .i64 n0)).setCell ⟨X, 1, none⟩ (.int .i64 n1)).setCell ⟨X, 2, none⟩ (.int .i64 n2)).setCell ⟨X, 3, none⟩ (.int .i64 n3)).setCell ⟨X, 4, none⟩ (.int .i64 n4)).setCell ⟨X, 5, none⟩ (.int .i64 n5)).setCell ⟨X, 6, none⟩ (.int .i64 n6))).size := hBb7
          clear hBb7
          clear c0 c1 c2 r0 r1 r2 r3 r4 r5 r6 g0 g1 g2 g3 g4 g5 g6 a0 a1 a2 a3 a4 a5 a6 f0 f1 f2 f3 f4 f5 f6
          clear R6 HO6
          generalize (((((((w6.setCell ⟨X, 0, none⟩ (.int .i64 n0)).setCell ⟨X, 1, none⟩ (.int .i64 n1)).setCell ⟨X, 2, none⟩ (.int .i64 n2)).setCell ⟨X, 3, none⟩ (.int .i64 n3)).setCell ⟨X, 4, none⟩ (.int .i64 n4)).setCell ⟨X, 5, none⟩ (.int .i64 n5)).setCell ⟨X, 6, none⟩ (.int .i64 n6)) = w7 at *
          go_roundg F2
          case measure => exact hF2
          case rel => exact ⟨_, ⟨n0, n1, n2, n3, n4, n5, n6⟩, L ++ [ua], rfl, O7, R7, hB7, HI2, by simp⟩
        · have hut' : (ut == 0) = false := by simpa using hut
          obtain ⟨e1, e2⟩ := HI.out.off hut
          subst e1 e2
          clear hut HI
          obtain ⟨g, cp, rfl⟩ := Joins.ownsRow_form HO.out (by omega)
          obtain ⟨os, _, _⟩ := OwnS.of_owns HO.out
          have OS : Hid (OwnS B0 wr g RP) := os
          clear os HO
          go_wp2_with fail
          obtain ⟨KA, KB⟩ := RS.ends (vs := [.int .i64 ua, .int .i64 ui, .int .i64 ul, .int .i64 up, .int .i64 us, .int .i64 ut, .int .i64 uo]) HRS.out
          have hlo := OS.out.lo
          refine bodyPost_ret (results_cell_tmp2 Try.results14 _ _ (w.heap.size + 1) _ _ _ _ _ _ rfl rfl rfl KA Try.underlying32 rfl (by kernel_rfl)) rfl ?_
          have hge : ¬ g = w.heap.size + 1 := by omega
          have OW : OwnLs w.heap.size (setL wr (w.heap.size + 1) 0 [.int .i64 ua, .int .i64 ui, .int .i64 ul, .int .i64 up, .int .i64 us, .int .i64 ut, .int .i64 uo]).heap.size (setL wr (w.heap.size + 1) 0 [.int .i64 ua, .int .i64 ui, .int .i64 ul, .int .i64 up, .int .i64 us, .int .i64 ut, .int .i64 uo]) (some ⟨g, 0, none⟩) RP.length RP := ownLs_of ((OS.out.of_block (setL_oth hge [.int .i64 ua, .int .i64 ui, .int .i64 ul, .int .i64 up, .int .i64 us, .int .i64 ut, .int .i64 uo] wr 0)).mono (by omega)) (Nat.le_refl _) rfl
          exact ⟨some ⟨g, 0, none⟩, RP.length, ⟨cp, rfl⟩, rfl, OW, KB⟩
end Go.Proofs.Ytejajlloipkkhaa
