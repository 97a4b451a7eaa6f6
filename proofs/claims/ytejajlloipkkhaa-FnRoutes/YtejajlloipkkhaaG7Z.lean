/- StepWalk on both sides. -/
import Derived.Test.YtejajlloipkkhaaG5Z
namespace Go.Proofs.Ytejajlloipkkhaa
open Go.RowKit Go.Deep
set_option linter.unusedVariables false
def swOk (b d : Int) (ps : List Pr) (k ttl : Int) (v : Wk) : Bool := goodW b d ps k v && decide (v.state = 0) && decide (v.points < 1000) && decide (v.succs < 1000) && inB ttl 0 1000
def swV (b d : Int) (ps : List Pr) (k ttl : Int) (v : Wk) : Wk := if swOk b d ps k ttl v = true then stp b d ps k ttl v else wk0
theorem goodW_parts {b d : Int} {ps : List Pr} {k : Int} {v : Wk} (h : goodW b d ps k v = true) : goodP b d ps = true ∧ 0 ≤ k ∧ k < sz b ∧ WV b d ps k v := by
  unfold goodW at h
  rw [Bool.and_eq_true] at h
  obtain ⟨h1, h2⟩ := h
  obtain ⟨h3, h4, h5, h6⟩ := askP_parts h1
  unfold wkB at h2
  simp only [Bool.and_eq_true] at h2
  obtain ⟨⟨⟨⟨⟨g1, g2⟩, g3⟩, g4⟩, _⟩, _⟩ := h2
  obtain ⟨_, i1, i2⟩ := numB_true g1
  have g2 := inB_true g2
  have g3 := inB_true g3
  have g4 := inB_true g4
  exact ⟨h3, h5, h6, h4, i1, i2, g2.1, g2.2, g3.1, g3.2, g4.1, g4.2⟩
/-- the peers' box, the walk's, the answer's -/
structure SW (w wr : World) (P V : Array Value) : Prop where
  bel : Below w.heap.size w wr
  kp : Bk wr w.heap.size P 28
  kv : Bk wr (w.heap.size + 1) V 32
  ka : Bk wr (w.heap.size + 2) #[.int .i64 0, .int .i64 0, .int .i64 0, .int .i64 0, .int .i64 0, .int .i64 0, .int .i64 0] 32
theorem SW.keep {w wr w1 : World} {P V : Array Value} (h : SW w wr P V) (hb : Below wr.heap.size wr w1) : SW w w1 P V := ⟨belt h.bel hb, h.kp.keep hb, h.kv.keep hb, h.ka.keep hb⟩
theorem sw0 (w : World) (P V : Array Value) : SW w (((w.alloc (.cells P 28)).alloc (.cells V 32)).alloc (.cells #[.int .i64 0, .int .i64 0, .int .i64 0, .int .i64 0, .int .i64 0, .int .i64 0, .int .i64 0] 32)) P V := by
  refine ⟨(((Below.refl _ _).alloc (Nat.le_refl _) _).alloc (by simp) _).alloc (by simp; omega) _, ((Bk.new w P 28).alloc _).alloc _, ?_, ?_⟩
  · have := Bk.new (w.alloc (.cells P 28)) V 32
    simp only [World.size_alloc] at this
    exact this.alloc _
  · have := Bk.new ((w.alloc (.cells P 28)).alloc (.cells V 32)) #[.int .i64 0, .int .i64 0, .int .i64 0, .int .i64 0, .int .i64 0, .int .i64 0, .int .i64 0] 32
    simp only [World.size_alloc] at this
    exact this
theorem SW.ends {w wr : World} {P V : Array Value} {vs : List Value} (h : SW w wr P V) : Bk (setL wr (w.heap.size + 2) 0 vs) (w.heap.size + 2) (ovr #[.int .i64 0, .int .i64 0, .int .i64 0, .int .i64 0, .int .i64 0, .int .i64 0, .int .i64 0] 0 vs) 32 ∧ Below w.heap.size w (setL wr (w.heap.size + 2) 0 vs) := ⟨h.ka.setL vs 0, setL_below (by omega) vs 0 h.bel⟩
theorem SW.pq {w wr : World} {V : Array Value} {b d : Int} {bk off n cap : Nat} {ps : List Pr} (h : SW w wr #[.int .i64 b, .int .i64 d, .slice (some ⟨bk, off, none⟩) n cap] V) (hr : PeersAt w (some ⟨bk, off, none⟩) ps) (hn : ps.length = n) : PQ wr w.heap.size b d bk off n cap ps :=
  ⟨h.kp.lt, h.kp.cell 0, h.kp.cell 1, h.kp.cell 2, hr.keep h.bel, hn⟩
set_option maxRecDepth 100000 in
set_option maxHeartbeats 1600000 in
theorem StepWalk_any (b d : Int) (a : Option Addr) (cap : Nat) (ps : List Pr) (k ttl : Int) (v : Wk) (w : World) (hm : ps.length ≤ 1048576) (hr : PeersAt w a ps) :
    Calls Try.prog 26 #[.agg #[.int .i64 b, .int .i64 d, .slice a ps.length cap], .int .i64 k, .int .i64 ttl, .agg v.cells] w fun e w' => e = .returned (.tuple #[.agg (swV b d ps k ttl v).cells, .bool (swOk b d ps k ttl v)]) ∧ Below w.heap.size w w' := by
  obtain ⟨va, vi, vl, vp, vs, vt, vo⟩ := v
  show Calls _ _ #[.agg #[.int .i64 b, .int .i64 d, .slice a ps.length cap], .int .i64 k, .int .i64 ttl, .agg #[.int .i64 va, .int .i64 vi, .int .i64 vl, .int .i64 vp, .int .i64 vs, .int .i64 vt, .int .i64 vo]] _ _
  have S0 : Hid (SW w (((w.alloc (.cells #[.int .i64 b, .int .i64 d, .slice a ps.length cap] 28)).alloc (.cells #[.int .i64 va, .int .i64 vi, .int .i64 vl, .int .i64 vp, .int .i64 vs, .int .i64 vt, .int .i64 vo] 32)).alloc (.cells #[.int .i64 0, .int .i64 0, .int .i64 0, .int .i64 0, .int .i64 0, .int .i64 0, .int .i64 0] 32)) #[.int .i64 b, .int .i64 d, .slice a ps.length cap] #[.int .i64 va, .int .i64 vi, .int .i64 vl, .int .i64 vp, .int .i64 vs, .int .i64 vt, .int .i64 vo]) := sw0 w _ _
  have CG := GoodWalk_any b d a cap ps k ⟨va, vi, vl, vp, vs, vt, vo⟩ _ hm (hr.keep S0.out.bel)
  have CT := fun w1 => fwd_any ttl w1
  have HR : Hid (PeersAt w a ps) := hr
  clear hr
  cases hg : goodW b d ps k ⟨va, vi, vl, vp, vs, vt, vo⟩
  · rw [hg] at CG
    have hno : swOk b d ps k ttl ⟨va, vi, vl, vp, vs, vt, vo⟩ = false := by unfold swOk; rw [hg]; rfl
    unfold swV
    rw [hno]
    simp only [Bool.false_eq_true, if_false, wk0_cells]
    clear hno
    clear hg
    go_enter Try.func26, Try.ntmps26
    go_wp2_with fail
    refine (CG).mono ?_
    rintro e w1 ⟨rfl, hx⟩
    have S1 : Hid (SW w w1 #[.int .i64 b, .int .i64 d, .slice a ps.length cap] #[.int .i64 va, .int .i64 vi, .int .i64 vl, .int .i64 vp, .int .i64 vs, .int .i64 vt, .int .i64 vo]) := S0.out.keep hx
    clear hx S0
    obtain ⟨c0, c1, c2⟩ := Bk.c3 S1.out.kp
    obtain ⟨r0, r1, r2, r3, r4, r5, r6⟩ := Bk.c7 S1.out.kv
    obtain ⟨a0, a1, a2, a3, a4, a5, a6⟩ := Bk.c7 S1.out.ka
    obtain ⟨f0, f1, f2, f3, f4, f5, f6⟩ := S1.out.ka.f7
    go_wp2_with fail
    obtain ⟨KA, KB⟩ := SW.ends (vs := [.int .i64 0, .int .i64 0, .int .i64 0, .int .i64 0, .int .i64 0, .int .i64 0, .int .i64 0]) S1.out
    refine bodyPost_ret (results_cell_tmp Try.results26 _ _ (w.heap.size + 2) _ _ _ _ _ rfl rfl KA Try.underlying32 rfl (by kernel_rfl)) rfl ⟨rfl, KB⟩
  · rw [hg] at CG
    obtain ⟨hgp, k1, k2, hwv⟩ := goodW_parts hg
    obtain ⟨_, _, _, _, _, p1, p2, s1, s2⟩ := hwv
    simp only at p1 p2 s1 s2
    cases htt : inB ttl 0 1000
    · rw [htt] at CT
      have hno : swOk b d ps k ttl ⟨va, vi, vl, vp, vs, vt, vo⟩ = false := by unfold swOk; rw [htt]; simp
      unfold swV
      rw [hno]
      simp only [Bool.false_eq_true, if_false, wk0_cells]
      clear hno
      clear hg htt hgp
      go_enter Try.func26, Try.ntmps26
      go_wp2_with fail
      refine (CG).mono ?_
      rintro e w1 ⟨rfl, hx⟩
      have S1 : Hid (SW w w1 #[.int .i64 b, .int .i64 d, .slice a ps.length cap] #[.int .i64 va, .int .i64 vi, .int .i64 vl, .int .i64 vp, .int .i64 vs, .int .i64 vt, .int .i64 vo]) := S0.out.keep hx
      clear hx S0
      obtain ⟨c0, c1, c2⟩ := Bk.c3 S1.out.kp
      obtain ⟨r0, r1, r2, r3, r4, r5, r6⟩ := Bk.c7 S1.out.kv
      obtain ⟨a0, a1, a2, a3, a4, a5, a6⟩ := Bk.c7 S1.out.ka
      obtain ⟨f0, f1, f2, f3, f4, f5, f6⟩ := S1.out.ka.f7
      go_wp2_with fail
      refine (CT _).mono ?_
      rintro e wx ⟨rfl, hx⟩
      subst hx
      go_wp2_with fail
      obtain ⟨KA, KB⟩ := SW.ends (vs := [.int .i64 0, .int .i64 0, .int .i64 0, .int .i64 0, .int .i64 0, .int .i64 0, .int .i64 0]) S1.out
      refine bodyPost_ret (results_cell_tmp Try.results26 _ _ (w.heap.size + 2) _ _ _ _ _ rfl rfl KA Try.underlying32 rfl (by kernel_rfl)) rfl ⟨rfl, KB⟩
    · rw [htt] at CT
      by_cases ht0 : vt = 0
      · have ht0' : (vt != 0) = false := by rw [ht0]; rfl
        by_cases hp : vp < 1000
        · have hpb : (vp == 1000) = false := by simp; omega
          by_cases hs : vs < 1000
          · have hsb : (vs == 1000) = false := by simp; omega
            have hyes : swOk b d ps k ttl ⟨va, vi, vl, vp, vs, vt, vo⟩ = true := by unfold swOk; rw [hg]; simp [ht0, hp, hs, htt]
            unfold swV
            rw [hyes]
            simp only [if_true]
            clear hyes
            have R := (goodP_true hgp).1
            have l1 := R.l1
            rw [idsP_len] at l1
            obtain ⟨t1, t2⟩ := inB_true htt
            have CX : ∀ w1, SW w w1 #[.int .i64 b, .int .i64 d, .slice a ps.length cap] #[.int .i64 va, .int .i64 vi, .int .i64 vl, .int .i64 vp, .int .i64 vs, .int .i64 vt, .int .i64 vo] → Calls Try.prog 52 #[.pointer (some ⟨w.heap.size, 0, none⟩), .int .i64 k, .int .i64 ttl, .agg #[.int .i64 va, .int .i64 vi, .int .i64 vl, .int .i64 vp, .int .i64 vs, .int .i64 vt, .int .i64 vo]] w1 fun e w' => e = .returned (.agg (stp b d ps k ttl ⟨va, vi, vl, vp, vs, vt, vo⟩).cells) ∧ Below w1.heap.size w1 w' := fun w1 h => by
              obtain ⟨bk, off, rfl⟩ := peersAt_form HR.out (by omega)
              exact stepOn_any b d w.heap.size bk off ps.length cap ps k ttl ⟨va, vi, vl, vp, vs, vt, vo⟩ w1 hgp (goodW_parts hg).2.2.2 k1 k2 t1 t2 (h.pq HR.out rfl)
            clear R l1 t1 t2 htt
            have HV : (stp b d ps k ttl ⟨va, vi, vl, vp, vs, vt, vo⟩).cells = #[.int .i64 (stp b d ps k ttl ⟨va, vi, vl, vp, vs, vt, vo⟩).at_, .int .i64 (stp b d ps k ttl ⟨va, vi, vl, vp, vs, vt, vo⟩).imag, .int .i64 (stp b d ps k ttl ⟨va, vi, vl, vp, vs, vt, vo⟩).left, .int .i64 (stp b d ps k ttl ⟨va, vi, vl, vp, vs, vt, vo⟩).points, .int .i64 (stp b d ps k ttl ⟨va, vi, vl, vp, vs, vt, vo⟩).succs, .int .i64 (stp b d ps k ttl ⟨va, vi, vl, vp, vs, vt, vo⟩).state, .int .i64 (stp b d ps k ttl ⟨va, vi, vl, vp, vs, vt, vo⟩).owner] := rfl
            rw [HV] at CX ⊢
            clear HV hg
            generalize (stp b d ps k ttl ⟨va, vi, vl, vp, vs, vt, vo⟩).at_ = o0 at *
            generalize (stp b d ps k ttl ⟨va, vi, vl, vp, vs, vt, vo⟩).imag = o1 at *
            generalize (stp b d ps k ttl ⟨va, vi, vl, vp, vs, vt, vo⟩).left = o2 at *
            generalize (stp b d ps k ttl ⟨va, vi, vl, vp, vs, vt, vo⟩).points = o3 at *
            generalize (stp b d ps k ttl ⟨va, vi, vl, vp, vs, vt, vo⟩).succs = o4 at *
            generalize (stp b d ps k ttl ⟨va, vi, vl, vp, vs, vt, vo⟩).state = o5 at *
            generalize (stp b d ps k ttl ⟨va, vi, vl, vp, vs, vt, vo⟩).owner = o6 at *
            clear hgp ht0
            go_enter Try.func26, Try.ntmps26
            go_wp2_with fail
            refine (CG).mono ?_
            rintro e w1 ⟨rfl, hx⟩
            have S1 : Hid (SW w w1 #[.int .i64 b, .int .i64 d, .slice a ps.length cap] #[.int .i64 va, .int .i64 vi, .int .i64 vl, .int .i64 vp, .int .i64 vs, .int .i64 vt, .int .i64 vo]) := S0.out.keep hx
            clear hx S0
            obtain ⟨c0, c1, c2⟩ := Bk.c3 S1.out.kp
            obtain ⟨r0, r1, r2, r3, r4, r5, r6⟩ := Bk.c7 S1.out.kv
            obtain ⟨a0, a1, a2, a3, a4, a5, a6⟩ := Bk.c7 S1.out.ka
            obtain ⟨f0, f1, f2, f3, f4, f5, f6⟩ := S1.out.ka.f7
            go_wp2_with fail
            refine (CT _).mono ?_
            rintro e wx ⟨rfl, hx⟩
            subst hx
            go_wp2_with fail
            refine (CX _ S1.out).mono ?_
            rintro e w2 ⟨rfl, hx⟩
            have S2 : Hid (SW w w2 #[.int .i64 b, .int .i64 d, .slice a ps.length cap] #[.int .i64 va, .int .i64 vi, .int .i64 vl, .int .i64 vp, .int .i64 vs, .int .i64 vt, .int .i64 vo]) := S1.out.keep hx
            clear hx S1
            clear c0 c1 c2 r0 r1 r2 r3 r4 r5 r6 a0 a1 a2 a3 a4 a5 a6 f0 f1 f2 f3 f4 f5 f6
            obtain ⟨c0, c1, c2⟩ := Bk.c3 S2.out.kp
            obtain ⟨r0, r1, r2, r3, r4, r5, r6⟩ := Bk.c7 S2.out.kv
            obtain ⟨a0, a1, a2, a3, a4, a5, a6⟩ := Bk.c7 S2.out.ka
            obtain ⟨f0, f1, f2, f3, f4, f5, f6⟩ := S2.out.ka.f7
            go_wp2_with fail
            obtain ⟨KA, KB⟩ := SW.ends (vs := [.int .i64 o0, .int .i64 o1, .int .i64 o2, .int .i64 o3, .int .i64 o4, .int .i64 o5, .int .i64 o6]) S2.out
            refine bodyPost_ret (results_cell_tmp Try.results26 _ _ (w.heap.size + 2) _ _ _ _ _ rfl rfl KA Try.underlying32 rfl (by kernel_rfl)) rfl ⟨rfl, KB⟩
          · have hsb : (vs == 1000) = true := by simp; omega
            have hno : swOk b d ps k ttl ⟨va, vi, vl, vp, vs, vt, vo⟩ = false := by unfold swOk; simp [show ¬ vs < 1000 from hs]
            unfold swV
            rw [hno]
            simp only [Bool.false_eq_true, if_false, wk0_cells]
            clear hno
            clear hg hgp ht0
            go_enter Try.func26, Try.ntmps26
            go_wp2_with fail
            refine (CG).mono ?_
            rintro e w1 ⟨rfl, hx⟩
            have S1 : Hid (SW w w1 #[.int .i64 b, .int .i64 d, .slice a ps.length cap] #[.int .i64 va, .int .i64 vi, .int .i64 vl, .int .i64 vp, .int .i64 vs, .int .i64 vt, .int .i64 vo]) := S0.out.keep hx
            clear hx S0
            obtain ⟨c0, c1, c2⟩ := Bk.c3 S1.out.kp
            obtain ⟨r0, r1, r2, r3, r4, r5, r6⟩ := Bk.c7 S1.out.kv
            obtain ⟨a0, a1, a2, a3, a4, a5, a6⟩ := Bk.c7 S1.out.ka
            obtain ⟨f0, f1, f2, f3, f4, f5, f6⟩ := S1.out.ka.f7
            go_wp2_with fail
            refine (CT _).mono ?_
            rintro e wx ⟨rfl, hx⟩
            subst hx
            go_wp2_with fail
            obtain ⟨KA, KB⟩ := SW.ends (vs := [.int .i64 0, .int .i64 0, .int .i64 0, .int .i64 0, .int .i64 0, .int .i64 0, .int .i64 0]) S1.out
            refine bodyPost_ret (results_cell_tmp Try.results26 _ _ (w.heap.size + 2) _ _ _ _ _ rfl rfl KA Try.underlying32 rfl (by kernel_rfl)) rfl ⟨rfl, KB⟩
        · have hpb : (vp == 1000) = true := by simp; omega
          have hno : swOk b d ps k ttl ⟨va, vi, vl, vp, vs, vt, vo⟩ = false := by unfold swOk; simp [show ¬ vp < 1000 from hp]
          unfold swV
          rw [hno]
          simp only [Bool.false_eq_true, if_false, wk0_cells]
          clear hno
          clear hg hgp ht0
          go_enter Try.func26, Try.ntmps26
          go_wp2_with fail
          refine (CG).mono ?_
          rintro e w1 ⟨rfl, hx⟩
          have S1 : Hid (SW w w1 #[.int .i64 b, .int .i64 d, .slice a ps.length cap] #[.int .i64 va, .int .i64 vi, .int .i64 vl, .int .i64 vp, .int .i64 vs, .int .i64 vt, .int .i64 vo]) := S0.out.keep hx
          clear hx S0
          obtain ⟨c0, c1, c2⟩ := Bk.c3 S1.out.kp
          obtain ⟨r0, r1, r2, r3, r4, r5, r6⟩ := Bk.c7 S1.out.kv
          obtain ⟨a0, a1, a2, a3, a4, a5, a6⟩ := Bk.c7 S1.out.ka
          obtain ⟨f0, f1, f2, f3, f4, f5, f6⟩ := S1.out.ka.f7
          go_wp2_with fail
          refine (CT _).mono ?_
          rintro e wx ⟨rfl, hx⟩
          subst hx
          go_wp2_with fail
          obtain ⟨KA, KB⟩ := SW.ends (vs := [.int .i64 0, .int .i64 0, .int .i64 0, .int .i64 0, .int .i64 0, .int .i64 0, .int .i64 0]) S1.out
          refine bodyPost_ret (results_cell_tmp Try.results26 _ _ (w.heap.size + 2) _ _ _ _ _ rfl rfl KA Try.underlying32 rfl (by kernel_rfl)) rfl ⟨rfl, KB⟩
      · have ht0' : (vt != 0) = true := by simpa using ht0
        have hno : swOk b d ps k ttl ⟨va, vi, vl, vp, vs, vt, vo⟩ = false := by unfold swOk; simp [ht0]
        unfold swV
        rw [hno]
        simp only [Bool.false_eq_true, if_false, wk0_cells]
        clear hno
        clear hg hgp ht0
        go_enter Try.func26, Try.ntmps26
        go_wp2_with fail
        refine (CG).mono ?_
        rintro e w1 ⟨rfl, hx⟩
        have S1 : Hid (SW w w1 #[.int .i64 b, .int .i64 d, .slice a ps.length cap] #[.int .i64 va, .int .i64 vi, .int .i64 vl, .int .i64 vp, .int .i64 vs, .int .i64 vt, .int .i64 vo]) := S0.out.keep hx
        clear hx S0
        obtain ⟨c0, c1, c2⟩ := Bk.c3 S1.out.kp
        obtain ⟨r0, r1, r2, r3, r4, r5, r6⟩ := Bk.c7 S1.out.kv
        obtain ⟨a0, a1, a2, a3, a4, a5, a6⟩ := Bk.c7 S1.out.ka
        obtain ⟨f0, f1, f2, f3, f4, f5, f6⟩ := S1.out.ka.f7
        go_wp2_with fail
        refine (CT _).mono ?_
        rintro e wx ⟨rfl, hx⟩
        subst hx
        go_wp2_with fail
        obtain ⟨KA, KB⟩ := SW.ends (vs := [.int .i64 0, .int .i64 0, .int .i64 0, .int .i64 0, .int .i64 0, .int .i64 0, .int .i64 0]) S1.out
        refine bodyPost_ret (results_cell_tmp Try.results26 _ _ (w.heap.size + 2) _ _ _ _ _ rfl rfl KA Try.underlying32 rfl (by kernel_rfl)) rfl ⟨rfl, KB⟩
set_option maxRecDepth 100000 in
set_option maxHeartbeats 1600000 in
theorem lStepWalk_any (b d : Int) (a : Option Addr) (cap : Nat) (ps : List Pr) (k ttl : Int) (v : Wk) (w : World) (hm : ps.length ≤ 1048576) (hr : PeersAt w a ps) :
    Calls Try.prog 27 #[.agg #[.int .i64 b, .int .i64 d, .slice a ps.length cap], .int .i64 k, .int .i64 ttl, .agg v.cells] w fun e w' => e = .returned (.tuple #[.agg (swV b d ps k ttl v).cells, .bool (swOk b d ps k ttl v)]) ∧ Below w.heap.size w w' := by
  obtain ⟨va, vi, vl, vp, vs, vt, vo⟩ := v
  show Calls _ _ #[.agg #[.int .i64 b, .int .i64 d, .slice a ps.length cap], .int .i64 k, .int .i64 ttl, .agg #[.int .i64 va, .int .i64 vi, .int .i64 vl, .int .i64 vp, .int .i64 vs, .int .i64 vt, .int .i64 vo]] _ _
  have S0 : Hid (SW w (((w.alloc (.cells #[.int .i64 b, .int .i64 d, .slice a ps.length cap] 28)).alloc (.cells #[.int .i64 va, .int .i64 vi, .int .i64 vl, .int .i64 vp, .int .i64 vs, .int .i64 vt, .int .i64 vo] 32)).alloc (.cells #[.int .i64 0, .int .i64 0, .int .i64 0, .int .i64 0, .int .i64 0, .int .i64 0, .int .i64 0] 32)) #[.int .i64 b, .int .i64 d, .slice a ps.length cap] #[.int .i64 va, .int .i64 vi, .int .i64 vl, .int .i64 vp, .int .i64 vs, .int .i64 vt, .int .i64 vo]) := sw0 w _ _
  have CG := lGoodWalk_any b d a cap ps k ⟨va, vi, vl, vp, vs, vt, vo⟩ _ hm (hr.keep S0.out.bel)
  have CT := fun w1 => lin_any ttl 0 1000 w1
  have HR : Hid (PeersAt w a ps) := hr
  clear hr
  cases hg : goodW b d ps k ⟨va, vi, vl, vp, vs, vt, vo⟩
  · rw [hg] at CG
    have hno : swOk b d ps k ttl ⟨va, vi, vl, vp, vs, vt, vo⟩ = false := by unfold swOk; rw [hg]; rfl
    unfold swV
    rw [hno]
    simp only [Bool.false_eq_true, if_false, wk0_cells]
    clear hno
    clear hg
    go_enter Try.func27, Try.ntmps27
    go_wp2_with fail
    refine (CG).mono ?_
    rintro e w1 ⟨rfl, hx⟩
    have S1 : Hid (SW w w1 #[.int .i64 b, .int .i64 d, .slice a ps.length cap] #[.int .i64 va, .int .i64 vi, .int .i64 vl, .int .i64 vp, .int .i64 vs, .int .i64 vt, .int .i64 vo]) := S0.out.keep hx
    clear hx S0
    obtain ⟨c0, c1, c2⟩ := Bk.c3 S1.out.kp
    obtain ⟨r0, r1, r2, r3, r4, r5, r6⟩ := Bk.c7 S1.out.kv
    obtain ⟨a0, a1, a2, a3, a4, a5, a6⟩ := Bk.c7 S1.out.ka
    obtain ⟨f0, f1, f2, f3, f4, f5, f6⟩ := S1.out.ka.f7
    go_wp2_with fail
    obtain ⟨KA, KB⟩ := SW.ends (vs := [.int .i64 0, .int .i64 0, .int .i64 0, .int .i64 0, .int .i64 0, .int .i64 0, .int .i64 0]) S1.out
    refine bodyPost_ret (results_cell_tmp Try.results27 _ _ (w.heap.size + 2) _ _ _ _ _ rfl rfl KA Try.underlying32 rfl (by kernel_rfl)) rfl ⟨rfl, KB⟩
  · rw [hg] at CG
    obtain ⟨hgp, k1, k2, hwv⟩ := goodW_parts hg
    obtain ⟨_, _, _, _, _, p1, p2, s1, s2⟩ := hwv
    simp only at p1 p2 s1 s2
    by_cases ht0 : vt = 0
    · have ht0' : (vt != 0) = false := by rw [ht0]; rfl
      by_cases hp : vp < 1000
      · have hpb : decide (1000 ≤ vp) = false := decide_eq_false (by omega)
        by_cases hs : vs < 1000
        · have hsb : decide (1000 ≤ vs) = false := decide_eq_false (by omega)
          cases htt : inB ttl 0 1000
          · rw [htt] at CT
            have hno : swOk b d ps k ttl ⟨va, vi, vl, vp, vs, vt, vo⟩ = false := by unfold swOk; rw [htt]; simp
            unfold swV
            rw [hno]
            simp only [Bool.false_eq_true, if_false, wk0_cells]
            clear hno
            clear hg htt hgp ht0
            go_enter Try.func27, Try.ntmps27
            go_wp2_with fail
            refine (CG).mono ?_
            rintro e w1 ⟨rfl, hx⟩
            have S1 : Hid (SW w w1 #[.int .i64 b, .int .i64 d, .slice a ps.length cap] #[.int .i64 va, .int .i64 vi, .int .i64 vl, .int .i64 vp, .int .i64 vs, .int .i64 vt, .int .i64 vo]) := S0.out.keep hx
            clear hx S0
            obtain ⟨c0, c1, c2⟩ := Bk.c3 S1.out.kp
            obtain ⟨r0, r1, r2, r3, r4, r5, r6⟩ := Bk.c7 S1.out.kv
            obtain ⟨a0, a1, a2, a3, a4, a5, a6⟩ := Bk.c7 S1.out.ka
            obtain ⟨f0, f1, f2, f3, f4, f5, f6⟩ := S1.out.ka.f7
            go_wp2_with fail
            refine (CT _).mono ?_
            rintro e wx ⟨rfl, hx⟩
            subst hx
            go_wp2_with fail
            obtain ⟨KA, KB⟩ := SW.ends (vs := [.int .i64 0, .int .i64 0, .int .i64 0, .int .i64 0, .int .i64 0, .int .i64 0, .int .i64 0]) S1.out
            refine bodyPost_ret (results_cell_tmp Try.results27 _ _ (w.heap.size + 2) _ _ _ _ _ rfl rfl KA Try.underlying32 rfl (by kernel_rfl)) rfl ⟨rfl, KB⟩
          · rw [htt] at CT
            have hyes : swOk b d ps k ttl ⟨va, vi, vl, vp, vs, vt, vo⟩ = true := by unfold swOk; rw [hg]; simp [ht0, hp, hs, htt]
            unfold swV
            rw [hyes]
            simp only [if_true]
            clear hyes
            obtain ⟨t1, t2⟩ := inB_true htt
            have CX : ∀ w1, SW w w1 #[.int .i64 b, .int .i64 d, .slice a ps.length cap] #[.int .i64 va, .int .i64 vi, .int .i64 vl, .int .i64 vp, .int .i64 vs, .int .i64 vt, .int .i64 vo] → Calls Try.prog 67 #[.agg #[.int .i64 b, .int .i64 d, .slice a ps.length cap], .int .i64 k, .int .i64 ttl, .agg #[.int .i64 va, .int .i64 vi, .int .i64 vl, .int .i64 vp, .int .i64 vs, .int .i64 vt, .int .i64 vo]] w1 fun e w' => e = .returned (.agg (stp b d ps k ttl ⟨va, vi, vl, vp, vs, vt, vo⟩).cells) ∧ Below w1.heap.size w1 w' := fun w1 h => lstep_any b d a cap ps k ttl ⟨va, vi, vl, vp, vs, vt, vo⟩ w1 hgp (goodW_parts hg).2.2.2 k1 k2 t1 t2 (HR.out.keep h.bel)
            clear t1 t2 htt
            have HV : (stp b d ps k ttl ⟨va, vi, vl, vp, vs, vt, vo⟩).cells = #[.int .i64 (stp b d ps k ttl ⟨va, vi, vl, vp, vs, vt, vo⟩).at_, .int .i64 (stp b d ps k ttl ⟨va, vi, vl, vp, vs, vt, vo⟩).imag, .int .i64 (stp b d ps k ttl ⟨va, vi, vl, vp, vs, vt, vo⟩).left, .int .i64 (stp b d ps k ttl ⟨va, vi, vl, vp, vs, vt, vo⟩).points, .int .i64 (stp b d ps k ttl ⟨va, vi, vl, vp, vs, vt, vo⟩).succs, .int .i64 (stp b d ps k ttl ⟨va, vi, vl, vp, vs, vt, vo⟩).state, .int .i64 (stp b d ps k ttl ⟨va, vi, vl, vp, vs, vt, vo⟩).owner] := rfl
            rw [HV] at CX ⊢
            clear HV hg
            generalize (stp b d ps k ttl ⟨va, vi, vl, vp, vs, vt, vo⟩).at_ = o0 at *
            generalize (stp b d ps k ttl ⟨va, vi, vl, vp, vs, vt, vo⟩).imag = o1 at *
            generalize (stp b d ps k ttl ⟨va, vi, vl, vp, vs, vt, vo⟩).left = o2 at *
            generalize (stp b d ps k ttl ⟨va, vi, vl, vp, vs, vt, vo⟩).points = o3 at *
            generalize (stp b d ps k ttl ⟨va, vi, vl, vp, vs, vt, vo⟩).succs = o4 at *
            generalize (stp b d ps k ttl ⟨va, vi, vl, vp, vs, vt, vo⟩).state = o5 at *
            generalize (stp b d ps k ttl ⟨va, vi, vl, vp, vs, vt, vo⟩).owner = o6 at *
            clear hgp ht0
            go_enter Try.func27, Try.ntmps27
            go_wp2_with fail
            refine (CG).mono ?_
            rintro e w1 ⟨rfl, hx⟩
            have S1 : Hid (SW w w1 #[.int .i64 b, .int .i64 d, .slice a ps.length cap] #[.int .i64 va, .int .i64 vi, .int .i64 vl, .int .i64 vp, .int .i64 vs, .int .i64 vt, .int .i64 vo]) := S0.out.keep hx
            clear hx S0
            obtain ⟨c0, c1, c2⟩ := Bk.c3 S1.out.kp
            obtain ⟨r0, r1, r2, r3, r4, r5, r6⟩ := Bk.c7 S1.out.kv
            obtain ⟨a0, a1, a2, a3, a4, a5, a6⟩ := Bk.c7 S1.out.ka
            obtain ⟨f0, f1, f2, f3, f4, f5, f6⟩ := S1.out.ka.f7
            go_wp2_with fail
            refine (CT _).mono ?_
            rintro e wx ⟨rfl, hx⟩
            subst hx
            go_wp2_with fail
            refine (CX _ S1.out).mono ?_
            rintro e w2 ⟨rfl, hx⟩
            have S2 : Hid (SW w w2 #[.int .i64 b, .int .i64 d, .slice a ps.length cap] #[.int .i64 va, .int .i64 vi, .int .i64 vl, .int .i64 vp, .int .i64 vs, .int .i64 vt, .int .i64 vo]) := S1.out.keep hx
            clear hx S1
            clear c0 c1 c2 r0 r1 r2 r3 r4 r5 r6 a0 a1 a2 a3 a4 a5 a6 f0 f1 f2 f3 f4 f5 f6
            obtain ⟨c0, c1, c2⟩ := Bk.c3 S2.out.kp
            obtain ⟨r0, r1, r2, r3, r4, r5, r6⟩ := Bk.c7 S2.out.kv
            obtain ⟨a0, a1, a2, a3, a4, a5, a6⟩ := Bk.c7 S2.out.ka
            obtain ⟨f0, f1, f2, f3, f4, f5, f6⟩ := S2.out.ka.f7
            go_wp2_with fail
            obtain ⟨KA, KB⟩ := SW.ends (vs := [.int .i64 o0, .int .i64 o1, .int .i64 o2, .int .i64 o3, .int .i64 o4, .int .i64 o5, .int .i64 o6]) S2.out
            refine bodyPost_ret (results_cell_tmp Try.results27 _ _ (w.heap.size + 2) _ _ _ _ _ rfl rfl KA Try.underlying32 rfl (by kernel_rfl)) rfl ⟨rfl, KB⟩
        · have hsb : decide (1000 ≤ vs) = true := decide_eq_true (by omega)
          have hno : swOk b d ps k ttl ⟨va, vi, vl, vp, vs, vt, vo⟩ = false := by unfold swOk; simp [show ¬ vs < 1000 from hs]
          unfold swV
          rw [hno]
          simp only [Bool.false_eq_true, if_false, wk0_cells]
          clear hno
          clear hg hgp ht0
          go_enter Try.func27, Try.ntmps27
          go_wp2_with fail
          refine (CG).mono ?_
          rintro e w1 ⟨rfl, hx⟩
          have S1 : Hid (SW w w1 #[.int .i64 b, .int .i64 d, .slice a ps.length cap] #[.int .i64 va, .int .i64 vi, .int .i64 vl, .int .i64 vp, .int .i64 vs, .int .i64 vt, .int .i64 vo]) := S0.out.keep hx
          clear hx S0
          obtain ⟨c0, c1, c2⟩ := Bk.c3 S1.out.kp
          obtain ⟨r0, r1, r2, r3, r4, r5, r6⟩ := Bk.c7 S1.out.kv
          obtain ⟨a0, a1, a2, a3, a4, a5, a6⟩ := Bk.c7 S1.out.ka
          obtain ⟨f0, f1, f2, f3, f4, f5, f6⟩ := S1.out.ka.f7
          go_wp2_with fail
          obtain ⟨KA, KB⟩ := SW.ends (vs := [.int .i64 0, .int .i64 0, .int .i64 0, .int .i64 0, .int .i64 0, .int .i64 0, .int .i64 0]) S1.out
          refine bodyPost_ret (results_cell_tmp Try.results27 _ _ (w.heap.size + 2) _ _ _ _ _ rfl rfl KA Try.underlying32 rfl (by kernel_rfl)) rfl ⟨rfl, KB⟩
      · have hpb : decide (1000 ≤ vp) = true := decide_eq_true (by omega)
        have hno : swOk b d ps k ttl ⟨va, vi, vl, vp, vs, vt, vo⟩ = false := by unfold swOk; simp [show ¬ vp < 1000 from hp]
        unfold swV
        rw [hno]
        simp only [Bool.false_eq_true, if_false, wk0_cells]
        clear hno
        clear hg hgp ht0
        go_enter Try.func27, Try.ntmps27
        go_wp2_with fail
        refine (CG).mono ?_
        rintro e w1 ⟨rfl, hx⟩
        have S1 : Hid (SW w w1 #[.int .i64 b, .int .i64 d, .slice a ps.length cap] #[.int .i64 va, .int .i64 vi, .int .i64 vl, .int .i64 vp, .int .i64 vs, .int .i64 vt, .int .i64 vo]) := S0.out.keep hx
        clear hx S0
        obtain ⟨c0, c1, c2⟩ := Bk.c3 S1.out.kp
        obtain ⟨r0, r1, r2, r3, r4, r5, r6⟩ := Bk.c7 S1.out.kv
        obtain ⟨a0, a1, a2, a3, a4, a5, a6⟩ := Bk.c7 S1.out.ka
        obtain ⟨f0, f1, f2, f3, f4, f5, f6⟩ := S1.out.ka.f7
        go_wp2_with fail
        obtain ⟨KA, KB⟩ := SW.ends (vs := [.int .i64 0, .int .i64 0, .int .i64 0, .int .i64 0, .int .i64 0, .int .i64 0, .int .i64 0]) S1.out
        refine bodyPost_ret (results_cell_tmp Try.results27 _ _ (w.heap.size + 2) _ _ _ _ _ rfl rfl KA Try.underlying32 rfl (by kernel_rfl)) rfl ⟨rfl, KB⟩
    · have ht0' : (vt != 0) = true := by simpa using ht0
      have hno : swOk b d ps k ttl ⟨va, vi, vl, vp, vs, vt, vo⟩ = false := by unfold swOk; simp [ht0]
      unfold swV
      rw [hno]
      simp only [Bool.false_eq_true, if_false, wk0_cells]
      clear hno
      clear hg hgp ht0
      go_enter Try.func27, Try.ntmps27
      go_wp2_with fail
      refine (CG).mono ?_
      rintro e w1 ⟨rfl, hx⟩
      have S1 : Hid (SW w w1 #[.int .i64 b, .int .i64 d, .slice a ps.length cap] #[.int .i64 va, .int .i64 vi, .int .i64 vl, .int .i64 vp, .int .i64 vs, .int .i64 vt, .int .i64 vo]) := S0.out.keep hx
      clear hx S0
      obtain ⟨c0, c1, c2⟩ := Bk.c3 S1.out.kp
      obtain ⟨r0, r1, r2, r3, r4, r5, r6⟩ := Bk.c7 S1.out.kv
      obtain ⟨a0, a1, a2, a3, a4, a5, a6⟩ := Bk.c7 S1.out.ka
      obtain ⟨f0, f1, f2, f3, f4, f5, f6⟩ := S1.out.ka.f7
      go_wp2_with fail
      obtain ⟨KA, KB⟩ := SW.ends (vs := [.int .i64 0, .int .i64 0, .int .i64 0, .int .i64 0, .int .i64 0, .int .i64 0, .int .i64 0]) S1.out
      refine bodyPost_ret (results_cell_tmp Try.results27 _ _ (w.heap.size + 2) _ _ _ _ _ rfl rfl KA Try.underlying32 rfl (by kernel_rfl)) rfl ⟨rfl, KB⟩
theorem GoodWalk_own (b d : Int) (a : Option Addr) (cap : Nat) (ps : List Pr) (k : Int) (v : Wk) (w : World) (hm : ps.length ≤ 1048576) (hr : PeersAt w a ps) :
    Calls Try.prog 28 #[.agg #[.int .i64 b, .int .i64 d, .slice a ps.length cap], .int .i64 k, .agg #[.int .i64 v.at_, .int .i64 v.imag, .int .i64 v.left, .int .i64 v.points, .int .i64 v.succs, .int .i64 v.state, .int .i64 v.owner]] w fun e w' => e = .returned (.bool (goodW b d ps k v)) ∧ Below w.heap.size w w' := GoodWalk_any b d a cap ps k v w hm hr
theorem StepWalk_own (b d : Int) (a : Option Addr) (cap : Nat) (ps : List Pr) (k ttl : Int) (v : Wk) (w : World) (hm : ps.length ≤ 1048576) (hr : PeersAt w a ps) :
    Calls Try.prog 26 #[.agg #[.int .i64 b, .int .i64 d, .slice a ps.length cap], .int .i64 k, .int .i64 ttl, .agg #[.int .i64 v.at_, .int .i64 v.imag, .int .i64 v.left, .int .i64 v.points, .int .i64 v.succs, .int .i64 v.state, .int .i64 v.owner]] w fun e w' => e = .returned (.tuple #[.agg #[.int .i64 (swV b d ps k ttl v).at_, .int .i64 (swV b d ps k ttl v).imag, .int .i64 (swV b d ps k ttl v).left, .int .i64 (swV b d ps k ttl v).points, .int .i64 (swV b d ps k ttl v).succs, .int .i64 (swV b d ps k ttl v).state, .int .i64 (swV b d ps k ttl v).owner], .bool (swOk b d ps k ttl v)]) ∧ Below w.heap.size w w' := StepWalk_any b d a cap ps k ttl v w hm hr
theorem lGoodWalk_own (b d : Int) (a : Option Addr) (cap : Nat) (ps : List Pr) (k : Int) (v : Wk) (w : World) (hm : ps.length ≤ 1048576) (hr : PeersAt w a ps) :
    Calls Try.prog 29 #[.agg #[.int .i64 b, .int .i64 d, .slice a ps.length cap], .int .i64 k, .agg #[.int .i64 v.at_, .int .i64 v.imag, .int .i64 v.left, .int .i64 v.points, .int .i64 v.succs, .int .i64 v.state, .int .i64 v.owner]] w fun e w' => e = .returned (.bool (goodW b d ps k v)) ∧ Below w.heap.size w w' := lGoodWalk_any b d a cap ps k v w hm hr
theorem lStepWalk_own (b d : Int) (a : Option Addr) (cap : Nat) (ps : List Pr) (k ttl : Int) (v : Wk) (w : World) (hm : ps.length ≤ 1048576) (hr : PeersAt w a ps) :
    Calls Try.prog 27 #[.agg #[.int .i64 b, .int .i64 d, .slice a ps.length cap], .int .i64 k, .int .i64 ttl, .agg #[.int .i64 v.at_, .int .i64 v.imag, .int .i64 v.left, .int .i64 v.points, .int .i64 v.succs, .int .i64 v.state, .int .i64 v.owner]] w fun e w' => e = .returned (.tuple #[.agg #[.int .i64 (swV b d ps k ttl v).at_, .int .i64 (swV b d ps k ttl v).imag, .int .i64 (swV b d ps k ttl v).left, .int .i64 (swV b d ps k ttl v).points, .int .i64 (swV b d ps k ttl v).succs, .int .i64 (swV b d ps k ttl v).state, .int .i64 (swV b d ps k ttl v).owner], .bool (swOk b d ps k ttl v)]) ∧ Below w.heap.size w w' := lStepWalk_any b d a cap ps k ttl v w hm hr
end Go.Proofs.Ytejajlloipkkhaa
