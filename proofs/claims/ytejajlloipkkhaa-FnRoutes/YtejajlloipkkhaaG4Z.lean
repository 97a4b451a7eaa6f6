/- GoodWalk on both sides. -/
import Derived.Test.YtejajlloipkkhaaJ0Z
namespace Go.Proofs.Ytejajlloipkkhaa
open Go.RowKit Go.Deep
set_option linter.unusedVariables false
/-- the peers' box and the walk's -/
structure GW (w wr : World) (P V : Array Value) : Prop where
  bel : Below w.heap.size w wr
  kp : Bk wr w.heap.size P 28
  kv : Bk wr (w.heap.size + 1) V 32
theorem GW.keep {w wr w1 : World} {P V : Array Value} (h : GW w wr P V) (hb : Below wr.heap.size wr w1) : GW w w1 P V := ⟨belt h.bel hb, h.kp.keep hb, h.kv.keep hb⟩
theorem gw0 (w : World) (P V : Array Value) : GW w ((w.alloc (.cells P 28)).alloc (.cells V 32)) P V := by
  refine ⟨((Below.refl _ _).alloc (Nat.le_refl _) _).alloc (by simp) _, (Bk.new w P 28).alloc _, ?_⟩
  have := Bk.new (w.alloc (.cells P 28)) V 32
  simpa using this
/-- a number alone, in a new list -/
theorem lnums1 (b d x : Int) (w : World) : Calls Try.prog 65 #[.agg #[.int .i64 b, .int .i64 d], .slice (some ⟨w.heap.size, 0, none⟩) 1 1] (w.alloc (.cells #[.int .i64 x] 3)) fun e w' => e = .returned (.bool (numB b d x)) ∧ Below w.heap.size w w' := by
  have h := lnums_any b d w.heap.size 0 1 [x] (w.alloc (.cells #[.int .i64 x] 3)) (by simp [maxLen]) (by simp) (fun i hi => by
    match i, hi with
    | 0, _ => simp)
  rw [numsB_1] at h
  exact h.mono fun e w' ⟨h1, h2⟩ => ⟨h1, bel1 h2 (by simp)⟩
theorem lhas2 (a : Option Addr) (cap n : Nat) (zs : List Int) (x : Int) (w : World) (hn : zs.length = n) (hm : n ≤ maxLen) (hr : RowAt w a zs) : Calls Try.prog 93 #[.slice a n cap, .int .i64 x] w fun e w' => e = .returned (.bool (hasB zs x)) ∧ w' = w := by
  subst hn
  exact lhas_any a cap zs x w hm hr
theorem lmembers2 (b d : Int) (a : Option Addr) (cap : Nat) (ps : List Pr) (w : World) (hm : ps.length ≤ 1048576) (hr : PeersAt w a ps) :
    Calls Try.prog 94 #[.agg #[.int .i64 b, .int .i64 d, .slice a ps.length cap]] w fun e w' => ∃ a1 cap1, e = .returned (.slice a1 ps.length cap1) ∧ RowAt w' a1 (idsP ps) ∧ Below w.heap.size w w' := by
  refine (lmembers_any b d a cap ps w hm hr).mono ?_
  rintro e w2 ⟨v1, rfl, hown1, hw1⟩
  obtain ⟨a1, cap1, rfl, hc1, hrow1⟩ := own_rowAt hown1
  rw [idsP_len]
  exact ⟨a1, cap1, rfl, hrow1, hw1⟩
set_option maxRecDepth 100000 in
set_option maxHeartbeats 3200000 in
theorem GoodWalk_any (b d : Int) (a : Option Addr) (cap : Nat) (ps : List Pr) (k : Int) (v : Wk) (w : World) (hm : ps.length ≤ 1048576) (hr : PeersAt w a ps) :
    Calls Try.prog 28 #[.agg #[.int .i64 b, .int .i64 d, .slice a ps.length cap], .int .i64 k, .agg v.cells] w fun e w' => e = .returned (.bool (goodW b d ps k v)) ∧ Below w.heap.size w w' := by
  obtain ⟨va, vi, vl, vp, vs, vt, vo⟩ := v
  show Calls _ _ #[.agg #[.int .i64 b, .int .i64 d, .slice a ps.length cap], .int .i64 k, .agg #[.int .i64 va, .int .i64 vi, .int .i64 vl, .int .i64 vp, .int .i64 vs, .int .i64 vt, .int .i64 vo]] _ _
  have G0 : Hid (GW w ((w.alloc (.cells #[.int .i64 b, .int .i64 d, .slice a ps.length cap] 28)).alloc (.cells #[.int .i64 va, .int .i64 vi, .int .i64 vl, .int .i64 vp, .int .i64 vs, .int .i64 vt, .int .i64 vo] 32)) #[.int .i64 b, .int .i64 d, .slice a ps.length cap] #[.int .i64 va, .int .i64 vi, .int .i64 vl, .int .i64 vp, .int .i64 vs, .int .i64 vt, .int .i64 vo]) := gw0 w _ _
  have CG := GoodPeers_any b d a cap ps _ hm (hr.keep G0.out.bel)
  have HR : Hid (PeersAt w a ps) := hr
  clear hr
  have HA : Hid (goodW b d ps k ⟨va, vi, vl, vp, vs, vt, vo⟩ = (goodP b d ps && hasB (idsP ps) va && numB b d k && (numB b d vi && inB vl 0 (b / d) && inB vp 0 1000 && inB vs 0 1000 && inB vt 0 2 && (if vt = 1 then hasB (idsP ps) vo else decide (vo = 0))))) := rfl
  generalize goodW b d ps k ⟨va, vi, vl, vp, vs, vt, vo⟩ = A at *
  cases hg : goodP b d ps
  · rw [hg] at CG
    have HV : Hid (A = false) := by unfold Hid; have h := HA.out; rw [hg] at h; simpa using h
    clear hg
    go_enter Try.func28, Try.ntmps28
    go_wp2_with fail
    refine (CG).mono ?_
    rintro e w1 ⟨rfl, hx⟩
    have G1 : Hid (GW w w1 #[.int .i64 b, .int .i64 d, .slice a ps.length cap] #[.int .i64 va, .int .i64 vi, .int .i64 vl, .int .i64 vp, .int .i64 vs, .int .i64 vt, .int .i64 vo]) := G0.out.keep hx
    clear hx G0
    obtain ⟨c0, c1, c2⟩ := Bk.c3 G1.out.kp
    obtain ⟨r0, r1, r2, r3, r4, r5, r6⟩ := Bk.c7 G1.out.kv
    have zl := G1.out.kv.lt
    go_wp2_with fail
    go_ret
    exact ⟨ret_bool HV.out.symm, G1.out.bel⟩
  · rw [hg] at CG
    have R := (goodP_true hg).1
    obtain ⟨hb1, hb2, hd1, hd2, _⟩ := gsB_true R.gs
    obtain ⟨hq0, q1, q2⟩ := cnt_bd hb1 hb2 hd1 hd2
    have CK := fun w1 => isNumber_any b d k w1
    have CV := fun w1 => isNumber_any b d vi w1
    have CD := fun w1 => count_any b d w1 hb1 hb2 hd1 hd2
    have CI : ∀ w1, GW w w1 #[.int .i64 b, .int .i64 d, .slice a ps.length cap] #[.int .i64 va, .int .i64 vi, .int .i64 vl, .int .i64 vp, .int .i64 vs, .int .i64 vt, .int .i64 vo] → Calls Try.prog 68 #[.pointer (some ⟨w.heap.size, 0, none⟩), .int .i64 va] w1 fun e w' => e = .returned (.bool (hasB (idsP ps) va)) ∧ Below w1.heap.size w1 w' := fun w1 h => isId_any b d w.heap.size a cap ps va w1 R h.kp.lt (h.kp.cell 2) (HR.out.keep h.bel)
    have CO : ∀ w1, GW w w1 #[.int .i64 b, .int .i64 d, .slice a ps.length cap] #[.int .i64 va, .int .i64 vi, .int .i64 vl, .int .i64 vp, .int .i64 vs, .int .i64 vt, .int .i64 vo] → Calls Try.prog 68 #[.pointer (some ⟨w.heap.size, 0, none⟩), .int .i64 vo] w1 fun e w' => e = .returned (.bool (hasB (idsP ps) vo)) ∧ Below w1.heap.size w1 w' := fun w1 h => isId_any b d w.heap.size a cap ps vo w1 R h.kp.lt (h.kp.cell 2) (HR.out.keep h.bel)
    have CP := fun w1 => fwd_any vp w1
    have CS := fun w1 => fwd_any vs w1
    clear R
    cases hk : numB b d k
    · rw [hk] at CK
      have HV : Hid (A = false) := by unfold Hid; have h := HA.out; rw [hg, hk] at h; simpa using h
      clear hg hk
      go_enter Try.func28, Try.ntmps28
      go_wp2_with fail
      refine (CG).mono ?_
      rintro e w1 ⟨rfl, hx⟩
      have G1 : Hid (GW w w1 #[.int .i64 b, .int .i64 d, .slice a ps.length cap] #[.int .i64 va, .int .i64 vi, .int .i64 vl, .int .i64 vp, .int .i64 vs, .int .i64 vt, .int .i64 vo]) := G0.out.keep hx
      clear hx G0
      obtain ⟨c0, c1, c2⟩ := Bk.c3 G1.out.kp
      obtain ⟨r0, r1, r2, r3, r4, r5, r6⟩ := Bk.c7 G1.out.kv
      have zl := G1.out.kv.lt
      go_wp2_with fail
      refine (CK _).mono ?_
      rintro e w2 ⟨rfl, hx⟩
      have G2 : Hid (GW w w2 #[.int .i64 b, .int .i64 d, .slice a ps.length cap] #[.int .i64 va, .int .i64 vi, .int .i64 vl, .int .i64 vp, .int .i64 vs, .int .i64 vt, .int .i64 vo]) := G1.out.keep hx
      clear hx G1
      clear c0 c1 c2 r0 r1 r2 r3 r4 r5 r6 zl
      obtain ⟨c0, c1, c2⟩ := Bk.c3 G2.out.kp
      obtain ⟨r0, r1, r2, r3, r4, r5, r6⟩ := Bk.c7 G2.out.kv
      have zl := G2.out.kv.lt
      go_wp2_with fail
      go_ret
      exact ⟨ret_bool HV.out.symm, G2.out.bel⟩
    · rw [hk] at CK
      cases hh : hasB (idsP ps) va
      · rw [hh] at CI
        have HV : Hid (A = false) := by unfold Hid; have h := HA.out; rw [hg, hh] at h; simpa using h
        clear hg hk hh
        go_enter Try.func28, Try.ntmps28
        go_wp2_with fail
        refine (CG).mono ?_
        rintro e w1 ⟨rfl, hx⟩
        have G1 : Hid (GW w w1 #[.int .i64 b, .int .i64 d, .slice a ps.length cap] #[.int .i64 va, .int .i64 vi, .int .i64 vl, .int .i64 vp, .int .i64 vs, .int .i64 vt, .int .i64 vo]) := G0.out.keep hx
        clear hx G0
        obtain ⟨c0, c1, c2⟩ := Bk.c3 G1.out.kp
        obtain ⟨r0, r1, r2, r3, r4, r5, r6⟩ := Bk.c7 G1.out.kv
        have zl := G1.out.kv.lt
        go_wp2_with fail
        refine (CK _).mono ?_
        rintro e w2 ⟨rfl, hx⟩
        have G2 : Hid (GW w w2 #[.int .i64 b, .int .i64 d, .slice a ps.length cap] #[.int .i64 va, .int .i64 vi, .int .i64 vl, .int .i64 vp, .int .i64 vs, .int .i64 vt, .int .i64 vo]) := G1.out.keep hx
        clear hx G1
        clear c0 c1 c2 r0 r1 r2 r3 r4 r5 r6 zl
        obtain ⟨c0, c1, c2⟩ := Bk.c3 G2.out.kp
        obtain ⟨r0, r1, r2, r3, r4, r5, r6⟩ := Bk.c7 G2.out.kv
        have zl := G2.out.kv.lt
        go_wp2_with fail
        have kc0 : ∀ p : Kin w2.heap.size w2, p.v.cell? ⟨w.heap.size, 0, none⟩ = some (.int .i64 b) := kin_cell (by omega) c0
        have kc1 : ∀ p : Kin w2.heap.size w2, p.v.cell? ⟨w.heap.size, 1, none⟩ = some (.int .i64 d) := kin_cell (by omega) c1
        have kr0 : ∀ p : Kin w2.heap.size w2, p.v.cell? ⟨w.heap.size + 1, 0, none⟩ = some (.int .i64 va) := kin_cell zl r0
        have kr1 : ∀ p : Kin w2.heap.size w2, p.v.cell? ⟨w.heap.size + 1, 1, none⟩ = some (.int .i64 vi) := kin_cell zl r1
        have kr2 : ∀ p : Kin w2.heap.size w2, p.v.cell? ⟨w.heap.size + 1, 2, none⟩ = some (.int .i64 vl) := kin_cell zl r2
        refine region_kin w2.heap.size (by kernel_rfl) (by kernel_rfl) (fun hne => ?_)
        repeat (go_big_quiet_step (first | (go_at_call 68; exact kin_of (Nat.le_refl _) (CI _ (G2.out.keep (Kin.bel _)))) | (go_at_call 59; exact kin_of (Nat.le_refl _) (CV _)) | (go_at_call 61; exact kin_of (Nat.le_refl _) (CD _))))
        refine wpQuiet_nil ?_
        intro w3 hw'
        obtain ⟨⟨w9, hw9⟩, hw''⟩ := hw'
        obtain rfl : w3 = w9 := hw''
        have G3 : Hid (GW w w3 #[.int .i64 b, .int .i64 d, .slice a ps.length cap] #[.int .i64 va, .int .i64 vi, .int .i64 vl, .int .i64 vp, .int .i64 vs, .int .i64 vt, .int .i64 vo]) := G2.out.keep hw9
        clear kc0 kc1 kr0 kr1 kr2 hne hw9 G2
        clear c0 c1 c2 r0 r1 r2 r3 r4 r5 r6 zl
        obtain ⟨c0, c1, c2⟩ := Bk.c3 G3.out.kp
        obtain ⟨r0, r1, r2, r3, r4, r5, r6⟩ := Bk.c7 G3.out.kv
        have zl := G3.out.kv.lt
        go_wp2_with fail
        go_ret
        exact ⟨ret_bool HV.out.symm, G3.out.bel⟩
      · rw [hh] at CI
        cases hi : numB b d vi
        · rw [hi] at CV
          have HV : Hid (A = false) := by unfold Hid; have h := HA.out; rw [hi] at h; simpa using h
          clear hg hk hh hi
          go_enter Try.func28, Try.ntmps28
          go_wp2_with fail
          refine (CG).mono ?_
          rintro e w1 ⟨rfl, hx⟩
          have G1 : Hid (GW w w1 #[.int .i64 b, .int .i64 d, .slice a ps.length cap] #[.int .i64 va, .int .i64 vi, .int .i64 vl, .int .i64 vp, .int .i64 vs, .int .i64 vt, .int .i64 vo]) := G0.out.keep hx
          clear hx G0
          obtain ⟨c0, c1, c2⟩ := Bk.c3 G1.out.kp
          obtain ⟨r0, r1, r2, r3, r4, r5, r6⟩ := Bk.c7 G1.out.kv
          have zl := G1.out.kv.lt
          go_wp2_with fail
          refine (CK _).mono ?_
          rintro e w2 ⟨rfl, hx⟩
          have G2 : Hid (GW w w2 #[.int .i64 b, .int .i64 d, .slice a ps.length cap] #[.int .i64 va, .int .i64 vi, .int .i64 vl, .int .i64 vp, .int .i64 vs, .int .i64 vt, .int .i64 vo]) := G1.out.keep hx
          clear hx G1
          clear c0 c1 c2 r0 r1 r2 r3 r4 r5 r6 zl
          obtain ⟨c0, c1, c2⟩ := Bk.c3 G2.out.kp
          obtain ⟨r0, r1, r2, r3, r4, r5, r6⟩ := Bk.c7 G2.out.kv
          have zl := G2.out.kv.lt
          go_wp2_with fail
          have kc0 : ∀ p : Kin w2.heap.size w2, p.v.cell? ⟨w.heap.size, 0, none⟩ = some (.int .i64 b) := kin_cell (by omega) c0
          have kc1 : ∀ p : Kin w2.heap.size w2, p.v.cell? ⟨w.heap.size, 1, none⟩ = some (.int .i64 d) := kin_cell (by omega) c1
          have kr0 : ∀ p : Kin w2.heap.size w2, p.v.cell? ⟨w.heap.size + 1, 0, none⟩ = some (.int .i64 va) := kin_cell zl r0
          have kr1 : ∀ p : Kin w2.heap.size w2, p.v.cell? ⟨w.heap.size + 1, 1, none⟩ = some (.int .i64 vi) := kin_cell zl r1
          have kr2 : ∀ p : Kin w2.heap.size w2, p.v.cell? ⟨w.heap.size + 1, 2, none⟩ = some (.int .i64 vl) := kin_cell zl r2
          refine region_kin w2.heap.size (by kernel_rfl) (by kernel_rfl) (fun hne => ?_)
          repeat (go_big_quiet_step (first | (go_at_call 68; exact kin_of (Nat.le_refl _) (CI _ (G2.out.keep (Kin.bel _)))) | (go_at_call 59; exact kin_of (Nat.le_refl _) (CV _)) | (go_at_call 61; exact kin_of (Nat.le_refl _) (CD _))))
          refine wpQuiet_nil ?_
          intro w3 hw'
          obtain ⟨⟨w9, hw9⟩, hw''⟩ := hw'
          obtain rfl : w3 = w9 := hw''
          have G3 : Hid (GW w w3 #[.int .i64 b, .int .i64 d, .slice a ps.length cap] #[.int .i64 va, .int .i64 vi, .int .i64 vl, .int .i64 vp, .int .i64 vs, .int .i64 vt, .int .i64 vo]) := G2.out.keep hw9
          clear kc0 kc1 kr0 kr1 kr2 hne hw9 G2
          clear c0 c1 c2 r0 r1 r2 r3 r4 r5 r6 zl
          obtain ⟨c0, c1, c2⟩ := Bk.c3 G3.out.kp
          obtain ⟨r0, r1, r2, r3, r4, r5, r6⟩ := Bk.c7 G3.out.kv
          have zl := G3.out.kv.lt
          go_wp2_with fail
          go_ret
          exact ⟨ret_bool HV.out.symm, G3.out.bel⟩
        · rw [hi] at CV
          by_cases hl1 : vl < 0
          · have hl1b : decide (vl < 0) = true := decide_eq_true hl1
            have HV : Hid (A = false) := by unfold Hid; have h := HA.out; rw [inB_no (n := vl) (lo := 0) (hi := b / d) (by omega)] at h; simpa using h
            clear hg hk hh hi
            go_enter Try.func28, Try.ntmps28
            go_wp2_with fail
            refine (CG).mono ?_
            rintro e w1 ⟨rfl, hx⟩
            have G1 : Hid (GW w w1 #[.int .i64 b, .int .i64 d, .slice a ps.length cap] #[.int .i64 va, .int .i64 vi, .int .i64 vl, .int .i64 vp, .int .i64 vs, .int .i64 vt, .int .i64 vo]) := G0.out.keep hx
            clear hx G0
            obtain ⟨c0, c1, c2⟩ := Bk.c3 G1.out.kp
            obtain ⟨r0, r1, r2, r3, r4, r5, r6⟩ := Bk.c7 G1.out.kv
            have zl := G1.out.kv.lt
            go_wp2_with fail
            refine (CK _).mono ?_
            rintro e w2 ⟨rfl, hx⟩
            have G2 : Hid (GW w w2 #[.int .i64 b, .int .i64 d, .slice a ps.length cap] #[.int .i64 va, .int .i64 vi, .int .i64 vl, .int .i64 vp, .int .i64 vs, .int .i64 vt, .int .i64 vo]) := G1.out.keep hx
            clear hx G1
            clear c0 c1 c2 r0 r1 r2 r3 r4 r5 r6 zl
            obtain ⟨c0, c1, c2⟩ := Bk.c3 G2.out.kp
            obtain ⟨r0, r1, r2, r3, r4, r5, r6⟩ := Bk.c7 G2.out.kv
            have zl := G2.out.kv.lt
            go_wp2_with fail
            have kc0 : ∀ p : Kin w2.heap.size w2, p.v.cell? ⟨w.heap.size, 0, none⟩ = some (.int .i64 b) := kin_cell (by omega) c0
            have kc1 : ∀ p : Kin w2.heap.size w2, p.v.cell? ⟨w.heap.size, 1, none⟩ = some (.int .i64 d) := kin_cell (by omega) c1
            have kr0 : ∀ p : Kin w2.heap.size w2, p.v.cell? ⟨w.heap.size + 1, 0, none⟩ = some (.int .i64 va) := kin_cell zl r0
            have kr1 : ∀ p : Kin w2.heap.size w2, p.v.cell? ⟨w.heap.size + 1, 1, none⟩ = some (.int .i64 vi) := kin_cell zl r1
            have kr2 : ∀ p : Kin w2.heap.size w2, p.v.cell? ⟨w.heap.size + 1, 2, none⟩ = some (.int .i64 vl) := kin_cell zl r2
            refine region_kin w2.heap.size (by kernel_rfl) (by kernel_rfl) (fun hne => ?_)
            repeat (go_big_quiet_step (first | (go_at_call 68; exact kin_of (Nat.le_refl _) (CI _ (G2.out.keep (Kin.bel _)))) | (go_at_call 59; exact kin_of (Nat.le_refl _) (CV _)) | (go_at_call 61; exact kin_of (Nat.le_refl _) (CD _))))
            refine wpQuiet_nil ?_
            intro w3 hw'
            obtain ⟨⟨w9, hw9⟩, hw''⟩ := hw'
            obtain rfl : w3 = w9 := hw''
            have G3 : Hid (GW w w3 #[.int .i64 b, .int .i64 d, .slice a ps.length cap] #[.int .i64 va, .int .i64 vi, .int .i64 vl, .int .i64 vp, .int .i64 vs, .int .i64 vt, .int .i64 vo]) := G2.out.keep hw9
            clear kc0 kc1 kr0 kr1 kr2 hne hw9 G2
            clear c0 c1 c2 r0 r1 r2 r3 r4 r5 r6 zl
            obtain ⟨c0, c1, c2⟩ := Bk.c3 G3.out.kp
            obtain ⟨r0, r1, r2, r3, r4, r5, r6⟩ := Bk.c7 G3.out.kv
            have zl := G3.out.kv.lt
            go_wp2_with fail
            go_ret
            exact ⟨ret_bool HV.out.symm, G3.out.bel⟩
          · have hl1b : decide (vl < 0) = false := decide_eq_false hl1
            by_cases hl2 : (cnt b d : Int) < vl
            · have hl2b : decide ((cnt b d : Int) < vl) = true := decide_eq_true hl2
              have HV : Hid (A = false) := by unfold Hid; have h := HA.out; rw [inB_no (n := vl) (lo := 0) (hi := b / d) (by omega)] at h; simpa using h
              clear hg hk hh hi
              go_enter Try.func28, Try.ntmps28
              go_wp2_with fail
              refine (CG).mono ?_
              rintro e w1 ⟨rfl, hx⟩
              have G1 : Hid (GW w w1 #[.int .i64 b, .int .i64 d, .slice a ps.length cap] #[.int .i64 va, .int .i64 vi, .int .i64 vl, .int .i64 vp, .int .i64 vs, .int .i64 vt, .int .i64 vo]) := G0.out.keep hx
              clear hx G0
              obtain ⟨c0, c1, c2⟩ := Bk.c3 G1.out.kp
              obtain ⟨r0, r1, r2, r3, r4, r5, r6⟩ := Bk.c7 G1.out.kv
              have zl := G1.out.kv.lt
              go_wp2_with fail
              refine (CK _).mono ?_
              rintro e w2 ⟨rfl, hx⟩
              have G2 : Hid (GW w w2 #[.int .i64 b, .int .i64 d, .slice a ps.length cap] #[.int .i64 va, .int .i64 vi, .int .i64 vl, .int .i64 vp, .int .i64 vs, .int .i64 vt, .int .i64 vo]) := G1.out.keep hx
              clear hx G1
              clear c0 c1 c2 r0 r1 r2 r3 r4 r5 r6 zl
              obtain ⟨c0, c1, c2⟩ := Bk.c3 G2.out.kp
              obtain ⟨r0, r1, r2, r3, r4, r5, r6⟩ := Bk.c7 G2.out.kv
              have zl := G2.out.kv.lt
              go_wp2_with fail
              have kc0 : ∀ p : Kin w2.heap.size w2, p.v.cell? ⟨w.heap.size, 0, none⟩ = some (.int .i64 b) := kin_cell (by omega) c0
              have kc1 : ∀ p : Kin w2.heap.size w2, p.v.cell? ⟨w.heap.size, 1, none⟩ = some (.int .i64 d) := kin_cell (by omega) c1
              have kr0 : ∀ p : Kin w2.heap.size w2, p.v.cell? ⟨w.heap.size + 1, 0, none⟩ = some (.int .i64 va) := kin_cell zl r0
              have kr1 : ∀ p : Kin w2.heap.size w2, p.v.cell? ⟨w.heap.size + 1, 1, none⟩ = some (.int .i64 vi) := kin_cell zl r1
              have kr2 : ∀ p : Kin w2.heap.size w2, p.v.cell? ⟨w.heap.size + 1, 2, none⟩ = some (.int .i64 vl) := kin_cell zl r2
              refine region_kin w2.heap.size (by kernel_rfl) (by kernel_rfl) (fun hne => ?_)
              repeat (go_big_quiet_step (first | (go_at_call 68; exact kin_of (Nat.le_refl _) (CI _ (G2.out.keep (Kin.bel _)))) | (go_at_call 59; exact kin_of (Nat.le_refl _) (CV _)) | (go_at_call 61; exact kin_of (Nat.le_refl _) (CD _))))
              refine wpQuiet_nil ?_
              intro w3 hw'
              obtain ⟨⟨w9, hw9⟩, hw''⟩ := hw'
              obtain rfl : w3 = w9 := hw''
              have G3 : Hid (GW w w3 #[.int .i64 b, .int .i64 d, .slice a ps.length cap] #[.int .i64 va, .int .i64 vi, .int .i64 vl, .int .i64 vp, .int .i64 vs, .int .i64 vt, .int .i64 vo]) := G2.out.keep hw9
              clear kc0 kc1 kr0 kr1 kr2 hne hw9 G2
              clear c0 c1 c2 r0 r1 r2 r3 r4 r5 r6 zl
              obtain ⟨c0, c1, c2⟩ := Bk.c3 G3.out.kp
              obtain ⟨r0, r1, r2, r3, r4, r5, r6⟩ := Bk.c7 G3.out.kv
              have zl := G3.out.kv.lt
              go_wp2_with fail
              go_ret
              exact ⟨ret_bool HV.out.symm, G3.out.bel⟩
            · have hl2b : decide ((cnt b d : Int) < vl) = false := decide_eq_false hl2
              have hl := inB_yes (n := vl) (lo := 0) (hi := b / d) (by omega) (by omega)
              cases hp : inB vp 0 1000
              · rw [hp] at CP
                have HV : Hid (A = false) := by unfold Hid; have h := HA.out; rw [hp] at h; simpa using h
                clear hg hk hh hi hl hp
                go_enter Try.func28, Try.ntmps28
                go_wp2_with fail
                refine (CG).mono ?_
                rintro e w1 ⟨rfl, hx⟩
                have G1 : Hid (GW w w1 #[.int .i64 b, .int .i64 d, .slice a ps.length cap] #[.int .i64 va, .int .i64 vi, .int .i64 vl, .int .i64 vp, .int .i64 vs, .int .i64 vt, .int .i64 vo]) := G0.out.keep hx
                clear hx G0
                obtain ⟨c0, c1, c2⟩ := Bk.c3 G1.out.kp
                obtain ⟨r0, r1, r2, r3, r4, r5, r6⟩ := Bk.c7 G1.out.kv
                have zl := G1.out.kv.lt
                go_wp2_with fail
                refine (CK _).mono ?_
                rintro e w2 ⟨rfl, hx⟩
                have G2 : Hid (GW w w2 #[.int .i64 b, .int .i64 d, .slice a ps.length cap] #[.int .i64 va, .int .i64 vi, .int .i64 vl, .int .i64 vp, .int .i64 vs, .int .i64 vt, .int .i64 vo]) := G1.out.keep hx
                clear hx G1
                clear c0 c1 c2 r0 r1 r2 r3 r4 r5 r6 zl
                obtain ⟨c0, c1, c2⟩ := Bk.c3 G2.out.kp
                obtain ⟨r0, r1, r2, r3, r4, r5, r6⟩ := Bk.c7 G2.out.kv
                have zl := G2.out.kv.lt
                go_wp2_with fail
                have kc0 : ∀ p : Kin w2.heap.size w2, p.v.cell? ⟨w.heap.size, 0, none⟩ = some (.int .i64 b) := kin_cell (by omega) c0
                have kc1 : ∀ p : Kin w2.heap.size w2, p.v.cell? ⟨w.heap.size, 1, none⟩ = some (.int .i64 d) := kin_cell (by omega) c1
                have kr0 : ∀ p : Kin w2.heap.size w2, p.v.cell? ⟨w.heap.size + 1, 0, none⟩ = some (.int .i64 va) := kin_cell zl r0
                have kr1 : ∀ p : Kin w2.heap.size w2, p.v.cell? ⟨w.heap.size + 1, 1, none⟩ = some (.int .i64 vi) := kin_cell zl r1
                have kr2 : ∀ p : Kin w2.heap.size w2, p.v.cell? ⟨w.heap.size + 1, 2, none⟩ = some (.int .i64 vl) := kin_cell zl r2
                refine region_kin w2.heap.size (by kernel_rfl) (by kernel_rfl) (fun hne => ?_)
                repeat (go_big_quiet_step (first | (go_at_call 68; exact kin_of (Nat.le_refl _) (CI _ (G2.out.keep (Kin.bel _)))) | (go_at_call 59; exact kin_of (Nat.le_refl _) (CV _)) | (go_at_call 61; exact kin_of (Nat.le_refl _) (CD _))))
                refine wpQuiet_nil ?_
                intro w3 hw'
                obtain ⟨⟨w9, hw9⟩, hw''⟩ := hw'
                obtain rfl : w3 = w9 := hw''
                have G3 : Hid (GW w w3 #[.int .i64 b, .int .i64 d, .slice a ps.length cap] #[.int .i64 va, .int .i64 vi, .int .i64 vl, .int .i64 vp, .int .i64 vs, .int .i64 vt, .int .i64 vo]) := G2.out.keep hw9
                clear kc0 kc1 kr0 kr1 kr2 hne hw9 G2
                clear c0 c1 c2 r0 r1 r2 r3 r4 r5 r6 zl
                obtain ⟨c0, c1, c2⟩ := Bk.c3 G3.out.kp
                obtain ⟨r0, r1, r2, r3, r4, r5, r6⟩ := Bk.c7 G3.out.kv
                have zl := G3.out.kv.lt
                go_wp2_with fail
                refine (CP _).mono ?_
                rintro e wx ⟨rfl, hx⟩
                subst hx
                go_wp2_with fail
                go_ret
                exact ⟨ret_bool HV.out.symm, G3.out.bel⟩
              · rw [hp] at CP
                cases hs : inB vs 0 1000
                · rw [hs] at CS
                  have HV : Hid (A = false) := by unfold Hid; have h := HA.out; rw [hs] at h; simpa using h
                  clear hg hk hh hi hl hp hs
                  go_enter Try.func28, Try.ntmps28
                  go_wp2_with fail
                  refine (CG).mono ?_
                  rintro e w1 ⟨rfl, hx⟩
                  have G1 : Hid (GW w w1 #[.int .i64 b, .int .i64 d, .slice a ps.length cap] #[.int .i64 va, .int .i64 vi, .int .i64 vl, .int .i64 vp, .int .i64 vs, .int .i64 vt, .int .i64 vo]) := G0.out.keep hx
                  clear hx G0
                  obtain ⟨c0, c1, c2⟩ := Bk.c3 G1.out.kp
                  obtain ⟨r0, r1, r2, r3, r4, r5, r6⟩ := Bk.c7 G1.out.kv
                  have zl := G1.out.kv.lt
                  go_wp2_with fail
                  refine (CK _).mono ?_
                  rintro e w2 ⟨rfl, hx⟩
                  have G2 : Hid (GW w w2 #[.int .i64 b, .int .i64 d, .slice a ps.length cap] #[.int .i64 va, .int .i64 vi, .int .i64 vl, .int .i64 vp, .int .i64 vs, .int .i64 vt, .int .i64 vo]) := G1.out.keep hx
                  clear hx G1
                  clear c0 c1 c2 r0 r1 r2 r3 r4 r5 r6 zl
                  obtain ⟨c0, c1, c2⟩ := Bk.c3 G2.out.kp
                  obtain ⟨r0, r1, r2, r3, r4, r5, r6⟩ := Bk.c7 G2.out.kv
                  have zl := G2.out.kv.lt
                  go_wp2_with fail
                  have kc0 : ∀ p : Kin w2.heap.size w2, p.v.cell? ⟨w.heap.size, 0, none⟩ = some (.int .i64 b) := kin_cell (by omega) c0
                  have kc1 : ∀ p : Kin w2.heap.size w2, p.v.cell? ⟨w.heap.size, 1, none⟩ = some (.int .i64 d) := kin_cell (by omega) c1
                  have kr0 : ∀ p : Kin w2.heap.size w2, p.v.cell? ⟨w.heap.size + 1, 0, none⟩ = some (.int .i64 va) := kin_cell zl r0
                  have kr1 : ∀ p : Kin w2.heap.size w2, p.v.cell? ⟨w.heap.size + 1, 1, none⟩ = some (.int .i64 vi) := kin_cell zl r1
                  have kr2 : ∀ p : Kin w2.heap.size w2, p.v.cell? ⟨w.heap.size + 1, 2, none⟩ = some (.int .i64 vl) := kin_cell zl r2
                  refine region_kin w2.heap.size (by kernel_rfl) (by kernel_rfl) (fun hne => ?_)
                  repeat (go_big_quiet_step (first | (go_at_call 68; exact kin_of (Nat.le_refl _) (CI _ (G2.out.keep (Kin.bel _)))) | (go_at_call 59; exact kin_of (Nat.le_refl _) (CV _)) | (go_at_call 61; exact kin_of (Nat.le_refl _) (CD _))))
                  refine wpQuiet_nil ?_
                  intro w3 hw'
                  obtain ⟨⟨w9, hw9⟩, hw''⟩ := hw'
                  obtain rfl : w3 = w9 := hw''
                  have G3 : Hid (GW w w3 #[.int .i64 b, .int .i64 d, .slice a ps.length cap] #[.int .i64 va, .int .i64 vi, .int .i64 vl, .int .i64 vp, .int .i64 vs, .int .i64 vt, .int .i64 vo]) := G2.out.keep hw9
                  clear kc0 kc1 kr0 kr1 kr2 hne hw9 G2
                  clear c0 c1 c2 r0 r1 r2 r3 r4 r5 r6 zl
                  obtain ⟨c0, c1, c2⟩ := Bk.c3 G3.out.kp
                  obtain ⟨r0, r1, r2, r3, r4, r5, r6⟩ := Bk.c7 G3.out.kv
                  have zl := G3.out.kv.lt
                  go_wp2_with fail
                  refine (CP _).mono ?_
                  rintro e wx ⟨rfl, hx⟩
                  subst hx
                  go_wp2_with fail
                  refine (CS _).mono ?_
                  rintro e wx ⟨rfl, hx⟩
                  subst hx
                  go_wp2_with fail
                  go_ret
                  exact ⟨ret_bool HV.out.symm, G3.out.bel⟩
                · rw [hs] at CS
                  by_cases ht1 : vt = 1
                  · have HV : Hid (A = hasB (idsP ps) vo) := by unfold Hid; have h := HA.out; rw [hg, hh, hk, hi, hl, hp, hs, if_pos ht1, inB_yes (n := vt) (lo := 0) (hi := 2) (by omega) (by omega)] at h; simpa using h
                    have ht1' : (vt == 1) = true := by simpa using ht1
                    clear hg hk hh hi hl hp hs ht1
                    go_enter Try.func28, Try.ntmps28
                    go_wp2_with fail
                    refine (CG).mono ?_
                    rintro e w1 ⟨rfl, hx⟩
                    have G1 : Hid (GW w w1 #[.int .i64 b, .int .i64 d, .slice a ps.length cap] #[.int .i64 va, .int .i64 vi, .int .i64 vl, .int .i64 vp, .int .i64 vs, .int .i64 vt, .int .i64 vo]) := G0.out.keep hx
                    clear hx G0
                    obtain ⟨c0, c1, c2⟩ := Bk.c3 G1.out.kp
                    obtain ⟨r0, r1, r2, r3, r4, r5, r6⟩ := Bk.c7 G1.out.kv
                    have zl := G1.out.kv.lt
                    go_wp2_with fail
                    refine (CK _).mono ?_
                    rintro e w2 ⟨rfl, hx⟩
                    have G2 : Hid (GW w w2 #[.int .i64 b, .int .i64 d, .slice a ps.length cap] #[.int .i64 va, .int .i64 vi, .int .i64 vl, .int .i64 vp, .int .i64 vs, .int .i64 vt, .int .i64 vo]) := G1.out.keep hx
                    clear hx G1
                    clear c0 c1 c2 r0 r1 r2 r3 r4 r5 r6 zl
                    obtain ⟨c0, c1, c2⟩ := Bk.c3 G2.out.kp
                    obtain ⟨r0, r1, r2, r3, r4, r5, r6⟩ := Bk.c7 G2.out.kv
                    have zl := G2.out.kv.lt
                    go_wp2_with fail
                    have kc0 : ∀ p : Kin w2.heap.size w2, p.v.cell? ⟨w.heap.size, 0, none⟩ = some (.int .i64 b) := kin_cell (by omega) c0
                    have kc1 : ∀ p : Kin w2.heap.size w2, p.v.cell? ⟨w.heap.size, 1, none⟩ = some (.int .i64 d) := kin_cell (by omega) c1
                    have kr0 : ∀ p : Kin w2.heap.size w2, p.v.cell? ⟨w.heap.size + 1, 0, none⟩ = some (.int .i64 va) := kin_cell zl r0
                    have kr1 : ∀ p : Kin w2.heap.size w2, p.v.cell? ⟨w.heap.size + 1, 1, none⟩ = some (.int .i64 vi) := kin_cell zl r1
                    have kr2 : ∀ p : Kin w2.heap.size w2, p.v.cell? ⟨w.heap.size + 1, 2, none⟩ = some (.int .i64 vl) := kin_cell zl r2
                    refine region_kin w2.heap.size (by kernel_rfl) (by kernel_rfl) (fun hne => ?_)
                    repeat (go_big_quiet_step (first | (go_at_call 68; exact kin_of (Nat.le_refl _) (CI _ (G2.out.keep (Kin.bel _)))) | (go_at_call 59; exact kin_of (Nat.le_refl _) (CV _)) | (go_at_call 61; exact kin_of (Nat.le_refl _) (CD _))))
                    refine wpQuiet_nil ?_
                    intro w3 hw'
                    obtain ⟨⟨w9, hw9⟩, hw''⟩ := hw'
                    obtain rfl : w3 = w9 := hw''
                    have G3 : Hid (GW w w3 #[.int .i64 b, .int .i64 d, .slice a ps.length cap] #[.int .i64 va, .int .i64 vi, .int .i64 vl, .int .i64 vp, .int .i64 vs, .int .i64 vt, .int .i64 vo]) := G2.out.keep hw9
                    clear kc0 kc1 kr0 kr1 kr2 hne hw9 G2
                    clear c0 c1 c2 r0 r1 r2 r3 r4 r5 r6 zl
                    obtain ⟨c0, c1, c2⟩ := Bk.c3 G3.out.kp
                    obtain ⟨r0, r1, r2, r3, r4, r5, r6⟩ := Bk.c7 G3.out.kv
                    have zl := G3.out.kv.lt
                    go_wp2_with fail
                    refine (CP _).mono ?_
                    rintro e wx ⟨rfl, hx⟩
                    subst hx
                    go_wp2_with fail
                    refine (CS _).mono ?_
                    rintro e wx ⟨rfl, hx⟩
                    subst hx
                    go_wp2_with fail
                    refine (CO _ G3.out).mono ?_
                    rintro e w4 ⟨rfl, hx⟩
                    have G4 : Hid (GW w w4 #[.int .i64 b, .int .i64 d, .slice a ps.length cap] #[.int .i64 va, .int .i64 vi, .int .i64 vl, .int .i64 vp, .int .i64 vs, .int .i64 vt, .int .i64 vo]) := G3.out.keep hx
                    go_wp2_with fail
                    go_ret
                    exact ⟨ret_bool HV.out.symm, G4.out.bel⟩
                  · have ht1' : (vt == 1) = false := by simpa using ht1
                    by_cases ht0 : vt = 0
                    · have HV : Hid (A = (vo == 0)) := by unfold Hid; have h := HA.out; rw [hg, hh, hk, hi, hl, hp, hs, if_neg ht1, inB_yes (n := vt) (lo := 0) (hi := 2) (by omega) (by omega)] at h; exact (show A = decide (vo = 0) by simpa using h)
                      have ht0' : (vt == 0) = true := by simpa using ht0
                      clear hg hk hh hi hl hp hs ht1 ht0
                      go_enter Try.func28, Try.ntmps28
                      go_wp2_with fail
                      refine (CG).mono ?_
                      rintro e w1 ⟨rfl, hx⟩
                      have G1 : Hid (GW w w1 #[.int .i64 b, .int .i64 d, .slice a ps.length cap] #[.int .i64 va, .int .i64 vi, .int .i64 vl, .int .i64 vp, .int .i64 vs, .int .i64 vt, .int .i64 vo]) := G0.out.keep hx
                      clear hx G0
                      obtain ⟨c0, c1, c2⟩ := Bk.c3 G1.out.kp
                      obtain ⟨r0, r1, r2, r3, r4, r5, r6⟩ := Bk.c7 G1.out.kv
                      have zl := G1.out.kv.lt
                      go_wp2_with fail
                      refine (CK _).mono ?_
                      rintro e w2 ⟨rfl, hx⟩
                      have G2 : Hid (GW w w2 #[.int .i64 b, .int .i64 d, .slice a ps.length cap] #[.int .i64 va, .int .i64 vi, .int .i64 vl, .int .i64 vp, .int .i64 vs, .int .i64 vt, .int .i64 vo]) := G1.out.keep hx
                      clear hx G1
                      clear c0 c1 c2 r0 r1 r2 r3 r4 r5 r6 zl
                      obtain ⟨c0, c1, c2⟩ := Bk.c3 G2.out.kp
                      obtain ⟨r0, r1, r2, r3, r4, r5, r6⟩ := Bk.c7 G2.out.kv
                      have zl := G2.out.kv.lt
                      go_wp2_with fail
                      have kc0 : ∀ p : Kin w2.heap.size w2, p.v.cell? ⟨w.heap.size, 0, none⟩ = some (.int .i64 b) := kin_cell (by omega) c0
                      have kc1 : ∀ p : Kin w2.heap.size w2, p.v.cell? ⟨w.heap.size, 1, none⟩ = some (.int .i64 d) := kin_cell (by omega) c1
                      have kr0 : ∀ p : Kin w2.heap.size w2, p.v.cell? ⟨w.heap.size + 1, 0, none⟩ = some (.int .i64 va) := kin_cell zl r0
                      have kr1 : ∀ p : Kin w2.heap.size w2, p.v.cell? ⟨w.heap.size + 1, 1, none⟩ = some (.int .i64 vi) := kin_cell zl r1
                      have kr2 : ∀ p : Kin w2.heap.size w2, p.v.cell? ⟨w.heap.size + 1, 2, none⟩ = some (.int .i64 vl) := kin_cell zl r2
                      refine region_kin w2.heap.size (by kernel_rfl) (by kernel_rfl) (fun hne => ?_)
                      repeat (go_big_quiet_step (first | (go_at_call 68; exact kin_of (Nat.le_refl _) (CI _ (G2.out.keep (Kin.bel _)))) | (go_at_call 59; exact kin_of (Nat.le_refl _) (CV _)) | (go_at_call 61; exact kin_of (Nat.le_refl _) (CD _))))
                      refine wpQuiet_nil ?_
                      intro w3 hw'
                      obtain ⟨⟨w9, hw9⟩, hw''⟩ := hw'
                      obtain rfl : w3 = w9 := hw''
                      have G3 : Hid (GW w w3 #[.int .i64 b, .int .i64 d, .slice a ps.length cap] #[.int .i64 va, .int .i64 vi, .int .i64 vl, .int .i64 vp, .int .i64 vs, .int .i64 vt, .int .i64 vo]) := G2.out.keep hw9
                      clear kc0 kc1 kr0 kr1 kr2 hne hw9 G2
                      clear c0 c1 c2 r0 r1 r2 r3 r4 r5 r6 zl
                      obtain ⟨c0, c1, c2⟩ := Bk.c3 G3.out.kp
                      obtain ⟨r0, r1, r2, r3, r4, r5, r6⟩ := Bk.c7 G3.out.kv
                      have zl := G3.out.kv.lt
                      go_wp2_with fail
                      refine (CP _).mono ?_
                      rintro e wx ⟨rfl, hx⟩
                      subst hx
                      go_wp2_with fail
                      refine (CS _).mono ?_
                      rintro e wx ⟨rfl, hx⟩
                      subst hx
                      go_wp2_with fail
                      go_ret
                      exact ⟨ret_bool HV.out.symm, G3.out.bel⟩
                    · have ht0' : (vt == 0) = false := by simpa using ht0
                      by_cases ht2 : vt = 2
                      · have HV : Hid (A = (vo == 0)) := by unfold Hid; have h := HA.out; rw [hg, hh, hk, hi, hl, hp, hs, if_neg ht1, inB_yes (n := vt) (lo := 0) (hi := 2) (by omega) (by omega)] at h; exact (show A = decide (vo = 0) by simpa using h)
                        have ht2' : (vt == 2) = true := by simpa using ht2
                        clear hg hk hh hi hl hp hs ht1 ht0 ht2
                        go_enter Try.func28, Try.ntmps28
                        go_wp2_with fail
                        refine (CG).mono ?_
                        rintro e w1 ⟨rfl, hx⟩
                        have G1 : Hid (GW w w1 #[.int .i64 b, .int .i64 d, .slice a ps.length cap] #[.int .i64 va, .int .i64 vi, .int .i64 vl, .int .i64 vp, .int .i64 vs, .int .i64 vt, .int .i64 vo]) := G0.out.keep hx
                        clear hx G0
                        obtain ⟨c0, c1, c2⟩ := Bk.c3 G1.out.kp
                        obtain ⟨r0, r1, r2, r3, r4, r5, r6⟩ := Bk.c7 G1.out.kv
                        have zl := G1.out.kv.lt
                        go_wp2_with fail
                        refine (CK _).mono ?_
                        rintro e w2 ⟨rfl, hx⟩
                        have G2 : Hid (GW w w2 #[.int .i64 b, .int .i64 d, .slice a ps.length cap] #[.int .i64 va, .int .i64 vi, .int .i64 vl, .int .i64 vp, .int .i64 vs, .int .i64 vt, .int .i64 vo]) := G1.out.keep hx
                        clear hx G1
                        clear c0 c1 c2 r0 r1 r2 r3 r4 r5 r6 zl
                        obtain ⟨c0, c1, c2⟩ := Bk.c3 G2.out.kp
                        obtain ⟨r0, r1, r2, r3, r4, r5, r6⟩ := Bk.c7 G2.out.kv
                        have zl := G2.out.kv.lt
                        go_wp2_with fail
                        have kc0 : ∀ p : Kin w2.heap.size w2, p.v.cell? ⟨w.heap.size, 0, none⟩ = some (.int .i64 b) := kin_cell (by omega) c0
                        have kc1 : ∀ p : Kin w2.heap.size w2, p.v.cell? ⟨w.heap.size, 1, none⟩ = some (.int .i64 d) := kin_cell (by omega) c1
                        have kr0 : ∀ p : Kin w2.heap.size w2, p.v.cell? ⟨w.heap.size + 1, 0, none⟩ = some (.int .i64 va) := kin_cell zl r0
                        have kr1 : ∀ p : Kin w2.heap.size w2, p.v.cell? ⟨w.heap.size + 1, 1, none⟩ = some (.int .i64 vi) := kin_cell zl r1
                        have kr2 : ∀ p : Kin w2.heap.size w2, p.v.cell? ⟨w.heap.size + 1, 2, none⟩ = some (.int .i64 vl) := kin_cell zl r2
                        refine region_kin w2.heap.size (by kernel_rfl) (by kernel_rfl) (fun hne => ?_)
                        repeat (go_big_quiet_step (first | (go_at_call 68; exact kin_of (Nat.le_refl _) (CI _ (G2.out.keep (Kin.bel _)))) | (go_at_call 59; exact kin_of (Nat.le_refl _) (CV _)) | (go_at_call 61; exact kin_of (Nat.le_refl _) (CD _))))
                        refine wpQuiet_nil ?_
                        intro w3 hw'
                        obtain ⟨⟨w9, hw9⟩, hw''⟩ := hw'
                        obtain rfl : w3 = w9 := hw''
                        have G3 : Hid (GW w w3 #[.int .i64 b, .int .i64 d, .slice a ps.length cap] #[.int .i64 va, .int .i64 vi, .int .i64 vl, .int .i64 vp, .int .i64 vs, .int .i64 vt, .int .i64 vo]) := G2.out.keep hw9
                        clear kc0 kc1 kr0 kr1 kr2 hne hw9 G2
                        clear c0 c1 c2 r0 r1 r2 r3 r4 r5 r6 zl
                        obtain ⟨c0, c1, c2⟩ := Bk.c3 G3.out.kp
                        obtain ⟨r0, r1, r2, r3, r4, r5, r6⟩ := Bk.c7 G3.out.kv
                        have zl := G3.out.kv.lt
                        go_wp2_with fail
                        refine (CP _).mono ?_
                        rintro e wx ⟨rfl, hx⟩
                        subst hx
                        go_wp2_with fail
                        refine (CS _).mono ?_
                        rintro e wx ⟨rfl, hx⟩
                        subst hx
                        go_wp2_with fail
                        go_ret
                        exact ⟨ret_bool HV.out.symm, G3.out.bel⟩
                      · have ht2' : (vt == 2) = false := by simpa using ht2
                        have HV : Hid (A = false) := by unfold Hid; have h := HA.out; rw [inB_no (n := vt) (lo := 0) (hi := 2) (by omega)] at h; simpa using h
                        clear hg hk hh hi hl hp hs ht1 ht0 ht2
                        go_enter Try.func28, Try.ntmps28
                        go_wp2_with fail
                        refine (CG).mono ?_
                        rintro e w1 ⟨rfl, hx⟩
                        have G1 : Hid (GW w w1 #[.int .i64 b, .int .i64 d, .slice a ps.length cap] #[.int .i64 va, .int .i64 vi, .int .i64 vl, .int .i64 vp, .int .i64 vs, .int .i64 vt, .int .i64 vo]) := G0.out.keep hx
                        clear hx G0
                        obtain ⟨c0, c1, c2⟩ := Bk.c3 G1.out.kp
                        obtain ⟨r0, r1, r2, r3, r4, r5, r6⟩ := Bk.c7 G1.out.kv
                        have zl := G1.out.kv.lt
                        go_wp2_with fail
                        refine (CK _).mono ?_
                        rintro e w2 ⟨rfl, hx⟩
                        have G2 : Hid (GW w w2 #[.int .i64 b, .int .i64 d, .slice a ps.length cap] #[.int .i64 va, .int .i64 vi, .int .i64 vl, .int .i64 vp, .int .i64 vs, .int .i64 vt, .int .i64 vo]) := G1.out.keep hx
                        clear hx G1
                        clear c0 c1 c2 r0 r1 r2 r3 r4 r5 r6 zl
                        obtain ⟨c0, c1, c2⟩ := Bk.c3 G2.out.kp
                        obtain ⟨r0, r1, r2, r3, r4, r5, r6⟩ := Bk.c7 G2.out.kv
                        have zl := G2.out.kv.lt
                        go_wp2_with fail
                        have kc0 : ∀ p : Kin w2.heap.size w2, p.v.cell? ⟨w.heap.size, 0, none⟩ = some (.int .i64 b) := kin_cell (by omega) c0
                        have kc1 : ∀ p : Kin w2.heap.size w2, p.v.cell? ⟨w.heap.size, 1, none⟩ = some (.int .i64 d) := kin_cell (by omega) c1
                        have kr0 : ∀ p : Kin w2.heap.size w2, p.v.cell? ⟨w.heap.size + 1, 0, none⟩ = some (.int .i64 va) := kin_cell zl r0
                        have kr1 : ∀ p : Kin w2.heap.size w2, p.v.cell? ⟨w.heap.size + 1, 1, none⟩ = some (.int .i64 vi) := kin_cell zl r1
                        have kr2 : ∀ p : Kin w2.heap.size w2, p.v.cell? ⟨w.heap.size + 1, 2, none⟩ = some (.int .i64 vl) := kin_cell zl r2
                        refine region_kin w2.heap.size (by kernel_rfl) (by kernel_rfl) (fun hne => ?_)
                        repeat (go_big_quiet_step (first | (go_at_call 68; exact kin_of (Nat.le_refl _) (CI _ (G2.out.keep (Kin.bel _)))) | (go_at_call 59; exact kin_of (Nat.le_refl _) (CV _)) | (go_at_call 61; exact kin_of (Nat.le_refl _) (CD _))))
                        refine wpQuiet_nil ?_
                        intro w3 hw'
                        obtain ⟨⟨w9, hw9⟩, hw''⟩ := hw'
                        obtain rfl : w3 = w9 := hw''
                        have G3 : Hid (GW w w3 #[.int .i64 b, .int .i64 d, .slice a ps.length cap] #[.int .i64 va, .int .i64 vi, .int .i64 vl, .int .i64 vp, .int .i64 vs, .int .i64 vt, .int .i64 vo]) := G2.out.keep hw9
                        clear kc0 kc1 kr0 kr1 kr2 hne hw9 G2
                        clear c0 c1 c2 r0 r1 r2 r3 r4 r5 r6 zl
                        obtain ⟨c0, c1, c2⟩ := Bk.c3 G3.out.kp
                        obtain ⟨r0, r1, r2, r3, r4, r5, r6⟩ := Bk.c7 G3.out.kv
                        have zl := G3.out.kv.lt
                        go_wp2_with fail
                        refine (CP _).mono ?_
                        rintro e wx ⟨rfl, hx⟩
                        subst hx
                        go_wp2_with fail
                        refine (CS _).mono ?_
                        rintro e wx ⟨rfl, hx⟩
                        subst hx
                        go_wp2_with fail
                        go_ret
                        exact ⟨ret_bool HV.out.symm, G3.out.bel⟩
end Go.Proofs.Ytejajlloipkkhaa
