/- GoodWalk, in the specification. -/
import Derived.Test.YtejajlloipkkhaaG4Z
import Derived.Test.YtejajlloipkkhaaG6Z
namespace Go.Proofs.Ytejajlloipkkhaa
open Go.RowKit Go.Deep
set_option linter.unusedVariables false
set_option linter.unusedSimpArgs false
theorem lnums1d (b d x : Int) (w : World) : Calls Try.prog 65 #[.agg #[.int .i64 b, .int .i64 d], .slice (some ⟨w.heap.size, 0, none⟩) 1 1] (w.alloc (.cells #[.int .i64 x] 3)).drew fun e w' => e = .returned (.bool (numB b d x)) ∧ Below w.heap.size w w' :=
  (lnums1 b d x w.drew).mono fun e w' ⟨h1, h2⟩ => ⟨h1, belt ((Below.refl _ _).drew) h2⟩
theorem GW.s7 {w wr : World} {p0 p1 p2 y0 y1 y2 y3 y4 y5 y6 : Value} (h : GW w wr #[p0, p1, p2] #[y0, y1, y2, y3, y4, y5, y6]) : wr.cell? ⟨w.heap.size, 0, none⟩ = some p0 ∧ wr.cell? ⟨w.heap.size, 1, none⟩ = some p1 ∧ wr.cell? ⟨w.heap.size + 1, 1, none⟩ = some y1 ∧ wr.cell? ⟨w.heap.size + 1, 2, none⟩ = some y2 ∧ wr.cell? ⟨w.heap.size + 1, 3, none⟩ = some y3 ∧ wr.cell? ⟨w.heap.size + 1, 4, none⟩ = some y4 ∧ wr.cell? ⟨w.heap.size + 1, 5, none⟩ = some y5 :=
  ⟨h.kp.cell 0, h.kp.cell 1, h.kv.cell 1, h.kv.cell 2, h.kv.cell 3, h.kv.cell 4, h.kv.cell 5⟩
theorem GW.s4 {w wr : World} {p0 p1 p2 y0 y1 y2 y3 y4 y5 y6 : Value} (h : GW w wr #[p0, p1, p2] #[y0, y1, y2, y3, y4, y5, y6]) : wr.cell? ⟨w.heap.size, 0, none⟩ = some p0 ∧ wr.cell? ⟨w.heap.size, 1, none⟩ = some p1 ∧ wr.cell? ⟨w.heap.size, 2, none⟩ = some p2 ∧ wr.cell? ⟨w.heap.size + 1, 6, none⟩ = some y6 :=
  ⟨h.kp.cell 0, h.kp.cell 1, h.kp.cell 2, h.kv.cell 6⟩
set_option maxRecDepth 100000 in
set_option maxHeartbeats 3200000 in
theorem lgoodw_any (b d : Int) (a : Option Addr) (cap : Nat) (ps : List Pr) (v : Wk) (w : World) (hg : goodP b d ps = true) (hr : PeersAt w a ps) :
    Calls Try.prog 69 #[.agg #[.int .i64 b, .int .i64 d, .slice a ps.length cap], .agg v.cells] w fun e w' => e = .returned (.bool (wkB b d ps v)) ∧ Below w.heap.size w w' := by
  obtain ⟨va, vi, vl, vp, vs, vt, vo⟩ := v
  have R := (goodP_true hg).1
  obtain ⟨hb1, hb2, hd1, hd2, _⟩ := gsB_true R.gs
  obtain ⟨hq0, q1, q2⟩ := cnt_bd hb1 hb2 hd1 hd2
  have l2 := R.l2
  have hil := idsP_len ps
  rw [hil] at l2
  show Calls _ _ #[.agg #[.int .i64 b, .int .i64 d, .slice a ps.length cap], .agg #[.int .i64 va, .int .i64 vi, .int .i64 vl, .int .i64 vp, .int .i64 vs, .int .i64 vt, .int .i64 vo]] _ _
  have G0 : Hid (GW w ((w.alloc (.cells #[.int .i64 b, .int .i64 d, .slice a ps.length cap] 28)).alloc (.cells #[.int .i64 va, .int .i64 vi, .int .i64 vl, .int .i64 vp, .int .i64 vs, .int .i64 vt, .int .i64 vo] 32)) #[.int .i64 b, .int .i64 d, .slice a ps.length cap] #[.int .i64 va, .int .i64 vi, .int .i64 vl, .int .i64 vp, .int .i64 vs, .int .i64 vt, .int .i64 vo]) := gw0 w _ _
  have CM : ∀ w1, Below w.heap.size w w1 → Calls Try.prog 94 #[.agg #[.int .i64 b, .int .i64 d, .slice a ps.length cap]] w1 fun e w' => ∃ a1 cap1, e = .returned (.slice a1 ps.length cap1) ∧ RowAt w' a1 (idsP ps) ∧ Below w1.heap.size w1 w' := fun w1 hb => lmembers2 b d a cap ps w1 (by omega) (hr.keep hb)
  have HA : Hid (wkB b d ps ⟨va, vi, vl, vp, vs, vt, vo⟩ = (numB b d vi && inB vl 0 (cnt b d : Int) && inB vp 0 1000 && inB vs 0 1000 && inB vt 0 2 && (if vt = 1 then hasB (idsP ps) vo else decide (vo = 0)))) := by unfold Hid wkB; rw [hq0]
  generalize wkB b d ps ⟨va, vi, vl, vp, vs, vt, vo⟩ = A at *
  have CL := fun w1 => lin_any vl 0 (cnt b d : Int) w1
  have CP := fun w1 => lin_any vp 0 1000 w1
  have CS := fun w1 => lin_any vs 0 1000 w1
  have CT := fun w1 => lin_any vt 0 2 w1
  clear R hr
  cases hi : numB b d vi
  ·
    have HV : Hid (A = false) := by unfold Hid; have h := HA.out; rw [hi] at h; simpa using h
    have HNB : Hid (numB b d vi = false) := hi
    clear hi
    go_enter Try.func69, Try.ntmps69
    go_upto_region 1 with (fail)
    generalize (w.alloc (.cells #[.int .i64 b, .int .i64 d, .slice a ps.length cap] 28)).alloc (.cells #[.int .i64 va, .int .i64 vi, .int .i64 vl, .int .i64 vp, .int .i64 vs, .int .i64 vt, .int .i64 vo] 32) = W at *
    obtain ⟨c0, c1, c2⟩ := Bk.c3 G0.out.kp
    obtain ⟨r0, r1, r2, r3, r4, r5, r6⟩ := Bk.c7 G0.out.kv
    have zl := G0.out.kv.lt
    have HBW : Hid (Below W.heap.size W (W.alloc (.cells #[.int .i64 vi] 3)).drew) := (belA _ _).drew
    have kc0 : ∀ p : Kin W.heap.size W, p.v.cell? ⟨w.heap.size, 0, none⟩ = some (.int .i64 b) := kin_cell (by omega) c0
    have kc1 : ∀ p : Kin W.heap.size W, p.v.cell? ⟨w.heap.size, 1, none⟩ = some (.int .i64 d) := kin_cell (by omega) c1
    have kr1 : ∀ p : Kin W.heap.size W, p.v.cell? ⟨w.heap.size + 1, 1, none⟩ = some (.int .i64 vi) := kin_cell (by omega) r1
    refine wp_region_held_drew (S := KinS W.heap.size W) (by kernel_rfl) (kinS_self _ _) (fun hHeld => ?_)
    refine wpAnyH_take (i := 0) (v := ?_) rfl (by kernel_rfl) (by kernel_rfl) (by kernel_rfl) (fun _ _ _ h => h) (Or.inl ⟨by rfl, ?_⟩) (by assumption) ?_
    rotate_left
    · intro w9 hw9
      obtain ⟨p9, rfl⟩ := hw9
      first | (go_simp; done) | (go_simp; rfl)
    simp only [Act.put, List.setIfInBounds_toArray, List.set_cons_zero, List.set_cons_succ]
    refine wpAnyH_take (i := 1) (v := ?_) rfl (by kernel_rfl) (by kernel_rfl) (by kernel_rfl) (fun _ _ _ h => h) (Or.inl ⟨by rfl, ?_⟩) (by assumption) ?_
    rotate_left
    · intro w9 hw9
      obtain ⟨p9, rfl⟩ := hw9
      first | (go_simp; done) | (go_simp; rfl)
    simp only [Act.put, List.setIfInBounds_toArray, List.set_cons_zero, List.set_cons_succ]
    refine wpAnyH_take (i := 2) (v := ?_) rfl (by kernel_rfl) (by kernel_rfl) (by kernel_rfl) (fun _ _ _ h => h) (Or.inl ⟨by rfl, ?_⟩) (by assumption) ?_
    rotate_left
    · intro w9 hw9
      obtain ⟨p9, rfl⟩ := hw9
      first | (go_simp; done) | (go_simp; rfl)
    simp only [Act.put, List.setIfInBounds_toArray, List.set_cons_zero, List.set_cons_succ]
    refine wpAnyH_take (i := 3) (v := ?_) rfl (by kernel_rfl) (by kernel_rfl) (by kernel_rfl) (fun _ _ _ h => h) (Or.inl ⟨by rfl, ?_⟩) (by assumption) ?_
    rotate_left
    · intro w9 hw9
      obtain ⟨p9, rfl⟩ := hw9
      first | (go_simp; done) | (go_simp; rfl)
    simp only [Act.put, List.setIfInBounds_toArray, List.set_cons_zero, List.set_cons_succ]
    refine wpAnyH_ready (rs := [4]) (by kernel_rfl) (by simp) ?_
    refine AllReadyH.cons rfl (fun K hK => ?_) AllReadyH.nil
    go_simp
    refine hK.out _ _ (kinS_of ((belA _ _).drew)) (fun hHeld2 => ?_)
    clear kc0 kc1 kr1 hHeld hHeld2
    have GA := (G0.out.keep (belA W (.cells #[.int .i64 vi] 3))).keep ((Below.refl _ _).drew)
    have zW : Hid ((W.alloc (.cells #[.int .i64 vi] 3)).drew.heap.size = W.heap.size + 1) := by show _ = _; simp
    have cW : (W.alloc (.cells #[.int .i64 vi] 3)).drew.cell? ⟨W.heap.size, 0, none⟩ = some (.int .i64 vi) := by go_simp
    clear c0 c1 c2 r0 r1 r2 r3 r4 r5 r6
    generalize (W.alloc (.cells #[.int .i64 vi] 3)).drew = WA at *
    refine held_quiet (C := fun w' => ∃ p : Kin WA.heap.size WA, w' = p.v) 5 33 (kinS_sub HBW.out (by have := zW.out; omega)) (by kernel_rfl) rfl (by kernel_rfl) ⟨⟨WA, Below.refl _ _⟩, rfl⟩ ?_
    simp only [List.drop_succ_cons, List.drop_zero]
    have hne := kinNe WA.heap.size WA
    have kc0 : ∀ p : Kin WA.heap.size WA, p.v.cell? ⟨w.heap.size, 0, none⟩ = some (.int .i64 b) := kin_cell (by have := zW.out; omega) (GA.kp.cell 0)
    have kc1 : ∀ p : Kin WA.heap.size WA, p.v.cell? ⟨w.heap.size, 1, none⟩ = some (.int .i64 d) := kin_cell (by have := zW.out; omega) (GA.kp.cell 1)
    have kr2 : ∀ p : Kin WA.heap.size WA, p.v.cell? ⟨w.heap.size + 1, 2, none⟩ = some (.int .i64 vl) := kin_cell (by have := zW.out; omega) (GA.kv.cell 2)
    have kr3 : ∀ p : Kin WA.heap.size WA, p.v.cell? ⟨w.heap.size + 1, 3, none⟩ = some (.int .i64 vp) := kin_cell (by have := zW.out; omega) (GA.kv.cell 3)
    have kr4 : ∀ p : Kin WA.heap.size WA, p.v.cell? ⟨w.heap.size + 1, 4, none⟩ = some (.int .i64 vs) := kin_cell (by have := zW.out; omega) (GA.kv.cell 4)
    have kr5 : ∀ p : Kin WA.heap.size WA, p.v.cell? ⟨w.heap.size + 1, 5, none⟩ = some (.int .i64 vt) := kin_cell (by have := zW.out; omega) (GA.kv.cell 5)
    have CV : ∀ p : Kin WA.heap.size WA, Calls Try.prog 65 #[.agg #[.int .i64 b, .int .i64 d], .slice (some ⟨W.heap.size, 0, none⟩) 1 1] p.v fun e w' => e = .returned (.bool (false)) ∧ Below p.v.heap.size p.v w' := fun p => by
      have h := lnums_any b d W.heap.size 0 1 [vi] p.v (by simp [maxLen]) (by have := p.bel.size; have := zW.out; omega) (fun i hi => by
        match i, hi with
        | 0, _ => exact kin_cell (by have := zW.out; omega) cW p)
      rw [numsB_1, HNB.out] at h
      exact h
    repeat (go_big_quiet_step (first | (go_at_call 65; exact kin_of (Nat.le_refl _) (CV _)) | (go_at_call_of 54 (Value.int .i64 vl); exact kin_same (CL _)) | (go_at_call_of 54 (Value.int .i64 vp); exact kin_same (CP _)) | (go_at_call_of 54 (Value.int .i64 vs); exact kin_same (CS _)) | (go_at_call_of 54 (Value.int .i64 vt); exact kin_same (CT _))))
    refine wpQuiet_nil ?_
    intro w2 hw'
    obtain ⟨⟨w9, hw9⟩, hw''⟩ := hw'
    obtain rfl : w2 = w9 := hw''
    have G2 : Hid (GW w w2 #[.int .i64 b, .int .i64 d, .slice a ps.length cap] #[.int .i64 va, .int .i64 vi, .int .i64 vl, .int .i64 vp, .int .i64 vs, .int .i64 vt, .int .i64 vo]) := GA.keep hw9
    clear kc0 kc1 kr2 kr3 kr4 kr5 hne hw9 GA cW CV G0
    clear zl
    obtain ⟨c0, c1, c2⟩ := Bk.c3 G2.out.kp
    obtain ⟨r0, r1, r2, r3, r4, r5, r6⟩ := Bk.c7 G2.out.kv
    have zl := G2.out.kv.lt
    go_wp2_with fail
    go_ret
    exact ⟨ret_bool HV.out.symm, G2.out.bel⟩
  ·
    have HNB : Hid (numB b d vi = true) := hi
    cases hl : inB vl 0 (cnt b d : Int)
    · rw [hl] at CL
      have HV : Hid (A = false) := by unfold Hid; have h := HA.out; rw [hl] at h; simpa using h
      clear hi hl
      go_enter Try.func69, Try.ntmps69
      go_upto_region 1 with (fail)
      generalize (w.alloc (.cells #[.int .i64 b, .int .i64 d, .slice a ps.length cap] 28)).alloc (.cells #[.int .i64 va, .int .i64 vi, .int .i64 vl, .int .i64 vp, .int .i64 vs, .int .i64 vt, .int .i64 vo] 32) = W at *
      obtain ⟨c0, c1, c2⟩ := Bk.c3 G0.out.kp
      obtain ⟨r0, r1, r2, r3, r4, r5, r6⟩ := Bk.c7 G0.out.kv
      have zl := G0.out.kv.lt
      have HBW : Hid (Below W.heap.size W (W.alloc (.cells #[.int .i64 vi] 3)).drew) := (belA _ _).drew
      have kc0 : ∀ p : Kin W.heap.size W, p.v.cell? ⟨w.heap.size, 0, none⟩ = some (.int .i64 b) := kin_cell (by omega) c0
      have kc1 : ∀ p : Kin W.heap.size W, p.v.cell? ⟨w.heap.size, 1, none⟩ = some (.int .i64 d) := kin_cell (by omega) c1
      have kr1 : ∀ p : Kin W.heap.size W, p.v.cell? ⟨w.heap.size + 1, 1, none⟩ = some (.int .i64 vi) := kin_cell (by omega) r1
      refine wp_region_held_drew (S := KinS W.heap.size W) (by kernel_rfl) (kinS_self _ _) (fun hHeld => ?_)
      refine wpAnyH_take (i := 0) (v := ?_) rfl (by kernel_rfl) (by kernel_rfl) (by kernel_rfl) (fun _ _ _ h => h) (Or.inl ⟨by rfl, ?_⟩) (by assumption) ?_
      rotate_left
      · intro w9 hw9
        obtain ⟨p9, rfl⟩ := hw9
        first | (go_simp; done) | (go_simp; rfl)
      simp only [Act.put, List.setIfInBounds_toArray, List.set_cons_zero, List.set_cons_succ]
      refine wpAnyH_take (i := 1) (v := ?_) rfl (by kernel_rfl) (by kernel_rfl) (by kernel_rfl) (fun _ _ _ h => h) (Or.inl ⟨by rfl, ?_⟩) (by assumption) ?_
      rotate_left
      · intro w9 hw9
        obtain ⟨p9, rfl⟩ := hw9
        first | (go_simp; done) | (go_simp; rfl)
      simp only [Act.put, List.setIfInBounds_toArray, List.set_cons_zero, List.set_cons_succ]
      refine wpAnyH_take (i := 2) (v := ?_) rfl (by kernel_rfl) (by kernel_rfl) (by kernel_rfl) (fun _ _ _ h => h) (Or.inl ⟨by rfl, ?_⟩) (by assumption) ?_
      rotate_left
      · intro w9 hw9
        obtain ⟨p9, rfl⟩ := hw9
        first | (go_simp; done) | (go_simp; rfl)
      simp only [Act.put, List.setIfInBounds_toArray, List.set_cons_zero, List.set_cons_succ]
      refine wpAnyH_take (i := 3) (v := ?_) rfl (by kernel_rfl) (by kernel_rfl) (by kernel_rfl) (fun _ _ _ h => h) (Or.inl ⟨by rfl, ?_⟩) (by assumption) ?_
      rotate_left
      · intro w9 hw9
        obtain ⟨p9, rfl⟩ := hw9
        first | (go_simp; done) | (go_simp; rfl)
      simp only [Act.put, List.setIfInBounds_toArray, List.set_cons_zero, List.set_cons_succ]
      refine wpAnyH_ready (rs := [4]) (by kernel_rfl) (by simp) ?_
      refine AllReadyH.cons rfl (fun K hK => ?_) AllReadyH.nil
      go_simp
      refine hK.out _ _ (kinS_of ((belA _ _).drew)) (fun hHeld2 => ?_)
      clear kc0 kc1 kr1 hHeld hHeld2
      have GA := (G0.out.keep (belA W (.cells #[.int .i64 vi] 3))).keep ((Below.refl _ _).drew)
      have zW : Hid ((W.alloc (.cells #[.int .i64 vi] 3)).drew.heap.size = W.heap.size + 1) := by show _ = _; simp
      have cW : (W.alloc (.cells #[.int .i64 vi] 3)).drew.cell? ⟨W.heap.size, 0, none⟩ = some (.int .i64 vi) := by go_simp
      clear c0 c1 c2 r0 r1 r2 r3 r4 r5 r6
      generalize (W.alloc (.cells #[.int .i64 vi] 3)).drew = WA at *
      refine held_quiet (C := fun w' => ∃ p : Kin WA.heap.size WA, w' = p.v) 5 33 (kinS_sub HBW.out (by have := zW.out; omega)) (by kernel_rfl) rfl (by kernel_rfl) ⟨⟨WA, Below.refl _ _⟩, rfl⟩ ?_
      simp only [List.drop_succ_cons, List.drop_zero]
      have hne := kinNe WA.heap.size WA
      have kc0 : ∀ p : Kin WA.heap.size WA, p.v.cell? ⟨w.heap.size, 0, none⟩ = some (.int .i64 b) := kin_cell (by have := zW.out; omega) (GA.kp.cell 0)
      have kc1 : ∀ p : Kin WA.heap.size WA, p.v.cell? ⟨w.heap.size, 1, none⟩ = some (.int .i64 d) := kin_cell (by have := zW.out; omega) (GA.kp.cell 1)
      have kr2 : ∀ p : Kin WA.heap.size WA, p.v.cell? ⟨w.heap.size + 1, 2, none⟩ = some (.int .i64 vl) := kin_cell (by have := zW.out; omega) (GA.kv.cell 2)
      have kr3 : ∀ p : Kin WA.heap.size WA, p.v.cell? ⟨w.heap.size + 1, 3, none⟩ = some (.int .i64 vp) := kin_cell (by have := zW.out; omega) (GA.kv.cell 3)
      have kr4 : ∀ p : Kin WA.heap.size WA, p.v.cell? ⟨w.heap.size + 1, 4, none⟩ = some (.int .i64 vs) := kin_cell (by have := zW.out; omega) (GA.kv.cell 4)
      have kr5 : ∀ p : Kin WA.heap.size WA, p.v.cell? ⟨w.heap.size + 1, 5, none⟩ = some (.int .i64 vt) := kin_cell (by have := zW.out; omega) (GA.kv.cell 5)
      have CV : ∀ p : Kin WA.heap.size WA, Calls Try.prog 65 #[.agg #[.int .i64 b, .int .i64 d], .slice (some ⟨W.heap.size, 0, none⟩) 1 1] p.v fun e w' => e = .returned (.bool (true)) ∧ Below p.v.heap.size p.v w' := fun p => by
        have h := lnums_any b d W.heap.size 0 1 [vi] p.v (by simp [maxLen]) (by have := p.bel.size; have := zW.out; omega) (fun i hi => by
          match i, hi with
          | 0, _ => exact kin_cell (by have := zW.out; omega) cW p)
        rw [numsB_1, HNB.out] at h
        exact h
      repeat (go_big_quiet_step (first | (go_at_call 65; exact kin_of (Nat.le_refl _) (CV _)) | (go_at_call_of 54 (Value.int .i64 vl); exact kin_same (CL _)) | (go_at_call_of 54 (Value.int .i64 vp); exact kin_same (CP _)) | (go_at_call_of 54 (Value.int .i64 vs); exact kin_same (CS _)) | (go_at_call_of 54 (Value.int .i64 vt); exact kin_same (CT _))))
      refine wpQuiet_nil ?_
      intro w2 hw'
      obtain ⟨⟨w9, hw9⟩, hw''⟩ := hw'
      obtain rfl : w2 = w9 := hw''
      have G2 : Hid (GW w w2 #[.int .i64 b, .int .i64 d, .slice a ps.length cap] #[.int .i64 va, .int .i64 vi, .int .i64 vl, .int .i64 vp, .int .i64 vs, .int .i64 vt, .int .i64 vo]) := GA.keep hw9
      clear kc0 kc1 kr2 kr3 kr4 kr5 hne hw9 GA cW CV G0
      clear zl
      obtain ⟨c0, c1, c2⟩ := Bk.c3 G2.out.kp
      obtain ⟨r0, r1, r2, r3, r4, r5, r6⟩ := Bk.c7 G2.out.kv
      have zl := G2.out.kv.lt
      go_wp2_with fail
      go_ret
      exact ⟨ret_bool HV.out.symm, G2.out.bel⟩
    · rw [hl] at CL
      cases hp : inB vp 0 1000
      · rw [hp] at CP
        have HV : Hid (A = false) := by unfold Hid; have h := HA.out; rw [hp] at h; simpa using h
        clear hi hl hp
        go_enter Try.func69, Try.ntmps69
        go_upto_region 1 with (fail)
        generalize (w.alloc (.cells #[.int .i64 b, .int .i64 d, .slice a ps.length cap] 28)).alloc (.cells #[.int .i64 va, .int .i64 vi, .int .i64 vl, .int .i64 vp, .int .i64 vs, .int .i64 vt, .int .i64 vo] 32) = W at *
        obtain ⟨c0, c1, c2⟩ := Bk.c3 G0.out.kp
        obtain ⟨r0, r1, r2, r3, r4, r5, r6⟩ := Bk.c7 G0.out.kv
        have zl := G0.out.kv.lt
        have HBW : Hid (Below W.heap.size W (W.alloc (.cells #[.int .i64 vi] 3)).drew) := (belA _ _).drew
        have kc0 : ∀ p : Kin W.heap.size W, p.v.cell? ⟨w.heap.size, 0, none⟩ = some (.int .i64 b) := kin_cell (by omega) c0
        have kc1 : ∀ p : Kin W.heap.size W, p.v.cell? ⟨w.heap.size, 1, none⟩ = some (.int .i64 d) := kin_cell (by omega) c1
        have kr1 : ∀ p : Kin W.heap.size W, p.v.cell? ⟨w.heap.size + 1, 1, none⟩ = some (.int .i64 vi) := kin_cell (by omega) r1
        refine wp_region_held_drew (S := KinS W.heap.size W) (by kernel_rfl) (kinS_self _ _) (fun hHeld => ?_)
        refine wpAnyH_take (i := 0) (v := ?_) rfl (by kernel_rfl) (by kernel_rfl) (by kernel_rfl) (fun _ _ _ h => h) (Or.inl ⟨by rfl, ?_⟩) (by assumption) ?_
        rotate_left
        · intro w9 hw9
          obtain ⟨p9, rfl⟩ := hw9
          first | (go_simp; done) | (go_simp; rfl)
        simp only [Act.put, List.setIfInBounds_toArray, List.set_cons_zero, List.set_cons_succ]
        refine wpAnyH_take (i := 1) (v := ?_) rfl (by kernel_rfl) (by kernel_rfl) (by kernel_rfl) (fun _ _ _ h => h) (Or.inl ⟨by rfl, ?_⟩) (by assumption) ?_
        rotate_left
        · intro w9 hw9
          obtain ⟨p9, rfl⟩ := hw9
          first | (go_simp; done) | (go_simp; rfl)
        simp only [Act.put, List.setIfInBounds_toArray, List.set_cons_zero, List.set_cons_succ]
        refine wpAnyH_take (i := 2) (v := ?_) rfl (by kernel_rfl) (by kernel_rfl) (by kernel_rfl) (fun _ _ _ h => h) (Or.inl ⟨by rfl, ?_⟩) (by assumption) ?_
        rotate_left
        · intro w9 hw9
          obtain ⟨p9, rfl⟩ := hw9
          first | (go_simp; done) | (go_simp; rfl)
        simp only [Act.put, List.setIfInBounds_toArray, List.set_cons_zero, List.set_cons_succ]
        refine wpAnyH_take (i := 3) (v := ?_) rfl (by kernel_rfl) (by kernel_rfl) (by kernel_rfl) (fun _ _ _ h => h) (Or.inl ⟨by rfl, ?_⟩) (by assumption) ?_
        rotate_left
        · intro w9 hw9
          obtain ⟨p9, rfl⟩ := hw9
          first | (go_simp; done) | (go_simp; rfl)
        simp only [Act.put, List.setIfInBounds_toArray, List.set_cons_zero, List.set_cons_succ]
        refine wpAnyH_ready (rs := [4]) (by kernel_rfl) (by simp) ?_
        refine AllReadyH.cons rfl (fun K hK => ?_) AllReadyH.nil
        go_simp
        refine hK.out _ _ (kinS_of ((belA _ _).drew)) (fun hHeld2 => ?_)
        clear kc0 kc1 kr1 hHeld hHeld2
        have GA := (G0.out.keep (belA W (.cells #[.int .i64 vi] 3))).keep ((Below.refl _ _).drew)
        have zW : Hid ((W.alloc (.cells #[.int .i64 vi] 3)).drew.heap.size = W.heap.size + 1) := by show _ = _; simp
        have cW : (W.alloc (.cells #[.int .i64 vi] 3)).drew.cell? ⟨W.heap.size, 0, none⟩ = some (.int .i64 vi) := by go_simp
        clear c0 c1 c2 r0 r1 r2 r3 r4 r5 r6
        generalize (W.alloc (.cells #[.int .i64 vi] 3)).drew = WA at *
        refine held_quiet (C := fun w' => ∃ p : Kin WA.heap.size WA, w' = p.v) 5 33 (kinS_sub HBW.out (by have := zW.out; omega)) (by kernel_rfl) rfl (by kernel_rfl) ⟨⟨WA, Below.refl _ _⟩, rfl⟩ ?_
        simp only [List.drop_succ_cons, List.drop_zero]
        have hne := kinNe WA.heap.size WA
        have kc0 : ∀ p : Kin WA.heap.size WA, p.v.cell? ⟨w.heap.size, 0, none⟩ = some (.int .i64 b) := kin_cell (by have := zW.out; omega) (GA.kp.cell 0)
        have kc1 : ∀ p : Kin WA.heap.size WA, p.v.cell? ⟨w.heap.size, 1, none⟩ = some (.int .i64 d) := kin_cell (by have := zW.out; omega) (GA.kp.cell 1)
        have kr2 : ∀ p : Kin WA.heap.size WA, p.v.cell? ⟨w.heap.size + 1, 2, none⟩ = some (.int .i64 vl) := kin_cell (by have := zW.out; omega) (GA.kv.cell 2)
        have kr3 : ∀ p : Kin WA.heap.size WA, p.v.cell? ⟨w.heap.size + 1, 3, none⟩ = some (.int .i64 vp) := kin_cell (by have := zW.out; omega) (GA.kv.cell 3)
        have kr4 : ∀ p : Kin WA.heap.size WA, p.v.cell? ⟨w.heap.size + 1, 4, none⟩ = some (.int .i64 vs) := kin_cell (by have := zW.out; omega) (GA.kv.cell 4)
        have kr5 : ∀ p : Kin WA.heap.size WA, p.v.cell? ⟨w.heap.size + 1, 5, none⟩ = some (.int .i64 vt) := kin_cell (by have := zW.out; omega) (GA.kv.cell 5)
        have CV : ∀ p : Kin WA.heap.size WA, Calls Try.prog 65 #[.agg #[.int .i64 b, .int .i64 d], .slice (some ⟨W.heap.size, 0, none⟩) 1 1] p.v fun e w' => e = .returned (.bool (true)) ∧ Below p.v.heap.size p.v w' := fun p => by
          have h := lnums_any b d W.heap.size 0 1 [vi] p.v (by simp [maxLen]) (by have := p.bel.size; have := zW.out; omega) (fun i hi => by
            match i, hi with
            | 0, _ => exact kin_cell (by have := zW.out; omega) cW p)
          rw [numsB_1, HNB.out] at h
          exact h
        repeat (go_big_quiet_step (first | (go_at_call 65; exact kin_of (Nat.le_refl _) (CV _)) | (go_at_call_of 54 (Value.int .i64 vl); exact kin_same (CL _)) | (go_at_call_of 54 (Value.int .i64 vp); exact kin_same (CP _)) | (go_at_call_of 54 (Value.int .i64 vs); exact kin_same (CS _)) | (go_at_call_of 54 (Value.int .i64 vt); exact kin_same (CT _))))
        refine wpQuiet_nil ?_
        intro w2 hw'
        obtain ⟨⟨w9, hw9⟩, hw''⟩ := hw'
        obtain rfl : w2 = w9 := hw''
        have G2 : Hid (GW w w2 #[.int .i64 b, .int .i64 d, .slice a ps.length cap] #[.int .i64 va, .int .i64 vi, .int .i64 vl, .int .i64 vp, .int .i64 vs, .int .i64 vt, .int .i64 vo]) := GA.keep hw9
        clear kc0 kc1 kr2 kr3 kr4 kr5 hne hw9 GA cW CV G0
        clear zl
        obtain ⟨c0, c1, c2⟩ := Bk.c3 G2.out.kp
        obtain ⟨r0, r1, r2, r3, r4, r5, r6⟩ := Bk.c7 G2.out.kv
        have zl := G2.out.kv.lt
        go_wp2_with fail
        go_ret
        exact ⟨ret_bool HV.out.symm, G2.out.bel⟩
      · rw [hp] at CP
        cases hs : inB vs 0 1000
        · rw [hs] at CS
          have HV : Hid (A = false) := by unfold Hid; have h := HA.out; rw [hs] at h; simpa using h
          clear hi hl hp hs
          go_enter Try.func69, Try.ntmps69
          go_upto_region 1 with (fail)
          generalize (w.alloc (.cells #[.int .i64 b, .int .i64 d, .slice a ps.length cap] 28)).alloc (.cells #[.int .i64 va, .int .i64 vi, .int .i64 vl, .int .i64 vp, .int .i64 vs, .int .i64 vt, .int .i64 vo] 32) = W at *
          obtain ⟨c0, c1, c2⟩ := Bk.c3 G0.out.kp
          obtain ⟨r0, r1, r2, r3, r4, r5, r6⟩ := Bk.c7 G0.out.kv
          have zl := G0.out.kv.lt
          have HBW : Hid (Below W.heap.size W (W.alloc (.cells #[.int .i64 vi] 3)).drew) := (belA _ _).drew
          have kc0 : ∀ p : Kin W.heap.size W, p.v.cell? ⟨w.heap.size, 0, none⟩ = some (.int .i64 b) := kin_cell (by omega) c0
          have kc1 : ∀ p : Kin W.heap.size W, p.v.cell? ⟨w.heap.size, 1, none⟩ = some (.int .i64 d) := kin_cell (by omega) c1
          have kr1 : ∀ p : Kin W.heap.size W, p.v.cell? ⟨w.heap.size + 1, 1, none⟩ = some (.int .i64 vi) := kin_cell (by omega) r1
          refine wp_region_held_drew (S := KinS W.heap.size W) (by kernel_rfl) (kinS_self _ _) (fun hHeld => ?_)
          refine wpAnyH_take (i := 0) (v := ?_) rfl (by kernel_rfl) (by kernel_rfl) (by kernel_rfl) (fun _ _ _ h => h) (Or.inl ⟨by rfl, ?_⟩) (by assumption) ?_
          rotate_left
          · intro w9 hw9
            obtain ⟨p9, rfl⟩ := hw9
            first | (go_simp; done) | (go_simp; rfl)
          simp only [Act.put, List.setIfInBounds_toArray, List.set_cons_zero, List.set_cons_succ]
          refine wpAnyH_take (i := 1) (v := ?_) rfl (by kernel_rfl) (by kernel_rfl) (by kernel_rfl) (fun _ _ _ h => h) (Or.inl ⟨by rfl, ?_⟩) (by assumption) ?_
          rotate_left
          · intro w9 hw9
            obtain ⟨p9, rfl⟩ := hw9
            first | (go_simp; done) | (go_simp; rfl)
          simp only [Act.put, List.setIfInBounds_toArray, List.set_cons_zero, List.set_cons_succ]
          refine wpAnyH_take (i := 2) (v := ?_) rfl (by kernel_rfl) (by kernel_rfl) (by kernel_rfl) (fun _ _ _ h => h) (Or.inl ⟨by rfl, ?_⟩) (by assumption) ?_
          rotate_left
          · intro w9 hw9
            obtain ⟨p9, rfl⟩ := hw9
            first | (go_simp; done) | (go_simp; rfl)
          simp only [Act.put, List.setIfInBounds_toArray, List.set_cons_zero, List.set_cons_succ]
          refine wpAnyH_take (i := 3) (v := ?_) rfl (by kernel_rfl) (by kernel_rfl) (by kernel_rfl) (fun _ _ _ h => h) (Or.inl ⟨by rfl, ?_⟩) (by assumption) ?_
          rotate_left
          · intro w9 hw9
            obtain ⟨p9, rfl⟩ := hw9
            first | (go_simp; done) | (go_simp; rfl)
          simp only [Act.put, List.setIfInBounds_toArray, List.set_cons_zero, List.set_cons_succ]
          refine wpAnyH_ready (rs := [4]) (by kernel_rfl) (by simp) ?_
          refine AllReadyH.cons rfl (fun K hK => ?_) AllReadyH.nil
          go_simp
          refine hK.out _ _ (kinS_of ((belA _ _).drew)) (fun hHeld2 => ?_)
          clear kc0 kc1 kr1 hHeld hHeld2
          have GA := (G0.out.keep (belA W (.cells #[.int .i64 vi] 3))).keep ((Below.refl _ _).drew)
          have zW : Hid ((W.alloc (.cells #[.int .i64 vi] 3)).drew.heap.size = W.heap.size + 1) := by show _ = _; simp
          have cW : (W.alloc (.cells #[.int .i64 vi] 3)).drew.cell? ⟨W.heap.size, 0, none⟩ = some (.int .i64 vi) := by go_simp
          clear c0 c1 c2 r0 r1 r2 r3 r4 r5 r6
          generalize (W.alloc (.cells #[.int .i64 vi] 3)).drew = WA at *
          refine held_quiet (C := fun w' => ∃ p : Kin WA.heap.size WA, w' = p.v) 5 33 (kinS_sub HBW.out (by have := zW.out; omega)) (by kernel_rfl) rfl (by kernel_rfl) ⟨⟨WA, Below.refl _ _⟩, rfl⟩ ?_
          simp only [List.drop_succ_cons, List.drop_zero]
          have hne := kinNe WA.heap.size WA
          have kc0 : ∀ p : Kin WA.heap.size WA, p.v.cell? ⟨w.heap.size, 0, none⟩ = some (.int .i64 b) := kin_cell (by have := zW.out; omega) (GA.kp.cell 0)
          have kc1 : ∀ p : Kin WA.heap.size WA, p.v.cell? ⟨w.heap.size, 1, none⟩ = some (.int .i64 d) := kin_cell (by have := zW.out; omega) (GA.kp.cell 1)
          have kr2 : ∀ p : Kin WA.heap.size WA, p.v.cell? ⟨w.heap.size + 1, 2, none⟩ = some (.int .i64 vl) := kin_cell (by have := zW.out; omega) (GA.kv.cell 2)
          have kr3 : ∀ p : Kin WA.heap.size WA, p.v.cell? ⟨w.heap.size + 1, 3, none⟩ = some (.int .i64 vp) := kin_cell (by have := zW.out; omega) (GA.kv.cell 3)
          have kr4 : ∀ p : Kin WA.heap.size WA, p.v.cell? ⟨w.heap.size + 1, 4, none⟩ = some (.int .i64 vs) := kin_cell (by have := zW.out; omega) (GA.kv.cell 4)
          have kr5 : ∀ p : Kin WA.heap.size WA, p.v.cell? ⟨w.heap.size + 1, 5, none⟩ = some (.int .i64 vt) := kin_cell (by have := zW.out; omega) (GA.kv.cell 5)
          have CV : ∀ p : Kin WA.heap.size WA, Calls Try.prog 65 #[.agg #[.int .i64 b, .int .i64 d], .slice (some ⟨W.heap.size, 0, none⟩) 1 1] p.v fun e w' => e = .returned (.bool (true)) ∧ Below p.v.heap.size p.v w' := fun p => by
            have h := lnums_any b d W.heap.size 0 1 [vi] p.v (by simp [maxLen]) (by have := p.bel.size; have := zW.out; omega) (fun i hi => by
              match i, hi with
              | 0, _ => exact kin_cell (by have := zW.out; omega) cW p)
            rw [numsB_1, HNB.out] at h
            exact h
          repeat (go_big_quiet_step (first | (go_at_call 65; exact kin_of (Nat.le_refl _) (CV _)) | (go_at_call_of 54 (Value.int .i64 vl); exact kin_same (CL _)) | (go_at_call_of 54 (Value.int .i64 vp); exact kin_same (CP _)) | (go_at_call_of 54 (Value.int .i64 vs); exact kin_same (CS _)) | (go_at_call_of 54 (Value.int .i64 vt); exact kin_same (CT _))))
          refine wpQuiet_nil ?_
          intro w2 hw'
          obtain ⟨⟨w9, hw9⟩, hw''⟩ := hw'
          obtain rfl : w2 = w9 := hw''
          have G2 : Hid (GW w w2 #[.int .i64 b, .int .i64 d, .slice a ps.length cap] #[.int .i64 va, .int .i64 vi, .int .i64 vl, .int .i64 vp, .int .i64 vs, .int .i64 vt, .int .i64 vo]) := GA.keep hw9
          clear kc0 kc1 kr2 kr3 kr4 kr5 hne hw9 GA cW CV G0
          clear zl
          obtain ⟨c0, c1, c2⟩ := Bk.c3 G2.out.kp
          obtain ⟨r0, r1, r2, r3, r4, r5, r6⟩ := Bk.c7 G2.out.kv
          have zl := G2.out.kv.lt
          go_wp2_with fail
          go_ret
          exact ⟨ret_bool HV.out.symm, G2.out.bel⟩
        · rw [hs] at CS
          cases ht : inB vt 0 2
          · rw [ht] at CT
            have HV : Hid (A = false) := by unfold Hid; have h := HA.out; rw [ht] at h; simpa using h
            clear hi hl hp hs ht
            go_enter Try.func69, Try.ntmps69
            go_upto_region 1 with (fail)
            generalize (w.alloc (.cells #[.int .i64 b, .int .i64 d, .slice a ps.length cap] 28)).alloc (.cells #[.int .i64 va, .int .i64 vi, .int .i64 vl, .int .i64 vp, .int .i64 vs, .int .i64 vt, .int .i64 vo] 32) = W at *
            obtain ⟨c0, c1, c2⟩ := Bk.c3 G0.out.kp
            obtain ⟨r0, r1, r2, r3, r4, r5, r6⟩ := Bk.c7 G0.out.kv
            have zl := G0.out.kv.lt
            have HBW : Hid (Below W.heap.size W (W.alloc (.cells #[.int .i64 vi] 3)).drew) := (belA _ _).drew
            have kc0 : ∀ p : Kin W.heap.size W, p.v.cell? ⟨w.heap.size, 0, none⟩ = some (.int .i64 b) := kin_cell (by omega) c0
            have kc1 : ∀ p : Kin W.heap.size W, p.v.cell? ⟨w.heap.size, 1, none⟩ = some (.int .i64 d) := kin_cell (by omega) c1
            have kr1 : ∀ p : Kin W.heap.size W, p.v.cell? ⟨w.heap.size + 1, 1, none⟩ = some (.int .i64 vi) := kin_cell (by omega) r1
            refine wp_region_held_drew (S := KinS W.heap.size W) (by kernel_rfl) (kinS_self _ _) (fun hHeld => ?_)
            refine wpAnyH_take (i := 0) (v := ?_) rfl (by kernel_rfl) (by kernel_rfl) (by kernel_rfl) (fun _ _ _ h => h) (Or.inl ⟨by rfl, ?_⟩) (by assumption) ?_
            rotate_left
            · intro w9 hw9
              obtain ⟨p9, rfl⟩ := hw9
              first | (go_simp; done) | (go_simp; rfl)
            simp only [Act.put, List.setIfInBounds_toArray, List.set_cons_zero, List.set_cons_succ]
            refine wpAnyH_take (i := 1) (v := ?_) rfl (by kernel_rfl) (by kernel_rfl) (by kernel_rfl) (fun _ _ _ h => h) (Or.inl ⟨by rfl, ?_⟩) (by assumption) ?_
            rotate_left
            · intro w9 hw9
              obtain ⟨p9, rfl⟩ := hw9
              first | (go_simp; done) | (go_simp; rfl)
            simp only [Act.put, List.setIfInBounds_toArray, List.set_cons_zero, List.set_cons_succ]
            refine wpAnyH_take (i := 2) (v := ?_) rfl (by kernel_rfl) (by kernel_rfl) (by kernel_rfl) (fun _ _ _ h => h) (Or.inl ⟨by rfl, ?_⟩) (by assumption) ?_
            rotate_left
            · intro w9 hw9
              obtain ⟨p9, rfl⟩ := hw9
              first | (go_simp; done) | (go_simp; rfl)
            simp only [Act.put, List.setIfInBounds_toArray, List.set_cons_zero, List.set_cons_succ]
            refine wpAnyH_take (i := 3) (v := ?_) rfl (by kernel_rfl) (by kernel_rfl) (by kernel_rfl) (fun _ _ _ h => h) (Or.inl ⟨by rfl, ?_⟩) (by assumption) ?_
            rotate_left
            · intro w9 hw9
              obtain ⟨p9, rfl⟩ := hw9
              first | (go_simp; done) | (go_simp; rfl)
            simp only [Act.put, List.setIfInBounds_toArray, List.set_cons_zero, List.set_cons_succ]
            refine wpAnyH_ready (rs := [4]) (by kernel_rfl) (by simp) ?_
            refine AllReadyH.cons rfl (fun K hK => ?_) AllReadyH.nil
            go_simp
            refine hK.out _ _ (kinS_of ((belA _ _).drew)) (fun hHeld2 => ?_)
            clear kc0 kc1 kr1 hHeld hHeld2
            have GA := (G0.out.keep (belA W (.cells #[.int .i64 vi] 3))).keep ((Below.refl _ _).drew)
            have zW : Hid ((W.alloc (.cells #[.int .i64 vi] 3)).drew.heap.size = W.heap.size + 1) := by show _ = _; simp
            have cW : (W.alloc (.cells #[.int .i64 vi] 3)).drew.cell? ⟨W.heap.size, 0, none⟩ = some (.int .i64 vi) := by go_simp
            clear c0 c1 c2 r0 r1 r2 r3 r4 r5 r6
            generalize (W.alloc (.cells #[.int .i64 vi] 3)).drew = WA at *
            refine held_quiet (C := fun w' => ∃ p : Kin WA.heap.size WA, w' = p.v) 5 33 (kinS_sub HBW.out (by have := zW.out; omega)) (by kernel_rfl) rfl (by kernel_rfl) ⟨⟨WA, Below.refl _ _⟩, rfl⟩ ?_
            simp only [List.drop_succ_cons, List.drop_zero]
            have hne := kinNe WA.heap.size WA
            have kc0 : ∀ p : Kin WA.heap.size WA, p.v.cell? ⟨w.heap.size, 0, none⟩ = some (.int .i64 b) := kin_cell (by have := zW.out; omega) (GA.kp.cell 0)
            have kc1 : ∀ p : Kin WA.heap.size WA, p.v.cell? ⟨w.heap.size, 1, none⟩ = some (.int .i64 d) := kin_cell (by have := zW.out; omega) (GA.kp.cell 1)
            have kr2 : ∀ p : Kin WA.heap.size WA, p.v.cell? ⟨w.heap.size + 1, 2, none⟩ = some (.int .i64 vl) := kin_cell (by have := zW.out; omega) (GA.kv.cell 2)
            have kr3 : ∀ p : Kin WA.heap.size WA, p.v.cell? ⟨w.heap.size + 1, 3, none⟩ = some (.int .i64 vp) := kin_cell (by have := zW.out; omega) (GA.kv.cell 3)
            have kr4 : ∀ p : Kin WA.heap.size WA, p.v.cell? ⟨w.heap.size + 1, 4, none⟩ = some (.int .i64 vs) := kin_cell (by have := zW.out; omega) (GA.kv.cell 4)
            have kr5 : ∀ p : Kin WA.heap.size WA, p.v.cell? ⟨w.heap.size + 1, 5, none⟩ = some (.int .i64 vt) := kin_cell (by have := zW.out; omega) (GA.kv.cell 5)
            have CV : ∀ p : Kin WA.heap.size WA, Calls Try.prog 65 #[.agg #[.int .i64 b, .int .i64 d], .slice (some ⟨W.heap.size, 0, none⟩) 1 1] p.v fun e w' => e = .returned (.bool (true)) ∧ Below p.v.heap.size p.v w' := fun p => by
              have h := lnums_any b d W.heap.size 0 1 [vi] p.v (by simp [maxLen]) (by have := p.bel.size; have := zW.out; omega) (fun i hi => by
                match i, hi with
                | 0, _ => exact kin_cell (by have := zW.out; omega) cW p)
              rw [numsB_1, HNB.out] at h
              exact h
            repeat (go_big_quiet_step (first | (go_at_call 65; exact kin_of (Nat.le_refl _) (CV _)) | (go_at_call_of 54 (Value.int .i64 vl); exact kin_same (CL _)) | (go_at_call_of 54 (Value.int .i64 vp); exact kin_same (CP _)) | (go_at_call_of 54 (Value.int .i64 vs); exact kin_same (CS _)) | (go_at_call_of 54 (Value.int .i64 vt); exact kin_same (CT _))))
            refine wpQuiet_nil ?_
            intro w2 hw'
            obtain ⟨⟨w9, hw9⟩, hw''⟩ := hw'
            obtain rfl : w2 = w9 := hw''
            have G2 : Hid (GW w w2 #[.int .i64 b, .int .i64 d, .slice a ps.length cap] #[.int .i64 va, .int .i64 vi, .int .i64 vl, .int .i64 vp, .int .i64 vs, .int .i64 vt, .int .i64 vo]) := GA.keep hw9
            clear kc0 kc1 kr2 kr3 kr4 kr5 hne hw9 GA cW CV G0
            clear zl
            obtain ⟨c0, c1, c2⟩ := Bk.c3 G2.out.kp
            obtain ⟨r0, r1, r2, r3, r4, r5, r6⟩ := Bk.c7 G2.out.kv
            have zl := G2.out.kv.lt
            go_wp2_with fail
            go_ret
            exact ⟨ret_bool HV.out.symm, G2.out.bel⟩
          · rw [ht] at CT
            by_cases ht1 : vt = 1
            · have HV : Hid (A = hasB (idsP ps) vo) := by unfold Hid; have h := HA.out; rw [hi, hl, hp, hs, ht, if_pos ht1] at h; simpa using h
              have ht1' : (vt != 1) = false := by rw [ht1]; rfl
              clear hi hl hp hs ht ht1
              go_enter Try.func69, Try.ntmps69
              go_upto_region 1 with (fail)
              generalize (w.alloc (.cells #[.int .i64 b, .int .i64 d, .slice a ps.length cap] 28)).alloc (.cells #[.int .i64 va, .int .i64 vi, .int .i64 vl, .int .i64 vp, .int .i64 vs, .int .i64 vt, .int .i64 vo] 32) = W at *
              obtain ⟨c0, c1, c2⟩ := Bk.c3 G0.out.kp
              obtain ⟨r0, r1, r2, r3, r4, r5, r6⟩ := Bk.c7 G0.out.kv
              have zl := G0.out.kv.lt
              have HBW : Hid (Below W.heap.size W (W.alloc (.cells #[.int .i64 vi] 3)).drew) := (belA _ _).drew
              have kc0 : ∀ p : Kin W.heap.size W, p.v.cell? ⟨w.heap.size, 0, none⟩ = some (.int .i64 b) := kin_cell (by omega) c0
              have kc1 : ∀ p : Kin W.heap.size W, p.v.cell? ⟨w.heap.size, 1, none⟩ = some (.int .i64 d) := kin_cell (by omega) c1
              have kr1 : ∀ p : Kin W.heap.size W, p.v.cell? ⟨w.heap.size + 1, 1, none⟩ = some (.int .i64 vi) := kin_cell (by omega) r1
              refine wp_region_held_drew (S := KinS W.heap.size W) (by kernel_rfl) (kinS_self _ _) (fun hHeld => ?_)
              refine wpAnyH_take (i := 0) (v := ?_) rfl (by kernel_rfl) (by kernel_rfl) (by kernel_rfl) (fun _ _ _ h => h) (Or.inl ⟨by rfl, ?_⟩) (by assumption) ?_
              rotate_left
              · intro w9 hw9
                obtain ⟨p9, rfl⟩ := hw9
                first | (go_simp; done) | (go_simp; rfl)
              simp only [Act.put, List.setIfInBounds_toArray, List.set_cons_zero, List.set_cons_succ]
              refine wpAnyH_take (i := 1) (v := ?_) rfl (by kernel_rfl) (by kernel_rfl) (by kernel_rfl) (fun _ _ _ h => h) (Or.inl ⟨by rfl, ?_⟩) (by assumption) ?_
              rotate_left
              · intro w9 hw9
                obtain ⟨p9, rfl⟩ := hw9
                first | (go_simp; done) | (go_simp; rfl)
              simp only [Act.put, List.setIfInBounds_toArray, List.set_cons_zero, List.set_cons_succ]
              refine wpAnyH_take (i := 2) (v := ?_) rfl (by kernel_rfl) (by kernel_rfl) (by kernel_rfl) (fun _ _ _ h => h) (Or.inl ⟨by rfl, ?_⟩) (by assumption) ?_
              rotate_left
              · intro w9 hw9
                obtain ⟨p9, rfl⟩ := hw9
                first | (go_simp; done) | (go_simp; rfl)
              simp only [Act.put, List.setIfInBounds_toArray, List.set_cons_zero, List.set_cons_succ]
              refine wpAnyH_take (i := 3) (v := ?_) rfl (by kernel_rfl) (by kernel_rfl) (by kernel_rfl) (fun _ _ _ h => h) (Or.inl ⟨by rfl, ?_⟩) (by assumption) ?_
              rotate_left
              · intro w9 hw9
                obtain ⟨p9, rfl⟩ := hw9
                first | (go_simp; done) | (go_simp; rfl)
              simp only [Act.put, List.setIfInBounds_toArray, List.set_cons_zero, List.set_cons_succ]
              refine wpAnyH_ready (rs := [4]) (by kernel_rfl) (by simp) ?_
              refine AllReadyH.cons rfl (fun K hK => ?_) AllReadyH.nil
              go_simp
              refine hK.out _ _ (kinS_of ((belA _ _).drew)) (fun hHeld2 => ?_)
              clear kc0 kc1 kr1 hHeld hHeld2
              have GA := (G0.out.keep (belA W (.cells #[.int .i64 vi] 3))).keep ((Below.refl _ _).drew)
              have zW : Hid ((W.alloc (.cells #[.int .i64 vi] 3)).drew.heap.size = W.heap.size + 1) := by show _ = _; simp
              have cW : (W.alloc (.cells #[.int .i64 vi] 3)).drew.cell? ⟨W.heap.size, 0, none⟩ = some (.int .i64 vi) := by go_simp
              clear c0 c1 c2 r0 r1 r2 r3 r4 r5 r6
              generalize (W.alloc (.cells #[.int .i64 vi] 3)).drew = WA at *
              refine held_quiet (C := fun w' => ∃ p : Kin WA.heap.size WA, w' = p.v) 5 33 (kinS_sub HBW.out (by have := zW.out; omega)) (by kernel_rfl) rfl (by kernel_rfl) ⟨⟨WA, Below.refl _ _⟩, rfl⟩ ?_
              simp only [List.drop_succ_cons, List.drop_zero]
              have hne := kinNe WA.heap.size WA
              have kc0 : ∀ p : Kin WA.heap.size WA, p.v.cell? ⟨w.heap.size, 0, none⟩ = some (.int .i64 b) := kin_cell (by have := zW.out; omega) (GA.kp.cell 0)
              have kc1 : ∀ p : Kin WA.heap.size WA, p.v.cell? ⟨w.heap.size, 1, none⟩ = some (.int .i64 d) := kin_cell (by have := zW.out; omega) (GA.kp.cell 1)
              have kr2 : ∀ p : Kin WA.heap.size WA, p.v.cell? ⟨w.heap.size + 1, 2, none⟩ = some (.int .i64 vl) := kin_cell (by have := zW.out; omega) (GA.kv.cell 2)
              have kr3 : ∀ p : Kin WA.heap.size WA, p.v.cell? ⟨w.heap.size + 1, 3, none⟩ = some (.int .i64 vp) := kin_cell (by have := zW.out; omega) (GA.kv.cell 3)
              have kr4 : ∀ p : Kin WA.heap.size WA, p.v.cell? ⟨w.heap.size + 1, 4, none⟩ = some (.int .i64 vs) := kin_cell (by have := zW.out; omega) (GA.kv.cell 4)
              have kr5 : ∀ p : Kin WA.heap.size WA, p.v.cell? ⟨w.heap.size + 1, 5, none⟩ = some (.int .i64 vt) := kin_cell (by have := zW.out; omega) (GA.kv.cell 5)
              have CV : ∀ p : Kin WA.heap.size WA, Calls Try.prog 65 #[.agg #[.int .i64 b, .int .i64 d], .slice (some ⟨W.heap.size, 0, none⟩) 1 1] p.v fun e w' => e = .returned (.bool (true)) ∧ Below p.v.heap.size p.v w' := fun p => by
                have h := lnums_any b d W.heap.size 0 1 [vi] p.v (by simp [maxLen]) (by have := p.bel.size; have := zW.out; omega) (fun i hi => by
                  match i, hi with
                  | 0, _ => exact kin_cell (by have := zW.out; omega) cW p)
                rw [numsB_1, HNB.out] at h
                exact h
              repeat (go_big_quiet_step (first | (go_at_call 65; exact kin_of (Nat.le_refl _) (CV _)) | (go_at_call_of 54 (Value.int .i64 vl); exact kin_same (CL _)) | (go_at_call_of 54 (Value.int .i64 vp); exact kin_same (CP _)) | (go_at_call_of 54 (Value.int .i64 vs); exact kin_same (CS _)) | (go_at_call_of 54 (Value.int .i64 vt); exact kin_same (CT _))))
              refine wpQuiet_nil ?_
              intro w2 hw'
              obtain ⟨⟨w9, hw9⟩, hw''⟩ := hw'
              obtain rfl : w2 = w9 := hw''
              have G2 : Hid (GW w w2 #[.int .i64 b, .int .i64 d, .slice a ps.length cap] #[.int .i64 va, .int .i64 vi, .int .i64 vl, .int .i64 vp, .int .i64 vs, .int .i64 vt, .int .i64 vo]) := GA.keep hw9
              clear kc0 kc1 kr2 kr3 kr4 kr5 hne hw9 GA cW CV G0
              clear zl
              obtain ⟨c0, c1, c2⟩ := Bk.c3 G2.out.kp
              obtain ⟨r0, r1, r2, r3, r4, r5, r6⟩ := Bk.c7 G2.out.kv
              have zl := G2.out.kv.lt
              go_wp2_with fail
              have gd := G2.out.keep ((Below.refl _ _).drew)
              go_region_held (fun w' => w'.cell? ⟨w.heap.size, 0, none⟩ = some (.int .i64 b) ∧ w'.cell? ⟨w.heap.size, 1, none⟩ = some (.int .i64 d) ∧ w'.cell? ⟨w.heap.size, 2, none⟩ = some (.slice a ps.length cap) ∧ w'.cell? ⟨w.heap.size + 1, 6, none⟩ = some (.int .i64 vo)) (with_reducible (first | exact GW.s4 gd | exact GW.s4 ge)) (first | (go_at_call 94; refine (CM _ gd.bel).mono ?_; rintro e we ⟨a1, cap1, rfl, row1, hwe⟩; have ge := gd.keep hwe) | (go_at_call 93; refine (lhas2 a1 cap1 _ (idsP ps) vo _ hil (by unfold maxLen; omega) row1).mono ?_; rintro e wf ⟨rfl, hwf⟩; subst hwf))
              go_wp2_with fail
              go_ret
              exact ⟨ret_bool HV.out.symm, ge.bel⟩
            · have ht1' : (vt != 1) = true := by simpa using ht1
              have HV : Hid (A = (vo == 0)) := by unfold Hid; have h := HA.out; rw [hi, hl, hp, hs, ht, if_neg ht1] at h; exact (show A = decide (vo = 0) by simpa using h)
              clear hi hl hp hs ht ht1
              go_enter Try.func69, Try.ntmps69
              go_upto_region 1 with (fail)
              generalize (w.alloc (.cells #[.int .i64 b, .int .i64 d, .slice a ps.length cap] 28)).alloc (.cells #[.int .i64 va, .int .i64 vi, .int .i64 vl, .int .i64 vp, .int .i64 vs, .int .i64 vt, .int .i64 vo] 32) = W at *
              obtain ⟨c0, c1, c2⟩ := Bk.c3 G0.out.kp
              obtain ⟨r0, r1, r2, r3, r4, r5, r6⟩ := Bk.c7 G0.out.kv
              have zl := G0.out.kv.lt
              have HBW : Hid (Below W.heap.size W (W.alloc (.cells #[.int .i64 vi] 3)).drew) := (belA _ _).drew
              have kc0 : ∀ p : Kin W.heap.size W, p.v.cell? ⟨w.heap.size, 0, none⟩ = some (.int .i64 b) := kin_cell (by omega) c0
              have kc1 : ∀ p : Kin W.heap.size W, p.v.cell? ⟨w.heap.size, 1, none⟩ = some (.int .i64 d) := kin_cell (by omega) c1
              have kr1 : ∀ p : Kin W.heap.size W, p.v.cell? ⟨w.heap.size + 1, 1, none⟩ = some (.int .i64 vi) := kin_cell (by omega) r1
              refine wp_region_held_drew (S := KinS W.heap.size W) (by kernel_rfl) (kinS_self _ _) (fun hHeld => ?_)
              refine wpAnyH_take (i := 0) (v := ?_) rfl (by kernel_rfl) (by kernel_rfl) (by kernel_rfl) (fun _ _ _ h => h) (Or.inl ⟨by rfl, ?_⟩) (by assumption) ?_
              rotate_left
              · intro w9 hw9
                obtain ⟨p9, rfl⟩ := hw9
                first | (go_simp; done) | (go_simp; rfl)
              simp only [Act.put, List.setIfInBounds_toArray, List.set_cons_zero, List.set_cons_succ]
              refine wpAnyH_take (i := 1) (v := ?_) rfl (by kernel_rfl) (by kernel_rfl) (by kernel_rfl) (fun _ _ _ h => h) (Or.inl ⟨by rfl, ?_⟩) (by assumption) ?_
              rotate_left
              · intro w9 hw9
                obtain ⟨p9, rfl⟩ := hw9
                first | (go_simp; done) | (go_simp; rfl)
              simp only [Act.put, List.setIfInBounds_toArray, List.set_cons_zero, List.set_cons_succ]
              refine wpAnyH_take (i := 2) (v := ?_) rfl (by kernel_rfl) (by kernel_rfl) (by kernel_rfl) (fun _ _ _ h => h) (Or.inl ⟨by rfl, ?_⟩) (by assumption) ?_
              rotate_left
              · intro w9 hw9
                obtain ⟨p9, rfl⟩ := hw9
                first | (go_simp; done) | (go_simp; rfl)
              simp only [Act.put, List.setIfInBounds_toArray, List.set_cons_zero, List.set_cons_succ]
              refine wpAnyH_take (i := 3) (v := ?_) rfl (by kernel_rfl) (by kernel_rfl) (by kernel_rfl) (fun _ _ _ h => h) (Or.inl ⟨by rfl, ?_⟩) (by assumption) ?_
              rotate_left
              · intro w9 hw9
                obtain ⟨p9, rfl⟩ := hw9
                first | (go_simp; done) | (go_simp; rfl)
              simp only [Act.put, List.setIfInBounds_toArray, List.set_cons_zero, List.set_cons_succ]
              refine wpAnyH_ready (rs := [4]) (by kernel_rfl) (by simp) ?_
              refine AllReadyH.cons rfl (fun K hK => ?_) AllReadyH.nil
              go_simp
              refine hK.out _ _ (kinS_of ((belA _ _).drew)) (fun hHeld2 => ?_)
              clear kc0 kc1 kr1 hHeld hHeld2
              have GA := (G0.out.keep (belA W (.cells #[.int .i64 vi] 3))).keep ((Below.refl _ _).drew)
              have zW : Hid ((W.alloc (.cells #[.int .i64 vi] 3)).drew.heap.size = W.heap.size + 1) := by show _ = _; simp
              have cW : (W.alloc (.cells #[.int .i64 vi] 3)).drew.cell? ⟨W.heap.size, 0, none⟩ = some (.int .i64 vi) := by go_simp
              clear c0 c1 c2 r0 r1 r2 r3 r4 r5 r6
              generalize (W.alloc (.cells #[.int .i64 vi] 3)).drew = WA at *
              refine held_quiet (C := fun w' => ∃ p : Kin WA.heap.size WA, w' = p.v) 5 33 (kinS_sub HBW.out (by have := zW.out; omega)) (by kernel_rfl) rfl (by kernel_rfl) ⟨⟨WA, Below.refl _ _⟩, rfl⟩ ?_
              simp only [List.drop_succ_cons, List.drop_zero]
              have hne := kinNe WA.heap.size WA
              have kc0 : ∀ p : Kin WA.heap.size WA, p.v.cell? ⟨w.heap.size, 0, none⟩ = some (.int .i64 b) := kin_cell (by have := zW.out; omega) (GA.kp.cell 0)
              have kc1 : ∀ p : Kin WA.heap.size WA, p.v.cell? ⟨w.heap.size, 1, none⟩ = some (.int .i64 d) := kin_cell (by have := zW.out; omega) (GA.kp.cell 1)
              have kr2 : ∀ p : Kin WA.heap.size WA, p.v.cell? ⟨w.heap.size + 1, 2, none⟩ = some (.int .i64 vl) := kin_cell (by have := zW.out; omega) (GA.kv.cell 2)
              have kr3 : ∀ p : Kin WA.heap.size WA, p.v.cell? ⟨w.heap.size + 1, 3, none⟩ = some (.int .i64 vp) := kin_cell (by have := zW.out; omega) (GA.kv.cell 3)
              have kr4 : ∀ p : Kin WA.heap.size WA, p.v.cell? ⟨w.heap.size + 1, 4, none⟩ = some (.int .i64 vs) := kin_cell (by have := zW.out; omega) (GA.kv.cell 4)
              have kr5 : ∀ p : Kin WA.heap.size WA, p.v.cell? ⟨w.heap.size + 1, 5, none⟩ = some (.int .i64 vt) := kin_cell (by have := zW.out; omega) (GA.kv.cell 5)
              have CV : ∀ p : Kin WA.heap.size WA, Calls Try.prog 65 #[.agg #[.int .i64 b, .int .i64 d], .slice (some ⟨W.heap.size, 0, none⟩) 1 1] p.v fun e w' => e = .returned (.bool (true)) ∧ Below p.v.heap.size p.v w' := fun p => by
                have h := lnums_any b d W.heap.size 0 1 [vi] p.v (by simp [maxLen]) (by have := p.bel.size; have := zW.out; omega) (fun i hi => by
                  match i, hi with
                  | 0, _ => exact kin_cell (by have := zW.out; omega) cW p)
                rw [numsB_1, HNB.out] at h
                exact h
              repeat (go_big_quiet_step (first | (go_at_call 65; exact kin_of (Nat.le_refl _) (CV _)) | (go_at_call_of 54 (Value.int .i64 vl); exact kin_same (CL _)) | (go_at_call_of 54 (Value.int .i64 vp); exact kin_same (CP _)) | (go_at_call_of 54 (Value.int .i64 vs); exact kin_same (CS _)) | (go_at_call_of 54 (Value.int .i64 vt); exact kin_same (CT _))))
              refine wpQuiet_nil ?_
              intro w2 hw'
              obtain ⟨⟨w9, hw9⟩, hw''⟩ := hw'
              obtain rfl : w2 = w9 := hw''
              have G2 : Hid (GW w w2 #[.int .i64 b, .int .i64 d, .slice a ps.length cap] #[.int .i64 va, .int .i64 vi, .int .i64 vl, .int .i64 vp, .int .i64 vs, .int .i64 vt, .int .i64 vo]) := GA.keep hw9
              clear kc0 kc1 kr2 kr3 kr4 kr5 hne hw9 GA cW CV G0
              clear zl
              obtain ⟨c0, c1, c2⟩ := Bk.c3 G2.out.kp
              obtain ⟨r0, r1, r2, r3, r4, r5, r6⟩ := Bk.c7 G2.out.kv
              have zl := G2.out.kv.lt
              go_wp2_with fail
              go_ret
              exact ⟨ret_bool HV.out.symm, G2.out.bel⟩
set_option maxRecDepth 100000 in
set_option maxHeartbeats 1600000 in
theorem lGoodWalk_any (b d : Int) (a : Option Addr) (cap : Nat) (ps : List Pr) (k : Int) (v : Wk) (w : World) (hm : ps.length ≤ 1048576) (hr : PeersAt w a ps) :
    Calls Try.prog 29 #[.agg #[.int .i64 b, .int .i64 d, .slice a ps.length cap], .int .i64 k, .agg v.cells] w fun e w' => e = .returned (.bool (goodW b d ps k v)) ∧ Below w.heap.size w w' := by
  obtain ⟨va, vi, vl, vp, vs, vt, vo⟩ := v
  show Calls _ _ #[.agg #[.int .i64 b, .int .i64 d, .slice a ps.length cap], .int .i64 k, .agg #[.int .i64 va, .int .i64 vi, .int .i64 vl, .int .i64 vp, .int .i64 vs, .int .i64 vt, .int .i64 vo]] _ _
  have G0 : Hid (GW w ((w.alloc (.cells #[.int .i64 b, .int .i64 d, .slice a ps.length cap] 28)).alloc (.cells #[.int .i64 va, .int .i64 vi, .int .i64 vl, .int .i64 vp, .int .i64 vs, .int .i64 vt, .int .i64 vo] 32)) #[.int .i64 b, .int .i64 d, .slice a ps.length cap] #[.int .i64 va, .int .i64 vi, .int .i64 vl, .int .i64 vp, .int .i64 vs, .int .i64 vt, .int .i64 vo]) := gw0 w _ _
  have CG := lasked4_any b d a cap ps va k _ hm (hr.keep G0.out.bel)
  have HA : Hid (goodW b d ps k ⟨va, vi, vl, vp, vs, vt, vo⟩ = (askP b d ps va k && wkB b d ps ⟨va, vi, vl, vp, vs, vt, vo⟩)) := rfl
  cases hk : askP b d ps va k
  · rw [hk] at CG
    have HV : Hid (goodW b d ps k ⟨va, vi, vl, vp, vs, vt, vo⟩ = false) := by unfold Hid; rw [HA.out, hk]; rfl
    generalize goodW b d ps k ⟨va, vi, vl, vp, vs, vt, vo⟩ = A at *
    clear hk
    go_enter Try.func29, Try.ntmps29
    go_wp2_with fail
    refine CG.mono ?_
    rintro e w1 ⟨rfl, hx⟩
    have G1 : Hid (GW w w1 #[.int .i64 b, .int .i64 d, .slice a ps.length cap] #[.int .i64 va, .int .i64 vi, .int .i64 vl, .int .i64 vp, .int .i64 vs, .int .i64 vt, .int .i64 vo]) := G0.out.keep hx
    go_wp2_with fail
    go_ret
    exact ⟨ret_bool HV.out.symm, G1.out.bel⟩
  · rw [hk] at CG
    have CW : ∀ w1, Below w.heap.size w w1 → Calls Try.prog 69 #[.agg #[.int .i64 b, .int .i64 d, .slice a ps.length cap], .agg #[.int .i64 va, .int .i64 vi, .int .i64 vl, .int .i64 vp, .int .i64 vs, .int .i64 vt, .int .i64 vo]] w1 fun e w' => e = .returned (.bool (wkB b d ps ⟨va, vi, vl, vp, vs, vt, vo⟩)) ∧ Below w1.heap.size w1 w' := fun w1 hb => lgoodw_any b d a cap ps ⟨va, vi, vl, vp, vs, vt, vo⟩ w1 (askP_parts hk).1 (hr.keep hb)
    have HV : Hid (goodW b d ps k ⟨va, vi, vl, vp, vs, vt, vo⟩ = wkB b d ps ⟨va, vi, vl, vp, vs, vt, vo⟩) := by unfold Hid; rw [HA.out, hk]; rfl
    generalize goodW b d ps k ⟨va, vi, vl, vp, vs, vt, vo⟩ = A at *
    generalize wkB b d ps ⟨va, vi, vl, vp, vs, vt, vo⟩ = B at *
    clear hk hr
    go_enter Try.func29, Try.ntmps29
    go_wp2_with fail
    refine CG.mono ?_
    rintro e w1 ⟨rfl, hx⟩
    have G1 : Hid (GW w w1 #[.int .i64 b, .int .i64 d, .slice a ps.length cap] #[.int .i64 va, .int .i64 vi, .int .i64 vl, .int .i64 vp, .int .i64 vs, .int .i64 vt, .int .i64 vo]) := G0.out.keep hx
    clear hx G0 CG
    obtain ⟨c0, c1, c2⟩ := Bk.c3 G1.out.kp
    obtain ⟨r0, r1, r2, r3, r4, r5, r6⟩ := Bk.c7 G1.out.kv
    go_wp2_with fail
    refine (CW _ G1.out.bel).mono ?_
    rintro e w2 ⟨rfl, hx⟩
    go_wp2_with fail
    go_ret
    exact ⟨ret_bool HV.out.symm, belt G1.out.bel hx⟩
end Go.Proofs.Ytejajlloipkkhaa
