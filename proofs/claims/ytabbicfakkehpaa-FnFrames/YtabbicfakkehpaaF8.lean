/- GoodMsg of the program. -/
import Derived.Test.YtabbicfakkehpaaF7
namespace Go.Proofs.Ytabbicfakkehpaa
open Go.RowKit Go.Deep
set_option linter.unusedVariables false
set_option linter.unusedSimpArgs false
/-- onlyFields at work: block g is the message, the next two are the answer and the copy -/
structure OFS (w wr : World) (P : Array Value) (T : Nat) (aF : Option Addr) (nF : Nat) (F : List Int) : Prop where
  bel : Below w.heap.size w wr
  kr : Bk wr w.heap.size #[.int .i64 0, .int .i64 0, .int .i64 0, .int .i64 0, .int .i64 0, .int .i64 0, .int .i64 0, .int .i64 0, .slice none 0 0] 33
  kx : Bk wr (w.heap.size + 1) P 33
  fl : OwnLs (w.heap.size + 2) T wr aF nF F
theorem OFS.put {w wr : World} {P : Array Value} {T : Nat} {aF : Option Addr} {nF : Nat} {F : List Int} (h : OFS w wr P T aF nF F) (i : Nat) (v : Value) : OFS w (wr.setCell ⟨w.heap.size + 1, i, none⟩ v) (P.setIfInBounds i v) T aF nF F :=
  ⟨h.bel.setCell (p := ⟨w.heap.size + 1, i, none⟩) (by simp) v, h.kr.oth (by omega) i v, h.kx.set i v, h.fl.blocks (fun k h1 h2 h3 => heap_setCell_other _ _ _ _ (by simp; omega))⟩
set_option maxRecDepth 100000 in
set_option maxHeartbeats 3200000 in
theorem onlyFields_any (g : Nat) (x0 x1 x2 x3 x4 x5 x6 x7 : Int) (sa : Option Addr) (sn sc : Nat) (w : World) (hg : Bk w g #[.int .i64 x0, .int .i64 x1, .int .i64 x2, .int .i64 x3, .int .i64 x4, .int .i64 x5, .int .i64 x6, .int .i64 x7, .slice sa sn sc] 33) :
    Calls Try.prog 56 #[.pointer (some ⟨g, 0, none⟩)] w fun e w' => e = .returned (.agg (pC (fld x0) (fld x0).length x0 x1 x2 x3 x4 x5 x6 x7 (.slice sa sn sc))) ∧ Below w.heap.size w w' := by
  have HG : Hid (Bk w g #[.int .i64 x0, .int .i64 x1, .int .i64 x2, .int .i64 x3, .int .i64 x4, .int .i64 x5, .int .i64 x6, .int .i64 x7, .slice sa sn sc] 33) := hg
  have hlt := hg.lt
  clear hg
  go_enter Try.func56, Try.ntmps56
  go_wp2_with fail
  have HG1 : Hid (Bk (w.alloc (.cells #[.int .i64 0, .int .i64 0, .int .i64 0, .int .i64 0, .int .i64 0, .int .i64 0, .int .i64 0, .int .i64 0, .slice none 0 0] 33)) g #[.int .i64 x0, .int .i64 x1, .int .i64 x2, .int .i64 x3, .int .i64 x4, .int .i64 x5, .int .i64 x6, .int .i64 x7, .slice sa sn sc] 33) := HG.out.alloc _
  have HB1 : Hid (Below w.heap.size w (w.alloc (.cells #[.int .i64 0, .int .i64 0, .int .i64 0, .int .i64 0, .int .i64 0, .int .i64 0, .int .i64 0, .int .i64 0, .slice none 0 0] 33))) := (Below.refl _ _).alloc (Nat.le_refl _) _
  have HR1 : Hid (Bk (w.alloc (.cells #[.int .i64 0, .int .i64 0, .int .i64 0, .int .i64 0, .int .i64 0, .int .i64 0, .int .i64 0, .int .i64 0, .slice none 0 0] 33)) w.heap.size #[.int .i64 0, .int .i64 0, .int .i64 0, .int .i64 0, .int .i64 0, .int .i64 0, .int .i64 0, .int .i64 0, .slice none 0 0] 33) := Bk.new _ _ _
  have hs1 : (w.alloc (.cells #[.int .i64 0, .int .i64 0, .int .i64 0, .int .i64 0, .int .i64 0, .int .i64 0, .int .i64 0, .int .i64 0, .slice none 0 0] 33)).heap.size = w.heap.size + 1 := by simp
  generalize w.alloc (.cells #[.int .i64 0, .int .i64 0, .int .i64 0, .int .i64 0, .int .i64 0, .int .i64 0, .int .i64 0, .int .i64 0, .slice none 0 0] 33) = w1 at *
  refine wp_region_held_drew (S := fun w' => Below w1.heap.size w1 w') (by kernel_rfl) ((Below.refl _ _).drew) (fun hs0 => ?_)
  refine wpAnyH_take (i := 0) (oi := _) (v := _) rfl (by kernel_rfl) (by kernel_rfl) (by kernel_rfl) (fun _ _ _ h => h) (.inl ⟨by rfl, by intro w hSw; go_simp; with_reducible rfl⟩) hs0 ?_
  simp only [Act.put, List.setIfInBounds_toArray, List.set_cons_zero, List.set_cons_succ]
  refine wpAnyH_take (i := 1) (oi := _) (v := _) rfl (by kernel_rfl) (by kernel_rfl) (by kernel_rfl) (fun _ _ _ h => h) (.inl ⟨by rfl, by intro w hSw; go_simp; with_reducible rfl⟩) hs0 ?_
  simp only [Act.put, List.setIfInBounds_toArray, List.set_cons_zero, List.set_cons_succ]
  refine wpAnyH_take (i := 2) (oi := _) (v := _) rfl (by kernel_rfl) (by kernel_rfl) (by kernel_rfl) (fun _ _ _ h => h) (.inl ⟨by rfl, by intro w hSw; go_simp; with_reducible rfl⟩) hs0 ?_
  simp only [Act.put, List.setIfInBounds_toArray, List.set_cons_zero, List.set_cons_succ]
  refine wpAnyH_take (i := 3) (oi := _) (v := _) rfl (by kernel_rfl) (by kernel_rfl) (by kernel_rfl) (fun _ _ _ h => h) (.inl ⟨by rfl, by intro w' hSw; have hc := Bk.cell (HG1.out.keep hSw) 0; simp at hc; go_simp; with_reducible rfl⟩) hs0 ?_
  simp only [Act.put, List.setIfInBounds_toArray, List.set_cons_zero, List.set_cons_succ]
  refine wpAnyH_take (i := 4) (oi := _) (v := _) rfl (by kernel_rfl) (by kernel_rfl) (by kernel_rfl) (fun _ _ _ h => h) (.inl ⟨by rfl, by intro w hSw; go_simp; with_reducible rfl⟩) hs0 ?_
  simp only [Act.put, List.setIfInBounds_toArray, List.set_cons_zero, List.set_cons_succ]
  refine wpAnyH_take (i := 5) (oi := _) (v := _) rfl (by kernel_rfl) (by kernel_rfl) (by kernel_rfl) (fun _ _ _ h => h) (.inl ⟨by rfl, by intro w hSw; go_simp; with_reducible rfl⟩) hs0 ?_
  simp only [Act.put, List.setIfInBounds_toArray, List.set_cons_zero, List.set_cons_succ]
  refine wpAnyH_take (i := 6) (oi := _) (v := _) rfl (by kernel_rfl) (by kernel_rfl) (by kernel_rfl) (fun _ _ _ h => h) (.inl ⟨by rfl, by intro w hSw; go_simp; with_reducible rfl⟩) hs0 ?_
  simp only [Act.put, List.setIfInBounds_toArray, List.set_cons_zero, List.set_cons_succ]
  refine wpAnyH_take (i := 7) (oi := _) (v := _) rfl (by kernel_rfl) (by kernel_rfl) (by kernel_rfl) (fun _ _ _ h => h) (.inl ⟨by rfl, by intro w' hSw; have hc := Bk.cell (HG1.out.keep hSw) 1; simp at hc; go_simp; with_reducible rfl⟩) hs0 ?_
  simp only [Act.put, List.setIfInBounds_toArray, List.set_cons_zero, List.set_cons_succ]
  refine wpAnyH_take (i := 8) (oi := _) (v := _) rfl (by kernel_rfl) (by kernel_rfl) (by kernel_rfl) (fun _ _ _ h => h) (.inl ⟨by rfl, by intro w hSw; go_simp; with_reducible rfl⟩) hs0 ?_
  simp only [Act.put, List.setIfInBounds_toArray, List.set_cons_zero, List.set_cons_succ]
  refine wpAnyH_take (i := 9) (oi := _) (v := _) rfl (by kernel_rfl) (by kernel_rfl) (by kernel_rfl) (fun _ _ _ h => h) (.inl ⟨by rfl, by intro w hSw; go_simp; with_reducible rfl⟩) hs0 ?_
  simp only [Act.put, List.setIfInBounds_toArray, List.set_cons_zero, List.set_cons_succ]
  refine wpAnyH_take (i := 10) (oi := _) (v := _) rfl (by kernel_rfl) (by kernel_rfl) (by kernel_rfl) (fun _ _ _ h => h) (.inl ⟨by rfl, by intro w hSw; go_simp; with_reducible rfl⟩) hs0 ?_
  simp only [Act.put, List.setIfInBounds_toArray, List.set_cons_zero, List.set_cons_succ]
  refine wpAnyH_take (i := 11) (oi := _) (v := _) rfl (by kernel_rfl) (by kernel_rfl) (by kernel_rfl) (fun _ _ _ h => h) (.inl ⟨by rfl, by intro w' hSw; have hc := Bk.cell (HG1.out.keep hSw) 2; simp at hc; go_simp; with_reducible rfl⟩) hs0 ?_
  simp only [Act.put, List.setIfInBounds_toArray, List.set_cons_zero, List.set_cons_succ]
  refine wpAnyH_take (i := 12) (oi := _) (v := _) rfl (by kernel_rfl) (by kernel_rfl) (by kernel_rfl) (fun _ _ _ h => h) (.inl ⟨by rfl, by intro w hSw; go_simp; with_reducible rfl⟩) hs0 ?_
  simp only [Act.put, List.setIfInBounds_toArray, List.set_cons_zero, List.set_cons_succ]
  refine wpAnyH_take (i := 13) (oi := _) (v := _) rfl (by kernel_rfl) (by kernel_rfl) (by kernel_rfl) (fun _ _ _ h => h) (.inl ⟨by rfl, by intro w hSw; go_simp; with_reducible rfl⟩) hs0 ?_
  simp only [Act.put, List.setIfInBounds_toArray, List.set_cons_zero, List.set_cons_succ]
  refine wpAnyH_take (i := 14) (oi := _) (v := _) rfl (by kernel_rfl) (by kernel_rfl) (by kernel_rfl) (fun _ _ _ h => h) (.inl ⟨by rfl, by intro w hSw; go_simp; with_reducible rfl⟩) hs0 ?_
  simp only [Act.put, List.setIfInBounds_toArray, List.set_cons_zero, List.set_cons_succ]
  refine wpAnyH_take (i := 15) (oi := _) (v := _) rfl (by kernel_rfl) (by kernel_rfl) (by kernel_rfl) (fun _ _ _ h => h) (.inl ⟨by rfl, by intro w' hSw; have hc := Bk.cell (HG1.out.keep hSw) 3; simp at hc; go_simp; with_reducible rfl⟩) hs0 ?_
  simp only [Act.put, List.setIfInBounds_toArray, List.set_cons_zero, List.set_cons_succ]
  refine wpAnyH_take (i := 16) (oi := _) (v := _) rfl (by kernel_rfl) (by kernel_rfl) (by kernel_rfl) (fun _ _ _ h => h) (.inl ⟨by rfl, by intro w hSw; go_simp; with_reducible rfl⟩) hs0 ?_
  simp only [Act.put, List.setIfInBounds_toArray, List.set_cons_zero, List.set_cons_succ]
  refine wpAnyH_ready (rs := [17]) (by kernel_rfl) (by simp) ?_
  refine AllReadyH.cons rfl (fun K hK => ?_) AllReadyH.nil
  go_simp
  refine hK.out _ _ (((Below.refl _ _).alloc (Nat.le_refl _) _).drew) (fun _ => ?_)
  clear hK K
  refine wpAnyH_ready (rs := [18]) (by kernel_rfl) (by simp) ?_
  refine AllReadyH.cons rfl (fun K hK => ?_) AllReadyH.nil
  go_simp
  refine hK.out _ _ (((Below.refl _ _).alloc (Nat.le_refl _) _).drew) (fun _ => ?_)
  clear hK K
  refine wpAnyH_done (by kernel_rfl) ?_ _
  have S2 : Hid (OFS w (w1.alloc (.cells #[.int .i64 x0, .int .i64 x1, .int .i64 x2, .int .i64 x3, .int .i64 0, .int .i64 0, .int .i64 0, .int .i64 0, .slice none 0 0] 33)).drew #[.int .i64 x0, .int .i64 x1, .int .i64 x2, .int .i64 x3, .int .i64 0, .int .i64 0, .int .i64 0, .int .i64 0, .slice none 0 0] 0 none 0 []) := by
    have k := Bk.new w1 #[.int .i64 x0, .int .i64 x1, .int .i64 x2, .int .i64 x3, .int .i64 0, .int .i64 0, .int .i64 0, .int .i64 0, .slice none 0 0] 33
    rw [hs1] at k
    exact ⟨(HB1.out.alloc (by omega) _).drew, (HR1.out.alloc _).drew, k.drew, rfl, .inl rfl⟩
  generalize (w1.alloc (.cells #[.int .i64 x0, .int .i64 x1, .int .i64 x2, .int .i64 x3, .int .i64 0, .int .i64 0, .int .i64 0, .int .i64 0, .slice none 0 0] 33)).drew = w2 at *
  clear HG1 HB1 HR1 hs1 hs0
  obtain ⟨q0, q1, q2, q3, q4, q5, q6, q7, q8⟩ := Bk.c9 (HG.out.keepN S2.out.bel hlt)
  go_wp2_with fail
  refine (fieldsOf_any x0 _).mono ?_
  rintro e w3 ⟨aF, nF, cF, rfl, hnF, hcF, oF, hw⟩
  clear q0 q1 q2 q3 q4 q5 q6 q7 q8
  have S3 : Hid (OFS w w3 (pC (fld x0) 0 x0 x1 x2 x3 x4 x5 x6 x7 (.slice sa sn sc)) w3.heap.size aF nF (fld x0)) := by
    rw [pC_zero]
    have hl := S2.out.kx.lt
    exact ⟨S2.out.bel.trans (hw.mono S2.out.bel.size), S2.out.kr.keep hw, S2.out.kx.keep hw, oF.wide (by omega) (Nat.le_refl _)⟩
  clear S2 hw oF
  generalize w3.heap.size = T3 at S3
  go_wp2_with fail
  have hF4 := fld_big x0
  go_loopw [29] (fun vi wr => ∃ j : Nat, j ≤ nF ∧ vi = .int .i64 j ∧ Hid (OFS w wr (pC (fld x0) j x0 x1 x2 x3 x4 x5 x6 x7 (.slice sa sn sc)) T3 aF nF (fld x0))) (fun vi _ => nF - (intOf vi).toNat)
  case atStart => exact ⟨0, Nat.zero_le _, rfl, S3⟩
  case round =>
    obtain ⟨j, hj, rfl, S⟩ := hrel
    by_cases hlt2 : j < nF
    · have hmem := fld_mem x0 j (by omega)
      obtain ⟨bk, off, hform⟩ := rowAt_form S.out.fl.rowAt (by omega)
      subst hform
      have hc1 := (rowAt_cell S.out.fl.rowAt (by omega)).2 j (by omega)
      by_cases h5 : (fld x0).getD j 0 = 5
      · have SN : Hid (OFS w (wr.setCell ⟨w.heap.size + 1, 8, none⟩ (.slice sa sn sc)) (pC (fld x0) (j + 1) x0 x1 x2 x3 x4 x5 x6 x7 (.slice sa sn sc)) T3 (some ⟨bk, off, none⟩) nF (fld x0)) := by
          have h := S.out.put 8 (.slice sa sn sc)
          rw [pC_list (by omega) _ _ _ _ _ _ _ _ (.slice sa sn sc) h5] at h
          exact h
        have hf : (((fld x0).getD j 0) == 5) = true := by rw [h5]; rfl
        have hs8 : wr.cell? ⟨g, 8, none⟩ = some (.slice sa sn sc) := (HG.out.keepN S.out.bel hlt).cell 8
        have hx8 := S.out.kx.cell 8
        have hf8 := S.out.kx.fr 8
        obtain ⟨vo, hvo⟩ : ∃ vo, pS (fld x0) j (.slice sa sn sc) = vo := ⟨_, rfl⟩
        have hx8' : (pC (fld x0) j x0 x1 x2 x3 x4 x5 x6 x7 (.slice sa sn sc))[8]? = some (pS (fld x0) j (.slice sa sn sc)) := rfl
        rw [hx8', hvo] at hx8
        clear hx8' h5 hvo
        generalize (fld x0).getD j 0 = f at hc1 hf hmem
        go_wp2
        go_roundw
        case rel => exact ⟨j + 1, by omega, by go_num, SN⟩
        case measure => simp [intOf]; omega
      · have SN : Hid (OFS w (wr.setCell ⟨w.heap.size + 1, fo ((fld x0).getD j 0), none⟩ (.int .i64 (vf x4 x5 x6 x7 ((fld x0).getD j 0)))) (pC (fld x0) (j + 1) x0 x1 x2 x3 x4 x5 x6 x7 (.slice sa sn sc)) T3 (some ⟨bk, off, none⟩) nF (fld x0)) := by
          have h := S.out.put (fo ((fld x0).getD j 0)) (.int .i64 (vf x4 x5 x6 x7 ((fld x0).getD j 0)))
          rw [pC_step (by omega) _ _ _ _ _ _ _ _ (.slice sa sn sc) hmem.1 hmem.2 h5] at h
          exact h
        have hf : (((fld x0).getD j 0) == 5) = false := beq_eq_false_iff_ne.2 h5
        have hs8 : wr.cell? ⟨g, fo ((fld x0).getD j 0), none⟩ = some (.int .i64 (vf x4 x5 x6 x7 ((fld x0).getD j 0))) := ((HG.out.keepN S.out.bel hlt).cell _).trans (vf_cell _ _ _ _ _ _ _ _ _ _)
        obtain ⟨vx, hx8⟩ : ∃ vx, wr.cell? ⟨w.heap.size + 1, fo ((fld x0).getD j 0), none⟩ = some vx := ⟨_, (S.out.kx.cell _).trans (vf_cell _ _ _ _ _ _ _ _ _ _)⟩
        have hf8 := S.out.kx.fr (fo ((fld x0).getD j 0))
        clear h5
        generalize (fld x0).getD j 0 = f at *
        go_wp2_with fail
        refine (numberAt_any _ _ _).mono ?_
        rintro e wx ⟨rfl, hx⟩
        have hx' := hx.symm
        clear hx
        subst hx'
        go_wp2_with fail
        refine (numberAt_any _ _ _).mono ?_
        rintro e wx ⟨rfl, hx⟩
        have hx' := hx.symm
        clear hx
        subst hx'
        go_wp2
        go_roundw
        case rel => exact ⟨j + 1, by omega, by go_num, SN⟩
        case measure => simp [intOf]; omega
    · obtain rfl : j = (fld x0).length := by omega
      obtain ⟨pa, pn, pc, hps⟩ : ∃ pa pn pc, pS (fld x0) (fld x0).length (.slice sa sn sc) = .slice pa pn pc := by
        unfold pS
        split
        · exact ⟨_, _, _, rfl⟩
        · exact ⟨_, _, _, rfl⟩
      have KX : Hid (Bk wr (w.heap.size + 1) #[.int .i64 x0, .int .i64 x1, .int .i64 x2, .int .i64 x3, .int .i64 (pv (fld x0) (fld x0).length 1 x4), .int .i64 (pv (fld x0) (fld x0).length 2 x5), .int .i64 (pv (fld x0) (fld x0).length 3 x6), .int .i64 (pv (fld x0) (fld x0).length 4 x7), .slice pa pn pc] 33) := by
        have h := S.out.kx
        unfold pC at h
        rw [hps] at h
        exact h
      have KR : Hid (Bk wr w.heap.size #[.int .i64 0, .int .i64 0, .int .i64 0, .int .i64 0, .int .i64 0, .int .i64 0, .int .i64 0, .int .i64 0, .slice none 0 0] 33) := S.out.kr
      have KB : Hid (Below w.heap.size w wr) := S.out.bel
      have KP : Hid (pC (fld x0) (fld x0).length x0 x1 x2 x3 x4 x5 x6 x7 (.slice sa sn sc) = #[.int .i64 x0, .int .i64 x1, .int .i64 x2, .int .i64 x3, .int .i64 (pv (fld x0) (fld x0).length 1 x4), .int .i64 (pv (fld x0) (fld x0).length 2 x5), .int .i64 (pv (fld x0) (fld x0).length 3 x6), .int .i64 (pv (fld x0) (fld x0).length 4 x7), .slice pa pn pc]) := by
        unfold Hid pC
        rw [hps]
      clear S S3 hps
      generalize pv (fld x0) (fld x0).length 1 x4 = z4 at *
      generalize pv (fld x0) (fld x0).length 2 x5 = z5 at *
      generalize pv (fld x0) (fld x0).length 3 x6 = z6 at *
      generalize pv (fld x0) (fld x0).length 4 x7 = z7 at *
      have l2 := KX.out.lt
      obtain ⟨r0, r1, r2, r3, r4, r5, r6, r7, r8⟩ := Bk.c9 KX.out
      obtain ⟨t0, t1, t2, t3, t4, t5, t6, t7, t8⟩ := Bk.c9 KR.out
      obtain ⟨f0, f1, f2, f3, f4, f5, f6, f7, f8⟩ := Bk.f9 KR.out
      go_wp2
      have E1 := KR.out.setL [.int .i64 x0, .int .i64 x1, .int .i64 x2, .int .i64 x3, .int .i64 z4, .int .i64 z5, .int .i64 z6, .int .i64 z7, .slice pa pn pc] 0
      rw [ovr9] at E1
      have E2 := setL_below (g := w.heap.size) (Nat.le_refl w.heap.size) [.int .i64 x0, .int .i64 x1, .int .i64 x2, .int .i64 x3, .int .i64 z4, .int .i64 z5, .int .i64 z6, .int .i64 z7, .slice pa pn pc] 0 KB.out
      refine bodyPost_ret (results_cell_row Try.results56 _ _ w.heap.size _ _ _ _ rfl E1 Try.underlying33 rfl (by kernel_rfl)) rfl ⟨by rw [KP.out], E2⟩
end Go.Proofs.Ytabbicfakkehpaa
