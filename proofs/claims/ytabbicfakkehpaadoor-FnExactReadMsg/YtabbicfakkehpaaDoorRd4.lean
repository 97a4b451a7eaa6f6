/- The specification reads the fields of a text. -/
import Derived.Test.YtabbicfakkehpaaDoorRd3
import Derived.Deep.DeepCutAuto
namespace Go.Proofs.YtabbicfakkehpaaDoor
open Go.RowKit Go.Deep
set_option linter.unusedVariables false
set_option linter.unusedSimpArgs false
theorem own_alloc2 {w : World} {B : Nat} {v : Value} {n : Nat} {xs : List Value} (h : w.ownsRow B 3 1 v n xs) (o : Obj) : (w.alloc o).ownsRow B 3 1 v n xs := World.ownsRow.alloc h o
theorem int_new1 (w : World) (x : Int) : ∀ j u, ([.int .i64 x] : List Value)[j]? = some u → (w.alloc (.cells #[.int .i64 x] 3)).cell? ((⟨w.heap.size, 0, none⟩ : Addr).add j) = some u := by
  intro j u hj
  have e : (⟨w.heap.size, 0, none⟩ : Addr).add j = ⟨w.heap.size, j, none⟩ := by unfold Addr.add; split <;> simp_all
  rw [e, cell_of_row _ _ _ _ _ _ (heap_alloc_new w (.cells #[.int .i64 x] 3))]
  simpa using hj
theorem wrap_in {x : Int} (h0 : 0 ≤ x) (h1 : x ≤ 100000) : IntKind.i64.wrap x = x := by
  rw [IntKind.wrap_i64]
  omega
theorem wrap_10 (k : Nat) (h : k ≤ 1000) : IntKind.i64.wrap (IntKind.i64.wrap 10 + IntKind.i64.wrap (2 * (k : Int))) = ((10 + 2 * k : Nat) : Int) := by
  have e1 : IntKind.i64.wrap 10 = 10 := wrap_in (by omega) (by omega)
  have e2 : IntKind.i64.wrap (2 * (k : Int)) = 2 * (k : Int) := wrap_in (by omega) (by omega)
  rw [e1, e2, wrap_in (by omega) (by omega)]
  omega
theorem wrap_b {n : Nat} (h : n < 2 ^ 8) : IntKind.i64.wrap (n : Int) = (n : Int) := by
  rw [IntKind.wrap_i64]
  omega
theorem lAt3 (s : ByteArray) (w : World) (h : 6 < s.size) (hs : s.size ≤ 1048576) : Calls Tryd.prog 22 #[.string s, .int .i64 3] w fun e w' => e = .returned (.int .i64 (a2 s 3)) ∧ Below w.heap.size w w' := lAt_any s 3 w (by omega) hs
theorem lAt5 (s : ByteArray) (w : World) (h : 6 < s.size) (hs : s.size ≤ 1048576) : Calls Tryd.prog 22 #[.string s, .int .i64 5] w fun e w' => e = .returned (.int .i64 (a2 s 5)) ∧ Below w.heap.size w w' := lAt_any s 5 w (by omega) hs
theorem fld_mem2 (k : Int) (j : Nat) (hj : j < (fld k).length) : 1 ≤ (fld k).getD j 0 ∧ (fld k).getD j 0 ≤ 5 := by
  have h := fld_mem k j hj
  omega
set_option maxRecDepth 100000 in
set_option maxHeartbeats 12800000 in
theorem lTake_any (s : ByteArray) (w : World) (hs : s.size ≤ 1048576) (h6 : 6 < s.size) (hp0 : ∀ j, j < (fld (bt s 1)).length → ¬ (fld (bt s 1)).getD j 0 = 5 → 7 + 2 * j + 1 < s.size) (hl0 : bt s 1 = 5 → 9 < s.size ∧ 10 + 2 * (bt s 9).toNat ≤ s.size) :
    Calls Tryd.prog 13 #[.string s] w fun e w' => ∃ va vn vc, e = .returned (.agg #[.int .i64 (bt s 1), .int .i64 (bt s 2), .int .i64 (a2 s 3), .int .i64 (a2 s 5), .int .i64 (fv s (fld (bt s 1)) (fld (bt s 1)).length 1), .int .i64 (fv s (fld (bt s 1)) (fld (bt s 1)).length 2), .int .i64 (fv s (fld (bt s 1)) (fld (bt s 1)).length 3), .int .i64 (fv s (fld (bt s 1)) (fld (bt s 1)).length 4), .slice va vn vc]) ∧ (fL s (fld (bt s 1)) (fld (bt s 1)).length).length = vn ∧ OwnLs w.heap.size w'.heap.size w' va vn (fL s (fld (bt s 1)) (fld (bt s 1)).length) ∧ Below w.heap.size w w' := by
  have hb1 : Hid (IntKind.i64.wrap (s[1].toNat : Int) = bt s 1) := (wrap_b (UInt8.toNat_lt _)).trans (bt_eq (by omega)).symm
  have hb2 : Hid (IntKind.i64.wrap (s[2].toNat : Int) = bt s 2) := (wrap_b (UInt8.toNat_lt _)).trans (bt_eq (by omega)).symm
  have p1 : 1 < s.size := by omega
  have p2 : 2 < s.size := by omega
  obtain ⟨i0, hi, hieq⟩ := Option.map_eq_some_iff.1 info_int
  obtain ⟨hz0, hz1, hz2⟩ : i0.zero = some (.int .i64 0) ∧ i0.size = 1 ∧ i0.bytes = 8 := by simpa using hieq
  clear hieq
  go_enter Tryd.func13, Tryd.ntmps13
  go_wp2_with fail
  have KR : Hid (Bk (w.alloc (.cells #[.int .i64 0, .int .i64 0, .int .i64 0, .int .i64 0, .int .i64 0, .int .i64 0, .int .i64 0, .int .i64 0, .slice none 0 0] 26)) w.heap.size #[.int .i64 0, .int .i64 0, .int .i64 0, .int .i64 0, .int .i64 0, .int .i64 0, .int .i64 0, .int .i64 0, .slice none 0 0] 26) := Bk.new _ _ _
  have HB0 : Hid (Below w.heap.size w (w.alloc (.cells #[.int .i64 0, .int .i64 0, .int .i64 0, .int .i64 0, .int .i64 0, .int .i64 0, .int .i64 0, .int .i64 0, .slice none 0 0] 26))) := belA _ _
  have hsz : Hid ((w.alloc (.cells #[.int .i64 0, .int .i64 0, .int .i64 0, .int .i64 0, .int .i64 0, .int .i64 0, .int .i64 0, .int .i64 0, .slice none 0 0] 26)).heap.size = w.heap.size + 1) := by unfold Hid; simp
  generalize w.alloc (.cells #[.int .i64 0, .int .i64 0, .int .i64 0, .int .i64 0, .int .i64 0, .int .i64 0, .int .i64 0, .int .i64 0, .slice none 0 0] 26) = w0 at *
  go_cut [3] (fun v3 wc => ∃ X, v3 = .pointer (some ⟨X, 0, none⟩) ∧ w0.heap.size ≤ X ∧ Below w0.heap.size w0 wc ∧ Bk wc X #[.int .i64 (bt s 1), .int .i64 (bt s 2), .int .i64 (a2 s 3), .int .i64 (a2 s 5), .int .i64 0, .int .i64 0, .int .i64 0, .int .i64 0, .slice none 0 0] 26)
  case first =>
    refine wp_region_held_drew (S := fun w' => Below w0.heap.size w0 w') (by kernel_rfl) ((Below.refl _ _).drew) (fun hs0 => ?_)
    refine wpAnyH_take (i := 0) (oi := _) (v := _) rfl (by kernel_rfl) (by kernel_rfl) (by kernel_rfl) (fun _ _ _ h => h) (.inl ⟨by rfl, by intro w hSw; go_simp; with_reducible rfl⟩) hs0 ?_
    simp only [Act.put, List.setIfInBounds_toArray, List.set_cons_zero, List.set_cons_succ]
    refine wpAnyH_take (i := 1) (oi := _) (v := _) rfl (by kernel_rfl) (by kernel_rfl) (by kernel_rfl) (fun _ _ _ h => h) (.inl ⟨by rfl, by intro w hSw; go_simp; rw [dif_pos (show (1 : Int) < (s.size : Int) by omega)]; rfl⟩) hs0 ?_
    simp only [Act.put, List.setIfInBounds_toArray, List.set_cons_zero, List.set_cons_succ]
    refine wpAnyH_take (i := 2) (oi := _) (v := _) rfl (by kernel_rfl) (by kernel_rfl) (by kernel_rfl) (fun _ _ _ h => h) (.inl ⟨by rfl, by intro w hSw; go_simp; rw [hb1.out]⟩) hs0 ?_
    simp only [Act.put, List.setIfInBounds_toArray, List.set_cons_zero, List.set_cons_succ]
    refine wpAnyH_take (i := 3) (oi := _) (v := _) rfl (by kernel_rfl) (by kernel_rfl) (by kernel_rfl) (fun _ _ _ h => h) (.inl ⟨by rfl, by intro w hSw; go_simp; with_reducible rfl⟩) hs0 ?_
    simp only [Act.put, List.setIfInBounds_toArray, List.set_cons_zero, List.set_cons_succ]
    refine wpAnyH_take (i := 4) (oi := _) (v := _) rfl (by kernel_rfl) (by kernel_rfl) (by kernel_rfl) (fun _ _ _ h => h) (.inl ⟨by rfl, by intro w hSw; go_simp; rw [dif_pos (show (2 : Int) < (s.size : Int) by omega)]; rfl⟩) hs0 ?_
    simp only [Act.put, List.setIfInBounds_toArray, List.set_cons_zero, List.set_cons_succ]
    refine wpAnyH_take (i := 5) (oi := _) (v := _) rfl (by kernel_rfl) (by kernel_rfl) (by kernel_rfl) (fun _ _ _ h => h) (.inl ⟨by rfl, by intro w hSw; go_simp; rw [hb2.out]⟩) hs0 ?_
    simp only [Act.put, List.setIfInBounds_toArray, List.set_cons_zero, List.set_cons_succ]
    refine wpAnyH_take (i := 6) (oi := _) (v := _) rfl (by kernel_rfl) (by kernel_rfl) (by kernel_rfl) (fun _ _ _ h => h) (.inl ⟨by rfl, by intro w hSw; go_simp; with_reducible rfl⟩) hs0 ?_
    simp only [Act.put, List.setIfInBounds_toArray, List.set_cons_zero, List.set_cons_succ]
    refine wpAnyH_take (i := 8) (oi := _) (v := _) rfl (by kernel_rfl) (by kernel_rfl) (by kernel_rfl) (fun _ _ _ h => h) (.inl ⟨by rfl, by intro w hSw; go_simp; with_reducible rfl⟩) hs0 ?_
    simp only [Act.put, List.setIfInBounds_toArray, List.set_cons_zero, List.set_cons_succ]
    generalize w0.drew = w00 at *
    refine wpAnyH_ready (rs := [7, 11]) (by kernel_rfl) (by simp) ?_
    refine AllReadyH.cons rfl (fun K hK => ?_) ?_
    · skip
      go_simp
      refine (lAt3 s _ h6 hs).mono ?_
      rintro e w1 ⟨rfl, hw⟩
      have hs1 := belt hs0 hw
      refine hK.out _ _ hs1 (fun _ => ?_)
      clear hK K hw
      refine wpAnyH_ready (rs := [9, 11]) (by kernel_rfl) (by simp) ?_
      refine AllReadyH.cons rfl (fun K hK => ?_) ?_
      · skip
        go_simp
        refine (lAt5 s _ h6 hs).mono ?_
        rintro e w2 ⟨rfl, hw⟩
        have hs2 := belt hs1 hw
        refine hK.out _ _ hs2 (fun _ => ?_)
        clear hK K hw
        refine wpAnyH_take (i := 10) (oi := _) (v := _) rfl (by kernel_rfl) (by kernel_rfl) (by kernel_rfl) (fun _ _ _ h => h) (.inl ⟨by rfl, by intro w hSw; go_simp; with_reducible rfl⟩) hs2 ?_
        simp only [Act.put, List.setIfInBounds_toArray, List.set_cons_zero, List.set_cons_succ]
        refine wpAnyH_ready (rs := [11]) (by kernel_rfl) (by simp) ?_
        refine AllReadyH.cons rfl (fun K hK => ?_) AllReadyH.nil
        go_simp
        obtain ⟨X, hX⟩ : ∃ X, w2.heap.size = X := ⟨_, rfl⟩
        have bx3 : Bk (w2.alloc (.cells #[.int .i64 0, .int .i64 0, .int .i64 0, .int .i64 0, .int .i64 0, .int .i64 0, .int .i64 0, .int .i64 0, .slice none 0 0] 26)) X #[.int .i64 0, .int .i64 0, .int .i64 0, .int .i64 0, .int .i64 0, .int .i64 0, .int .i64 0, .int .i64 0, .slice none 0 0] 26 := by rw [← hX]; exact Bk.new _ _ _
        have hX1 : w0.heap.size ≤ X := by rw [← hX]; exact hs2.size
        have hs3 : Below w0.heap.size w0 (w2.alloc (.cells #[.int .i64 0, .int .i64 0, .int .i64 0, .int .i64 0, .int .i64 0, .int .i64 0, .int .i64 0, .int .i64 0, .slice none 0 0] 26)) := belt hs2 (belA _ _)
        rw [hX]
        refine hK.out _ _ hs3 (fun _ => ?_)
        clear hK K hX
        generalize w2.alloc (.cells #[.int .i64 0, .int .i64 0, .int .i64 0, .int .i64 0, .int .i64 0, .int .i64 0, .int .i64 0, .int .i64 0, .slice none 0 0] 26) = w3 at *
        refine wpAnyH_ready (rs := [12]) (by kernel_rfl) (by simp) ?_
        refine AllReadyH.cons rfl (fun K hK => ?_) AllReadyH.nil
        obtain ⟨q0, q1, q2, q3, q4, q5, q6, q7, q8⟩ := Bk.c9 bx3
        obtain ⟨f0, f1, f2, f3, f4, f5, f6, f7, f8⟩ := Bk.f9 bx3
        go_simp
        have sE : Below w0.heap.size w0 (setL w3 X 0 [.int .i64 (bt s 1), .int .i64 (bt s 2), .int .i64 (a2 s 3), .int .i64 (a2 s 5), .int .i64 0, .int .i64 0, .int .i64 0, .int .i64 0, .slice none 0 0]) := setL_below hX1 _ 0 hs3
        have bE : Bk (setL w3 X 0 [.int .i64 (bt s 1), .int .i64 (bt s 2), .int .i64 (a2 s 3), .int .i64 (a2 s 5), .int .i64 0, .int .i64 0, .int .i64 0, .int .i64 0, .slice none 0 0]) X #[.int .i64 (bt s 1), .int .i64 (bt s 2), .int .i64 (a2 s 3), .int .i64 (a2 s 5), .int .i64 0, .int .i64 0, .int .i64 0, .int .i64 0, .slice none 0 0] 26 := by have h := bx3.setL [.int .i64 (bt s 1), .int .i64 (bt s 2), .int .i64 (a2 s 3), .int .i64 (a2 s 5), .int .i64 0, .int .i64 0, .int .i64 0, .int .i64 0, .slice none 0 0] 0; rw [ovr9] at h; exact h
        refine hK.out _ _ sE (fun _ => ?_)
        clear hK K q0 q1 q2 q3 q4 q5 q6 q7 q8 f0 f1 f2 f3 f4 f5 f6 f7 f8
        refine wpAnyH_done (by kernel_rfl) ?_ _
        go_wp2_with fail
        go_meet
        exact ⟨X, rfl, hX1, sE, bE⟩
      refine AllReadyH.cons rfl (fun K hK => ?_) AllReadyH.nil
      go_simp
      obtain ⟨X, hX⟩ : ∃ X, w1.heap.size = X := ⟨_, rfl⟩
      have bx2 : Bk (w1.alloc (.cells #[.int .i64 0, .int .i64 0, .int .i64 0, .int .i64 0, .int .i64 0, .int .i64 0, .int .i64 0, .int .i64 0, .slice none 0 0] 26)) X #[.int .i64 0, .int .i64 0, .int .i64 0, .int .i64 0, .int .i64 0, .int .i64 0, .int .i64 0, .int .i64 0, .slice none 0 0] 26 := by rw [← hX]; exact Bk.new _ _ _
      have hX1 : w0.heap.size ≤ X := by rw [← hX]; exact hs1.size
      have hs2 : Below w0.heap.size w0 (w1.alloc (.cells #[.int .i64 0, .int .i64 0, .int .i64 0, .int .i64 0, .int .i64 0, .int .i64 0, .int .i64 0, .int .i64 0, .slice none 0 0] 26)) := belt hs1 (belA _ _)
      rw [hX]
      refine hK.out _ _ hs2 (fun _ => ?_)
      clear hK K hX
      generalize w1.alloc (.cells #[.int .i64 0, .int .i64 0, .int .i64 0, .int .i64 0, .int .i64 0, .int .i64 0, .int .i64 0, .int .i64 0, .slice none 0 0] 26) = w2 at *
      refine wpAnyH_ready (rs := [9]) (by kernel_rfl) (by simp) ?_
      refine AllReadyH.cons rfl (fun K hK => ?_) AllReadyH.nil
      go_simp
      refine (lAt5 s _ h6 hs).mono ?_
      rintro e w3 ⟨rfl, hw⟩
      have hs3 := belt hs2 hw
      have bx3 := bx2.keep hw
      refine hK.out _ _ hs3 (fun _ => ?_)
      clear hK K hw
      refine wpAnyH_take (i := 10) (oi := _) (v := _) rfl (by kernel_rfl) (by kernel_rfl) (by kernel_rfl) (fun _ _ _ h => h) (.inl ⟨by rfl, by intro w hSw; go_simp; with_reducible rfl⟩) hs3 ?_
      simp only [Act.put, List.setIfInBounds_toArray, List.set_cons_zero, List.set_cons_succ]
      refine wpAnyH_ready (rs := [12]) (by kernel_rfl) (by simp) ?_
      refine AllReadyH.cons rfl (fun K hK => ?_) AllReadyH.nil
      obtain ⟨q0, q1, q2, q3, q4, q5, q6, q7, q8⟩ := Bk.c9 bx3
      obtain ⟨f0, f1, f2, f3, f4, f5, f6, f7, f8⟩ := Bk.f9 bx3
      go_simp
      have sE : Below w0.heap.size w0 (setL w3 X 0 [.int .i64 (bt s 1), .int .i64 (bt s 2), .int .i64 (a2 s 3), .int .i64 (a2 s 5), .int .i64 0, .int .i64 0, .int .i64 0, .int .i64 0, .slice none 0 0]) := setL_below hX1 _ 0 hs3
      have bE : Bk (setL w3 X 0 [.int .i64 (bt s 1), .int .i64 (bt s 2), .int .i64 (a2 s 3), .int .i64 (a2 s 5), .int .i64 0, .int .i64 0, .int .i64 0, .int .i64 0, .slice none 0 0]) X #[.int .i64 (bt s 1), .int .i64 (bt s 2), .int .i64 (a2 s 3), .int .i64 (a2 s 5), .int .i64 0, .int .i64 0, .int .i64 0, .int .i64 0, .slice none 0 0] 26 := by have h := bx3.setL [.int .i64 (bt s 1), .int .i64 (bt s 2), .int .i64 (a2 s 3), .int .i64 (a2 s 5), .int .i64 0, .int .i64 0, .int .i64 0, .int .i64 0, .slice none 0 0] 0; rw [ovr9] at h; exact h
      refine hK.out _ _ sE (fun _ => ?_)
      clear hK K q0 q1 q2 q3 q4 q5 q6 q7 q8 f0 f1 f2 f3 f4 f5 f6 f7 f8
      refine wpAnyH_done (by kernel_rfl) ?_ _
      go_wp2_with fail
      go_meet
      exact ⟨X, rfl, hX1, sE, bE⟩
    refine AllReadyH.cons rfl (fun K hK => ?_) AllReadyH.nil
    go_simp
    obtain ⟨X, hX⟩ : ∃ X, w00.heap.size = X := ⟨_, rfl⟩
    have bx1 : Bk (w00.alloc (.cells #[.int .i64 0, .int .i64 0, .int .i64 0, .int .i64 0, .int .i64 0, .int .i64 0, .int .i64 0, .int .i64 0, .slice none 0 0] 26)) X #[.int .i64 0, .int .i64 0, .int .i64 0, .int .i64 0, .int .i64 0, .int .i64 0, .int .i64 0, .int .i64 0, .slice none 0 0] 26 := by rw [← hX]; exact Bk.new _ _ _
    have hX1 : w0.heap.size ≤ X := by rw [← hX]; exact hs0.size
    have hs1 : Below w0.heap.size w0 (w00.alloc (.cells #[.int .i64 0, .int .i64 0, .int .i64 0, .int .i64 0, .int .i64 0, .int .i64 0, .int .i64 0, .int .i64 0, .slice none 0 0] 26)) := belt hs0 (belA _ _)
    rw [hX]
    refine hK.out _ _ hs1 (fun _ => ?_)
    clear hK K hX
    generalize w00.alloc (.cells #[.int .i64 0, .int .i64 0, .int .i64 0, .int .i64 0, .int .i64 0, .int .i64 0, .int .i64 0, .int .i64 0, .slice none 0 0] 26) = w1 at *
    refine wpAnyH_ready (rs := [7]) (by kernel_rfl) (by simp) ?_
    refine AllReadyH.cons rfl (fun K hK => ?_) AllReadyH.nil
    go_simp
    refine (lAt3 s _ h6 hs).mono ?_
    rintro e w2 ⟨rfl, hw⟩
    have hs2 := belt hs1 hw
    have bx2 := bx1.keep hw
    refine hK.out _ _ hs2 (fun _ => ?_)
    clear hK K hw
    refine wpAnyH_ready (rs := [9]) (by kernel_rfl) (by simp) ?_
    refine AllReadyH.cons rfl (fun K hK => ?_) AllReadyH.nil
    go_simp
    refine (lAt5 s _ h6 hs).mono ?_
    rintro e w3 ⟨rfl, hw⟩
    have hs3 := belt hs2 hw
    have bx3 := bx2.keep hw
    refine hK.out _ _ hs3 (fun _ => ?_)
    clear hK K hw
    refine wpAnyH_take (i := 10) (oi := _) (v := _) rfl (by kernel_rfl) (by kernel_rfl) (by kernel_rfl) (fun _ _ _ h => h) (.inl ⟨by rfl, by intro w hSw; go_simp; with_reducible rfl⟩) hs3 ?_
    simp only [Act.put, List.setIfInBounds_toArray, List.set_cons_zero, List.set_cons_succ]
    refine wpAnyH_ready (rs := [12]) (by kernel_rfl) (by simp) ?_
    refine AllReadyH.cons rfl (fun K hK => ?_) AllReadyH.nil
    obtain ⟨q0, q1, q2, q3, q4, q5, q6, q7, q8⟩ := Bk.c9 bx3
    obtain ⟨f0, f1, f2, f3, f4, f5, f6, f7, f8⟩ := Bk.f9 bx3
    go_simp
    have sE : Below w0.heap.size w0 (setL w3 X 0 [.int .i64 (bt s 1), .int .i64 (bt s 2), .int .i64 (a2 s 3), .int .i64 (a2 s 5), .int .i64 0, .int .i64 0, .int .i64 0, .int .i64 0, .slice none 0 0]) := setL_below hX1 _ 0 hs3
    have bE : Bk (setL w3 X 0 [.int .i64 (bt s 1), .int .i64 (bt s 2), .int .i64 (a2 s 3), .int .i64 (a2 s 5), .int .i64 0, .int .i64 0, .int .i64 0, .int .i64 0, .slice none 0 0]) X #[.int .i64 (bt s 1), .int .i64 (bt s 2), .int .i64 (a2 s 3), .int .i64 (a2 s 5), .int .i64 0, .int .i64 0, .int .i64 0, .int .i64 0, .slice none 0 0] 26 := by have h := bx3.setL [.int .i64 (bt s 1), .int .i64 (bt s 2), .int .i64 (a2 s 3), .int .i64 (a2 s 5), .int .i64 0, .int .i64 0, .int .i64 0, .int .i64 0, .slice none 0 0] 0; rw [ovr9] at h; exact h
    refine hK.out _ _ sE (fun _ => ?_)
    clear hK K q0 q1 q2 q3 q4 q5 q6 q7 q8 f0 f1 f2 f3 f4 f5 f6 f7 f8
    refine wpAnyH_done (by kernel_rfl) ?_ _
    go_wp2_with fail
    go_meet
    exact ⟨X, rfl, hX1, sE, bE⟩
  case rest =>
    obtain ⟨X, rfl, hX1, hbc, hbx⟩ := hcut
    clear hb1 hb2
    have KX : Hid (Bk wc X #[.int .i64 (bt s 1), .int .i64 (bt s 2), .int .i64 (a2 s 3), .int .i64 (a2 s 5), .int .i64 0, .int .i64 0, .int .i64 0, .int .i64 0, .slice none 0 0] 26) := hbx
    have KR1 : Hid (Bk wc w.heap.size #[.int .i64 0, .int .i64 0, .int .i64 0, .int .i64 0, .int .i64 0, .int .i64 0, .int .i64 0, .int .i64 0, .slice none 0 0] 26) := KR.out.keep hbc
    have HB1 : Hid (Below w.heap.size w wc) := belt HB0.out hbc
    have hXw : w.heap.size < X := by have := hsz.out; omega
    clear hbc hbx KR HB0 hX1 hsz
    obtain ⟨q0, q1, q2, q3, q4, q5, q6, q7, q8⟩ := Bk.c9 KX.out
    obtain ⟨K, hK⟩ : ∃ K, Hid (bt s 1 = K) := ⟨_, rfl⟩
    obtain ⟨F, hF⟩ : ∃ F, Hid (fld K = F) := ⟨_, rfl⟩
    have hF4 : F.length ≤ 4 := by rw [← hF.out]; exact fld_big K
    have h5 : Hid (∀ j, j < F.length → (F.getD j 0 = 5 ↔ (K = 5 ∧ j = 1))) := fun j hj => by rw [← hF.out] at hj ⊢; exact fld_five K j hj
    have hM : Hid (∀ j, j < F.length → 1 ≤ F.getD j 0 ∧ F.getD j 0 ≤ 5) := fun j hj => by rw [← hF.out] at hj ⊢; exact fld_mem2 K j hj
    rw [hK.out, hF.out] at hp0
    have hP : Hid (∀ j, j < F.length → ¬ F.getD j 0 = 5 → 7 + 2 * j + 1 < s.size) := hp0
    have hLs : Hid (K = 5 → 9 < s.size ∧ 10 + 2 * (bt s 9).toNat ≤ s.size) := fun h => hl0 (hK.out.trans h)
    clear hp0 hl0
    go_wp2_with fail
    refine (lfieldsOf_any _ _).mono ?_
    rintro e w1 ⟨aF, nF, cF, rfl, hnF, hcF, oF, hw⟩
    rw [hK.out, hF.out] at hnF oF
    clear q0 q1 q2 q3 q4 q5 q6 q7 q8
    subst hnF
    have MF0 : Hid (TK w w1 X wc.heap.size w1.heap.size (bt s 1) (bt s 2) (a2 s 3) (a2 s 5) 0 0 0 0 (.slice none 0 0) [] aF F.length F) :=
      ⟨belt HB1.out hw, KR1.out.keep hw, hXw, KX.out.lt, ⟨hw.size, Nat.le_refl _⟩, KX.out.keep hw, World.ownsRow_nil _ _ _ _, oF⟩
    clear hw oF KX KR1 HB1
    generalize wc.heap.size = T at *
    obtain ⟨B0, hB⟩ : ∃ B0, w1.heap.size = B0 := ⟨_, rfl⟩
    rw [hB] at MF0
    clear hB
    obtain ⟨nF, hnF⟩ : ∃ n, F.length = n := ⟨_, rfl⟩
    rw [hnF] at MF0 hF4 hP h5 hM
    go_wp2_with fail
    go_loopw [4, 23] (fun v4 v23 wr => ∃ (j p : Nat) (k4 k5 k6 k7 : Int) (vl : Value) (L : List Int), v23 = .int .i64 j ∧ v4 = .int .i64 p ∧ j ≤ nF ∧ Hid (p = 7 + 2 * j) ∧ Hid (k4 = fv s F j 1 ∧ k5 = fv s F j 2 ∧ k6 = fv s F j 3 ∧ k7 = fv s F j 4) ∧ Hid (L = fL s F j) ∧ Hid (TK w wr X T B0 (bt s 1) (bt s 2) (a2 s 3) (a2 s 5) k4 k5 k6 k7 vl L aF nF F)) (fun _ v23 _ => nF - (intOf v23).toNat)
    case atStart => exact ⟨0, 7, 0, 0, 0, 0, _, [], rfl, rfl, Nat.zero_le _, rfl, ⟨rfl, rfl, rfl, rfl⟩, rfl, MF0⟩
    case round =>
      clear MF0
      obtain ⟨j, p, k4, k5, k6, k7, vl, L, rfl, rfl, hj, hp, hk, hLL, mf⟩ := hrel
      obtain ⟨q0, q1, q2, q3, q4, q5, q6, q7, q8⟩ := Bk.c9 mf.out.bx
      by_cases hlt2 : j < nF
      · obtain ⟨g1, g2⟩ := hM.out j hlt2
        obtain ⟨bk, off, hform⟩ := rowAt_form mf.out.fl.rowAt (by omega)
        subst hform
        have hc1 := (rowAt_cell mf.out.fl.rowAt (by omega)).2 j (by omega)
        have h9 : F.getD j 0 = 1 ∨ F.getD j 0 = 2 ∨ F.getD j 0 = 3 ∨ F.getD j 0 = 4 ∨ F.getD j 0 = 5 := by omega
        have hp1 : p ≤ 15 := by have := hp.out; omega
        clear g1 g2
        rcases h9 with h9' | h9' | h9' | h9' | h9'
        all_goals
          have h9 : Hid _ := h9'
          clear h9'
        · have hpos := hP.out j hlt2 (by rw [h9.out]; decide)
          rw [h9.out] at hc1
          go_wp2_with fail
          refine (lAt_any s p _ (by have := hp.out; omega) hs).mono ?_
          rintro e w2 ⟨rfl, hw⟩
          have mf2 : Hid (TK w w2 X T B0 (bt s 1) (bt s 2) (a2 s 3) (a2 s 5) k4 k5 k6 k7 vl L (some ⟨bk, off, none⟩) nF F) := mf.out.keep hw
          clear mf hw q0 q1 q2 q3 q4 q5 q6 q7 q8
          obtain ⟨q0, q1, q2, q3, q4, q5, q6, q7, q8⟩ := Bk.c9 mf2.out.bx
          obtain ⟨f0, f1, f2, f3, f4, f5, f6, f7, f8⟩ := Bk.f9 mf2.out.bx
          have HM3 : Hid (TK w (w2.setCell ⟨X, 4, none⟩ (.int .i64 (a2 s p))) X T B0 (bt s 1) (bt s 2) (a2 s 3) (a2 s 5) (a2 s p) k5 k6 k7 vl L (some ⟨bk, off, none⟩) nF F) := mf2.out.set 4 (a2 s p) rfl
          clear mf2
          go_wp2
          go_roundw
          case rel => exact ⟨j + 1, p + 2, a2 s p, k5, k6, k7, vl, L, by go_num, by go_num, by omega, by have := hp.out; unfold Hid; omega, ⟨(by rw [fv_same h9.out, hp.out]), ((hk.out.2.1).trans (fv_other h9.out (by omega)).symm), ((hk.out.2.2.1).trans (fv_other h9.out (by omega)).symm), ((hk.out.2.2.2).trans (fv_other h9.out (by omega)).symm)⟩, hLL.out.trans (fL_step h9.out (by decide)).symm, HM3⟩
          case measure => simp [intOf]; omega
        · have hpos := hP.out j hlt2 (by rw [h9.out]; decide)
          rw [h9.out] at hc1
          go_wp2_with fail
          refine (lAt_any s p _ (by have := hp.out; omega) hs).mono ?_
          rintro e w2 ⟨rfl, hw⟩
          have mf2 : Hid (TK w w2 X T B0 (bt s 1) (bt s 2) (a2 s 3) (a2 s 5) k4 k5 k6 k7 vl L (some ⟨bk, off, none⟩) nF F) := mf.out.keep hw
          clear mf hw q0 q1 q2 q3 q4 q5 q6 q7 q8
          obtain ⟨q0, q1, q2, q3, q4, q5, q6, q7, q8⟩ := Bk.c9 mf2.out.bx
          obtain ⟨f0, f1, f2, f3, f4, f5, f6, f7, f8⟩ := Bk.f9 mf2.out.bx
          have HM3 : Hid (TK w (w2.setCell ⟨X, 5, none⟩ (.int .i64 (a2 s p))) X T B0 (bt s 1) (bt s 2) (a2 s 3) (a2 s 5) k4 (a2 s p) k6 k7 vl L (some ⟨bk, off, none⟩) nF F) := mf2.out.set 5 (a2 s p) rfl
          clear mf2
          go_wp2
          go_roundw
          case rel => exact ⟨j + 1, p + 2, k4, a2 s p, k6, k7, vl, L, by go_num, by go_num, by omega, by have := hp.out; unfold Hid; omega, ⟨((hk.out.1).trans (fv_other h9.out (by omega)).symm), (by rw [fv_same h9.out, hp.out]), ((hk.out.2.2.1).trans (fv_other h9.out (by omega)).symm), ((hk.out.2.2.2).trans (fv_other h9.out (by omega)).symm)⟩, hLL.out.trans (fL_step h9.out (by decide)).symm, HM3⟩
          case measure => simp [intOf]; omega
        · have hpos := hP.out j hlt2 (by rw [h9.out]; decide)
          rw [h9.out] at hc1
          go_wp2_with fail
          refine (lAt_any s p _ (by have := hp.out; omega) hs).mono ?_
          rintro e w2 ⟨rfl, hw⟩
          have mf2 : Hid (TK w w2 X T B0 (bt s 1) (bt s 2) (a2 s 3) (a2 s 5) k4 k5 k6 k7 vl L (some ⟨bk, off, none⟩) nF F) := mf.out.keep hw
          clear mf hw q0 q1 q2 q3 q4 q5 q6 q7 q8
          obtain ⟨q0, q1, q2, q3, q4, q5, q6, q7, q8⟩ := Bk.c9 mf2.out.bx
          obtain ⟨f0, f1, f2, f3, f4, f5, f6, f7, f8⟩ := Bk.f9 mf2.out.bx
          have HM3 : Hid (TK w (w2.setCell ⟨X, 6, none⟩ (.int .i64 (a2 s p))) X T B0 (bt s 1) (bt s 2) (a2 s 3) (a2 s 5) k4 k5 (a2 s p) k7 vl L (some ⟨bk, off, none⟩) nF F) := mf2.out.set 6 (a2 s p) rfl
          clear mf2
          go_wp2
          go_roundw
          case rel => exact ⟨j + 1, p + 2, k4, k5, a2 s p, k7, vl, L, by go_num, by go_num, by omega, by have := hp.out; unfold Hid; omega, ⟨((hk.out.1).trans (fv_other h9.out (by omega)).symm), ((hk.out.2.1).trans (fv_other h9.out (by omega)).symm), (by rw [fv_same h9.out, hp.out]), ((hk.out.2.2.2).trans (fv_other h9.out (by omega)).symm)⟩, hLL.out.trans (fL_step h9.out (by decide)).symm, HM3⟩
          case measure => simp [intOf]; omega
        · have hpos := hP.out j hlt2 (by rw [h9.out]; decide)
          rw [h9.out] at hc1
          go_wp2_with fail
          refine (lAt_any s p _ (by have := hp.out; omega) hs).mono ?_
          rintro e w2 ⟨rfl, hw⟩
          have mf2 : Hid (TK w w2 X T B0 (bt s 1) (bt s 2) (a2 s 3) (a2 s 5) k4 k5 k6 k7 vl L (some ⟨bk, off, none⟩) nF F) := mf.out.keep hw
          clear mf hw q0 q1 q2 q3 q4 q5 q6 q7 q8
          obtain ⟨q0, q1, q2, q3, q4, q5, q6, q7, q8⟩ := Bk.c9 mf2.out.bx
          obtain ⟨f0, f1, f2, f3, f4, f5, f6, f7, f8⟩ := Bk.f9 mf2.out.bx
          have HM3 : Hid (TK w (w2.setCell ⟨X, 7, none⟩ (.int .i64 (a2 s p))) X T B0 (bt s 1) (bt s 2) (a2 s 3) (a2 s 5) k4 k5 k6 (a2 s p) vl L (some ⟨bk, off, none⟩) nF F) := mf2.out.set 7 (a2 s p) rfl
          clear mf2
          go_wp2
          go_roundw
          case rel => exact ⟨j + 1, p + 2, k4, k5, k6, a2 s p, vl, L, by go_num, by go_num, by omega, by have := hp.out; unfold Hid; omega, ⟨((hk.out.1).trans (fv_other h9.out (by omega)).symm), ((hk.out.2.1).trans (fv_other h9.out (by omega)).symm), ((hk.out.2.2.1).trans (fv_other h9.out (by omega)).symm), (by rw [fv_same h9.out, hp.out])⟩, hLL.out.trans (fL_step h9.out (by decide)).symm, HM3⟩
          case measure => simp [intOf]; omega
        · obtain ⟨hK5, hj1⟩ := (h5.out j hlt2).1 h9.out
          obtain ⟨n9, n10⟩ := hLs.out hK5
          have hp9 : p = 9 := by have := hp.out; omega
          have hb9 : Hid ((s[p].toNat : Int) = bt s 9) := by subst hp9; exact (bt_eq (by omega)).symm
          have hbd := bt_bd s 9
          have hlen := lv_len s
          rw [h9.out] at hc1
          subst hp9
          have b9 : (s[9].toNat : Int) = bt s 9 := (bt_eq (by omega)).symm
          have u9 := UInt8.toNat_lt s[9]
          have hL0 : L = [] := by
            rw [hLL.out]
            subst hj1
            have h0 : ¬ F.getD 0 0 = 5 := fun h => by have := ((h5.out 0 (by omega)).1 h).2; omega
            exact fL_step rfl h0
          subst hL0
          have hE : Hid (fL s F (j + 1) = lv s) := fL_list h9.out
          have hkn : Hid (k4 = fv s F (j + 1) 1 ∧ k5 = fv s F (j + 1) 2 ∧ k6 = fv s F (j + 1) 3 ∧ k7 = fv s F (j + 1) 4) :=
            ⟨hk.out.1.trans (fv_other h9.out (by omega)).symm, hk.out.2.1.trans (fv_other h9.out (by omega)).symm, hk.out.2.2.1.trans (fv_other h9.out (by omega)).symm, hk.out.2.2.2.trans (fv_other h9.out (by omega)).symm⟩
          have hp' : Hid (9 + 2 = 7 + 2 * (j + 1)) := by unfold Hid; omega
          clear q0 q1 q2 q3 q4 q5 q6 q7 q8 hk hLL hb9 hp hK5 hj1 h5 hM hP hLs
          obtain ⟨N, hN⟩ : ∃ N, (lv s).length = N := ⟨_, rfl⟩
          have hN9 : (s[9].toNat : Int) = (N : Int) := by omega
          have hN10 : 10 + 2 * N ≤ s.size := by omega
          have hN255 : N ≤ 255 := by omega
          clear hlen b9 hbd n10 u9
          have e9 : ((9 : Nat) : Int) = 9 := rfl
          simp only [e9]
          clear e9
          go_wp2_with fail
          go_loopw [7] (fun v7 wr => ∃ (k : Nat) (vl : Value), v7 = .int .i64 k ∧ k ≤ N ∧ Hid (TK w wr X T B0 (bt s 1) (bt s 2) (a2 s 3) (a2 s 5) k4 k5 k6 k7 vl ((lv s).take k) (some ⟨bk, off, none⟩) nF F)) (fun v7 _ => N - (intOf v7).toNat)
          case atStart => exact ⟨0, vl, rfl, Nat.zero_le _, mf⟩
          case round =>
            clear mf
            obtain ⟨k, vl, rfl, hkN, mfi⟩ := hrel
            by_cases hq : k < N
            · have hk2 : k < (lv s).length := by omega
              have hlk : ((lv s).take k).length = k := by rw [List.length_take]; omega
              have hpk : Hid (IntKind.i64.wrap (IntKind.i64.wrap 10 + IntKind.i64.wrap (2 * (k : Int))) = ((10 + 2 * k : Nat) : Int)) := wrap_10 k (by omega)
              go_wp2_with fail
              refine wp_region_held_drew (S := fun w' => Bk w' w.heap.size #[.int .i64 0, .int .i64 0, .int .i64 0, .int .i64 0, .int .i64 0, .int .i64 0, .int .i64 0, .int .i64 0, .slice none 0 0] 26) (by kernel_rfl) (mfi.out.br.drew) (fun hs0 => ?_)
              have mf0 : Hid (TK w wr.drew X T B0 (bt s 1) (bt s 2) (a2 s 3) (a2 s 5) k4 k5 k6 k7 vl ((lv s).take k) (some ⟨bk, off, none⟩) nF F) := mfi.out.keep ((Below.refl _ _).drew)
              clear mfi
              generalize wr.drew = wd at *
              refine wpAnyH_take (i := 0) (oi := _) (v := _) rfl (by kernel_rfl) (by kernel_rfl) (by kernel_rfl) (fun _ _ _ h => h) (.inl ⟨by rfl, by intro w hSw; go_simp; with_reducible rfl⟩) hs0 ?_
              simp only [Act.put, List.setIfInBounds_toArray, List.set_cons_zero, List.set_cons_succ]
              refine wpAnyH_take (i := 2) (oi := _) (v := _) rfl (by kernel_rfl) (by kernel_rfl) (by kernel_rfl) (fun _ _ _ h => h) (.inl ⟨by rfl, by intro w hSw; go_simp; with_reducible rfl⟩) hs0 ?_
              simp only [Act.put, List.setIfInBounds_toArray, List.set_cons_zero, List.set_cons_succ]
              refine wpAnyH_take (i := 3) (oi := _) (v := _) rfl (by kernel_rfl) (by kernel_rfl) (by kernel_rfl) (fun _ _ _ h => h) (.inl ⟨by rfl, by intro w hSw; go_simp; with_reducible rfl⟩) hs0 ?_
              simp only [Act.put, List.setIfInBounds_toArray, List.set_cons_zero, List.set_cons_succ]
              refine wpAnyH_take (i := 4) (oi := _) (v := _) rfl (by kernel_rfl) (by kernel_rfl) (by kernel_rfl) (fun _ _ _ h => h) (.inl ⟨by rfl, by intro w hSw; go_simp; with_reducible rfl⟩) hs0 ?_
              simp only [Act.put, List.setIfInBounds_toArray, List.set_cons_zero, List.set_cons_succ]
              refine wpAnyH_take (i := 5) (oi := _) (v := _) rfl (by kernel_rfl) (by kernel_rfl) (by kernel_rfl) (fun _ _ _ h => h) (.inl ⟨by rfl, by intro w hSw; go_simp; with_reducible rfl⟩) hs0 ?_
              simp only [Act.put, List.setIfInBounds_toArray, List.set_cons_zero, List.set_cons_succ]
              refine wpAnyH_take (i := 6) (oi := _) (v := _) rfl (by kernel_rfl) (by kernel_rfl) (by kernel_rfl) (fun _ _ _ h => h) (.inl ⟨by rfl, by intro w hSw; go_simp; with_reducible rfl⟩) hs0 ?_
              simp only [Act.put, List.setIfInBounds_toArray, List.set_cons_zero, List.set_cons_succ]
              refine wpAnyH_take (i := 7) (oi := _) (v := _) rfl (by kernel_rfl) (by kernel_rfl) (by kernel_rfl) (fun _ _ _ h => h) (.inl ⟨by rfl, by intro w hSw; go_simp; with_reducible rfl⟩) hs0 ?_
              simp only [Act.put, List.setIfInBounds_toArray, List.set_cons_zero, List.set_cons_succ]
              refine wpAnyH_ready (rs := [1, 8]) (by kernel_rfl) (by simp) ?_
              refine AllReadyH.cons rfl (fun K hK => ?_) ?_
              · skip
                have q8 := mf0.out.bx.cell 8
                simp at q8
                go_simp
                have mf1 := mf0
                have hs1 := hs0
                refine hK.out _ _ hs1 (fun _ => ?_)
                clear hK K q8 mf0
                refine wpAnyH_ready (rs := [8]) (by kernel_rfl) (by simp) ?_
                refine AllReadyH.cons rfl (fun K hK => ?_) AllReadyH.nil
                go_simp
                rw [hpk.out]
                refine (lAt_any s (10 + 2 * k) _ (by omega) hs).mono ?_
                rintro e w2 ⟨rfl, hw⟩
                have mf2 : Hid (TK w w2 X T B0 (bt s 1) (bt s 2) (a2 s 3) (a2 s 5) k4 k5 k6 k7 vl ((lv s).take k) (some ⟨bk, off, none⟩) nF F) := mf1.out.keep hw
                have hs2 := mf2.out.br
                refine hK.out _ _ hs2 (fun _ => ?_)
                clear hK K hw mf1
                refine wpAnyH_ready (rs := [9]) (by kernel_rfl) (by simp) ?_
                refine AllReadyH.cons rfl (fun K hK => ?_) AllReadyH.nil
                go_simp
                have hs3 := mf2.out.br.alloc (.cells #[.int .i64 (a2 s (10 + 2 * k))] 3)
                refine hK.out _ _ hs3 (fun _ => ?_)
                clear hK K
                refine wpAnyH_ready (rs := [10]) (by kernel_rfl) (by simp) ?_
                refine AllReadyH.cons rfl (fun K hK => ?_) AllReadyH.nil
                rw [if_pos (by rfl)]
                refine wp_append_gw _ _ _ 24 rfl B0 3 i0 (.int .i64 0) 1 8 Tryd.underlying24 hi hz0 hz1 hz2 rfl (by decide) _ _ _ rfl (own_alloc2 mf2.out.ow _) ⟨w2.heap.size, 0, none⟩ 1 1 [.int .i64 (a2 s (10 + 2 * k))] rfl rfl (int_new1 _ _) (by simp [Value.oneCell']) (by unfold maxLen; omega) (by omega) (Nat.le_trans mf2.out.hB.2 (by simp)) ?_
                intro v5 w5 hown hgrow
                have hg5 : Gw (w2.alloc (.cells #[.int .i64 (a2 s (10 + 2 * k))] 3)) w5 vl v5 := hgrow
                have ho5 : w5.ownsRow B0 3 1 v5 ((lv s).take (k + 1)).length (((lv s).take (k + 1)).map (Value.int .i64)) := by rw [lv_take s k hk2, List.length_append, List.length_singleton, List.map_append]; exact hown
                clear hown hgrow
                obtain ⟨gq, cq, hvq⟩ := Joins.ownsRow_form ho5 (by rw [List.length_take]; omega)
                rw [show ((lv s).take (k + 1)).length = k + 1 from by rw [List.length_take]; omega] at hvq
                subst hvq
                obtain ⟨hs9, c8, f8⟩ := mf2.out.mid hg5
                have mfE := mf2.out.lst hg5 ho5
                refine hK.out _ _ hs9 (fun _ => ?_)
                clear hK K
                simp only [Act.put, List.setIfInBounds_toArray, List.set_cons_zero, List.set_cons_succ]
                refine wpAnyH_take (i := 11) (oi := _) (v := _) rfl (by kernel_rfl) (by kernel_rfl) (by kernel_rfl) (fun _ _ _ h => h) (.inl ⟨by rfl, by intro w hSw; go_simp; with_reducible rfl⟩) hs9 ?_
                simp only [Act.put, List.setIfInBounds_toArray, List.set_cons_zero, List.set_cons_succ]
                refine wpAnyH_ready (rs := [12]) (by kernel_rfl) (by simp) ?_
                refine AllReadyH.cons rfl (fun K hK => ?_) AllReadyH.nil
                go_simp
                refine hK.out _ _ mfE.br (fun _ => ?_)
                clear hK K
                refine wpAnyH_done (by kernel_rfl) ?_ _
                have HE : Hid _ := mfE
                clear mfE mf2 c8 f8 hs9 hg5 ho5
                go_wp2
                go_roundw
                case rel => exact ⟨k + 1, _, by go_num, by omega, HE⟩
                case measure => simp [intOf]; omega
              refine AllReadyH.cons rfl (fun K hK => ?_) AllReadyH.nil
              go_simp
              rw [hpk.out]
              refine (lAt_any s (10 + 2 * k) _ (by omega) hs).mono ?_
              rintro e w1 ⟨rfl, hw⟩
              have mf1 : Hid (TK w w1 X T B0 (bt s 1) (bt s 2) (a2 s 3) (a2 s 5) k4 k5 k6 k7 vl ((lv s).take k) (some ⟨bk, off, none⟩) nF F) := mf0.out.keep hw
              have hs1 := mf1.out.br
              refine hK.out _ _ hs1 (fun _ => ?_)
              clear hK K hw mf0
              refine wpAnyH_ready (rs := [1, 9]) (by kernel_rfl) (by simp) ?_
              refine AllReadyH.cons rfl (fun K hK => ?_) ?_
              · skip
                have q8 := mf1.out.bx.cell 8
                simp at q8
                go_simp
                have mf2 := mf1
                have hs2 := hs1
                refine hK.out _ _ hs2 (fun _ => ?_)
                clear hK K q8 mf1
                refine wpAnyH_ready (rs := [9]) (by kernel_rfl) (by simp) ?_
                refine AllReadyH.cons rfl (fun K hK => ?_) AllReadyH.nil
                go_simp
                have hs3 := mf2.out.br.alloc (.cells #[.int .i64 (a2 s (10 + 2 * k))] 3)
                refine hK.out _ _ hs3 (fun _ => ?_)
                clear hK K
                refine wpAnyH_ready (rs := [10]) (by kernel_rfl) (by simp) ?_
                refine AllReadyH.cons rfl (fun K hK => ?_) AllReadyH.nil
                rw [if_pos (by rfl)]
                refine wp_append_gw _ _ _ 24 rfl B0 3 i0 (.int .i64 0) 1 8 Tryd.underlying24 hi hz0 hz1 hz2 rfl (by decide) _ _ _ rfl (own_alloc2 mf2.out.ow _) ⟨w1.heap.size, 0, none⟩ 1 1 [.int .i64 (a2 s (10 + 2 * k))] rfl rfl (int_new1 _ _) (by simp [Value.oneCell']) (by unfold maxLen; omega) (by omega) (Nat.le_trans mf2.out.hB.2 (by simp)) ?_
                intro v5 w5 hown hgrow
                have hg5 : Gw (w1.alloc (.cells #[.int .i64 (a2 s (10 + 2 * k))] 3)) w5 vl v5 := hgrow
                have ho5 : w5.ownsRow B0 3 1 v5 ((lv s).take (k + 1)).length (((lv s).take (k + 1)).map (Value.int .i64)) := by rw [lv_take s k hk2, List.length_append, List.length_singleton, List.map_append]; exact hown
                clear hown hgrow
                obtain ⟨gq, cq, hvq⟩ := Joins.ownsRow_form ho5 (by rw [List.length_take]; omega)
                rw [show ((lv s).take (k + 1)).length = k + 1 from by rw [List.length_take]; omega] at hvq
                subst hvq
                obtain ⟨hs9, c8, f8⟩ := mf2.out.mid hg5
                have mfE := mf2.out.lst hg5 ho5
                refine hK.out _ _ hs9 (fun _ => ?_)
                clear hK K
                simp only [Act.put, List.setIfInBounds_toArray, List.set_cons_zero, List.set_cons_succ]
                refine wpAnyH_take (i := 11) (oi := _) (v := _) rfl (by kernel_rfl) (by kernel_rfl) (by kernel_rfl) (fun _ _ _ h => h) (.inl ⟨by rfl, by intro w hSw; go_simp; with_reducible rfl⟩) hs9 ?_
                simp only [Act.put, List.setIfInBounds_toArray, List.set_cons_zero, List.set_cons_succ]
                refine wpAnyH_ready (rs := [12]) (by kernel_rfl) (by simp) ?_
                refine AllReadyH.cons rfl (fun K hK => ?_) AllReadyH.nil
                go_simp
                refine hK.out _ _ mfE.br (fun _ => ?_)
                clear hK K
                refine wpAnyH_done (by kernel_rfl) ?_ _
                have HE : Hid _ := mfE
                clear mfE mf2 c8 f8 hs9 hg5 ho5
                go_wp2
                go_roundw
                case rel => exact ⟨k + 1, _, by go_num, by omega, HE⟩
                case measure => simp [intOf]; omega
              refine AllReadyH.cons rfl (fun K hK => ?_) AllReadyH.nil
              go_simp
              have hs2 := mf1.out.br.alloc (.cells #[.int .i64 (a2 s (10 + 2 * k))] 3)
              refine hK.out _ _ hs2 (fun _ => ?_)
              clear hK K
              refine wpAnyH_ready (rs := [1]) (by kernel_rfl) (by simp) ?_
              refine AllReadyH.cons rfl (fun K hK => ?_) AllReadyH.nil
              have q8 := (mf1.out.bx.alloc (.cells #[.int .i64 (a2 s (10 + 2 * k))] 3)).cell 8
              simp at q8
              go_simp
              have hs3 := hs2
              refine hK.out _ _ hs3 (fun _ => ?_)
              clear hK K q8
              refine wpAnyH_ready (rs := [10]) (by kernel_rfl) (by simp) ?_
              refine AllReadyH.cons rfl (fun K hK => ?_) AllReadyH.nil
              rw [if_pos (by rfl)]
              refine wp_append_gw _ _ _ 24 rfl B0 3 i0 (.int .i64 0) 1 8 Tryd.underlying24 hi hz0 hz1 hz2 rfl (by decide) _ _ _ rfl (own_alloc2 mf1.out.ow _) ⟨w1.heap.size, 0, none⟩ 1 1 [.int .i64 (a2 s (10 + 2 * k))] rfl rfl (int_new1 _ _) (by simp [Value.oneCell']) (by unfold maxLen; omega) (by omega) (Nat.le_trans mf1.out.hB.2 (by simp)) ?_
              intro v5 w5 hown hgrow
              have hg5 : Gw (w1.alloc (.cells #[.int .i64 (a2 s (10 + 2 * k))] 3)) w5 vl v5 := hgrow
              have ho5 : w5.ownsRow B0 3 1 v5 ((lv s).take (k + 1)).length (((lv s).take (k + 1)).map (Value.int .i64)) := by rw [lv_take s k hk2, List.length_append, List.length_singleton, List.map_append]; exact hown
              clear hown hgrow
              obtain ⟨gq, cq, hvq⟩ := Joins.ownsRow_form ho5 (by rw [List.length_take]; omega)
              rw [show ((lv s).take (k + 1)).length = k + 1 from by rw [List.length_take]; omega] at hvq
              subst hvq
              obtain ⟨hs9, c8, f8⟩ := mf1.out.mid hg5
              have mfE := mf1.out.lst hg5 ho5
              refine hK.out _ _ hs9 (fun _ => ?_)
              clear hK K
              simp only [Act.put, List.setIfInBounds_toArray, List.set_cons_zero, List.set_cons_succ]
              refine wpAnyH_take (i := 11) (oi := _) (v := _) rfl (by kernel_rfl) (by kernel_rfl) (by kernel_rfl) (fun _ _ _ h => h) (.inl ⟨by rfl, by intro w hSw; go_simp; with_reducible rfl⟩) hs9 ?_
              simp only [Act.put, List.setIfInBounds_toArray, List.set_cons_zero, List.set_cons_succ]
              refine wpAnyH_ready (rs := [12]) (by kernel_rfl) (by simp) ?_
              refine AllReadyH.cons rfl (fun K hK => ?_) AllReadyH.nil
              go_simp
              refine hK.out _ _ mfE.br (fun _ => ?_)
              clear hK K
              refine wpAnyH_done (by kernel_rfl) ?_ _
              have HE : Hid _ := mfE
              clear mfE mf1 c8 f8 hs9 hg5 ho5
              go_wp2
              go_roundw
              case rel => exact ⟨k + 1, _, by go_num, by omega, HE⟩
              case measure => simp [intOf]; omega
            · have hkN2 : k = N := by omega
              subst hkN2
              have hLF : (lv s).take (lv s).length = lv s := List.take_length
              rw [hN] at hLF
              rw [hLF] at mfi
              go_wp2
              go_roundw
              case rel => exact ⟨j + 1, 11, k4, k5, k6, k7, vl, lv s, by go_num, by go_num, by omega, hp', hkn, hE.out.symm, mfi⟩
              case measure => simp [intOf]; omega
      · have hjn : j = nF := by omega
        subst hjn
        obtain ⟨e4, e5, e6, e7⟩ := hk.out
        have eL := hLL.out
        have E4 : Hid (k4 = fv s (fld (bt s 1)) (fld (bt s 1)).length 1 ∧ k5 = fv s (fld (bt s 1)) (fld (bt s 1)).length 2 ∧ k6 = fv s (fld (bt s 1)) (fld (bt s 1)).length 3 ∧ k7 = fv s (fld (bt s 1)) (fld (bt s 1)).length 4 ∧ L = fL s (fld (bt s 1)) (fld (bt s 1)).length) := by
          unfold Hid
          rw [hK.out, hF.out, hnF]
          exact ⟨e4, e5, e6, e7, eL⟩
        clear e4 e5 e6 e7 eL hk hLL
        obtain ⟨va, vn, vc, hvl, hvn⟩ := mf.out.form
        subst hvl
        obtain ⟨r0, r1, r2, r3, r4, r5, r6, r7, r8⟩ := Bk.c9 mf.out.br
        obtain ⟨t0, t1, t2, t3, t4, t5, t6, t7, t8⟩ := Bk.f9 mf.out.br
        have hXX := mf.out.hX
        have E1 := mf.out.br.setL [.int .i64 (bt s 1), .int .i64 (bt s 2), .int .i64 (a2 s 3), .int .i64 (a2 s 5), .int .i64 k4, .int .i64 k5, .int .i64 k6, .int .i64 k7, .slice va vn vc] 0
        rw [ovr9] at E1
        have E2 := mf.out.fin [.int .i64 (bt s 1), .int .i64 (bt s 2), .int .i64 (a2 s 3), .int .i64 (a2 s 5), .int .i64 k4, .int .i64 k5, .int .i64 k6, .int .i64 k7, .slice va vn vc]
        have HE1 : Hid _ := E1
        have HE2 : Hid _ := E2
        clear E1 E2
        go_wp2
        refine bodyPost_ret (results_cell_row Tryd.results13 _ _ w.heap.size _ _ _ _ rfl HE1.out Tryd.underlying26 rfl (by kernel_rfl)) rfl ⟨va, vn, vc, by rw [← E4.out.1, ← E4.out.2.1, ← E4.out.2.2.1, ← E4.out.2.2.2.1], by rw [← E4.out.2.2.2.2]; exact hvn, by rw [← E4.out.2.2.2.2]; exact HE2.out.1, HE2.out.2⟩
end Go.Proofs.YtabbicfakkehpaaDoor
