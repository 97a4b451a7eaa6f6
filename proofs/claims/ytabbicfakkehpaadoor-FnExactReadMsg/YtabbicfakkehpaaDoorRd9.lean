/- The program's ReadMsg. -/
import Derived.Test.YtabbicfakkehpaaDoorRd8
import Derived.Test.YtabbicfakkehpaaDoorAs1
namespace Go.Proofs.YtabbicfakkehpaaDoor
open Go.RowKit Go.Deep
set_option linter.unusedVariables false
set_option linter.unusedSimpArgs false
set_option maxRecDepth 100000 in
set_option maxHeartbeats 12800000 in
theorem readFrame_any (b d : Int) (s : ByteArray) (w : World) (hgt : Hid (gsB b d = true)) (hs : s.size ≤ 1048576) :
    Calls Tryd.prog 16 #[.agg #[.int .i64 b, .int .i64 d], .string s] w fun e w' => ∃ (m0 m1 m2 m3 m4 m5 m6 m7 : Int) (va : Option Addr) (vn vc : Nat) (v : Value) (L : List Int), e = .returned (.tuple #[.agg #[.int .i64 m0, .int .i64 m1, .int .i64 m2, .int .i64 m3, .int .i64 m4, .int .i64 m5, .int .i64 m6, .int .i64 m7, .slice va vn vc], v]) ∧ OwnLs w.heap.size w'.heap.size w' va vn L ∧ ((rdO b d s = true ∧ v = .nilIface ∧ m0 = bt s 1 ∧ m1 = bt s 2 ∧ m2 = a2 s 3 ∧ m3 = a2 s 5 ∧ m4 = fx s 1 ∧ m5 = fx s 2 ∧ m6 = fx s 3 ∧ m7 = fx s 4 ∧ L = fL s (fld (bt s 1)) (fld (bt s 1)).length) ∨ (rdO b d s = false ∧ ∃ p, v = faV p (rdC b d s))) ∧ Below w.heap.size w w' := by
  go_enter Tryd.func16, Tryd.ntmps16
  go_wp2_with fail
  refine (lengthFault_any s _ hs).mono ?_
  rintro e w1 ⟨⟨v1, rfl, hv⟩, HW⟩
  obtain ⟨KA, KB, HB⟩ := bkAB HW
  have S1 : Hid (Bk w1 w.heap.size #[.int .i64 b, .int .i64 d] 29) := KA
  have R1 : Hid (Bk w1 (w.heap.size + 1) #[.int .i64 0, .int .i64 0, .int .i64 0, .int .i64 0, .int .i64 0, .int .i64 0, .int .i64 0, .int .i64 0, .slice none 0 0] 26) := KB
  have B1 : Hid (Below w.heap.size w w1) := HB
  clear HW KA KB HB
  rcases hv with ⟨h1, rfl⟩ | ⟨h1, p, rfl⟩
  rotate_left
  · have hO : Hid (rdO b d s = false) := (rd_len hgt.out h1).1
    have hC : Hid (rdC b d s = _) := (rd_len hgt.out h1).2
    obtain ⟨q0, q1, q2, q3, q4, q5, q6, q7, q8⟩ := Bk.c9 R1.out
    obtain ⟨f0, f1, f2, f3, f4, f5, f6, f7, f8⟩ := Bk.f9 R1.out
    have HE1 : Hid (Bk (setL w1 (w.heap.size + 1) 0 [.int .i64 0, .int .i64 0, .int .i64 0, .int .i64 0, .int .i64 0, .int .i64 0, .int .i64 0, .int .i64 0, .slice none 0 0]) (w.heap.size + 1) #[.int .i64 0, .int .i64 0, .int .i64 0, .int .i64 0, .int .i64 0, .int .i64 0, .int .i64 0, .int .i64 0, .slice none 0 0] 26) := by have h := R1.out.setL [.int .i64 0, .int .i64 0, .int .i64 0, .int .i64 0, .int .i64 0, .int .i64 0, .int .i64 0, .int .i64 0, .slice none 0 0] 0; rw [ovr9] at h; exact h
    have HE2 : Hid (Below w.heap.size w (setL w1 (w.heap.size + 1) 0 [.int .i64 0, .int .i64 0, .int .i64 0, .int .i64 0, .int .i64 0, .int .i64 0, .int .i64 0, .int .i64 0, .slice none 0 0])) := setL_below (by omega) _ 0 B1.out
    unfold faV
    go_wp2
    refine bodyPost_ret (results_cell_tmp Tryd.results16 _ _ (w.heap.size + 1) _ _ _ _ _ rfl rfl HE1.out Tryd.underlying26 rfl (by kernel_rfl)) rfl ⟨0, 0, 0, 0, 0, 0, 0, 0, none, 0, 0, _, [], rfl, ⟨rfl, .inl rfl⟩, .inr ⟨hO.out, _, by rw [hC.out]; rfl⟩, HE2.out⟩
  go_wp2_with fail
  refine (kindFault_any s _ hs).mono ?_
  rintro e w2 ⟨⟨v2, rfl, hv⟩, HW⟩
  have S2 : Hid (Bk w2 w.heap.size #[.int .i64 b, .int .i64 d] 29) := S1.out.keep HW
  have R2 : Hid (Bk w2 (w.heap.size + 1) #[.int .i64 0, .int .i64 0, .int .i64 0, .int .i64 0, .int .i64 0, .int .i64 0, .int .i64 0, .int .i64 0, .slice none 0 0] 26) := R1.out.keep HW
  have B2 : Hid (Below w.heap.size w w2) := belt B1.out HW
  clear HW S1 R1 B1
  rcases hv with ⟨h2, rfl⟩ | ⟨h2, p, rfl⟩
  rotate_left
  · have hO : Hid (rdO b d s = false) := (rd_kn hgt.out h1 h2).1
    have hC : Hid (rdC b d s = _) := (rd_kn hgt.out h1 h2).2
    obtain ⟨q0, q1, q2, q3, q4, q5, q6, q7, q8⟩ := Bk.c9 R2.out
    obtain ⟨f0, f1, f2, f3, f4, f5, f6, f7, f8⟩ := Bk.f9 R2.out
    have HE1 : Hid (Bk (setL w2 (w.heap.size + 1) 0 [.int .i64 0, .int .i64 0, .int .i64 0, .int .i64 0, .int .i64 0, .int .i64 0, .int .i64 0, .int .i64 0, .slice none 0 0]) (w.heap.size + 1) #[.int .i64 0, .int .i64 0, .int .i64 0, .int .i64 0, .int .i64 0, .int .i64 0, .int .i64 0, .int .i64 0, .slice none 0 0] 26) := by have h := R2.out.setL [.int .i64 0, .int .i64 0, .int .i64 0, .int .i64 0, .int .i64 0, .int .i64 0, .int .i64 0, .int .i64 0, .slice none 0 0] 0; rw [ovr9] at h; exact h
    have HE2 : Hid (Below w.heap.size w (setL w2 (w.heap.size + 1) 0 [.int .i64 0, .int .i64 0, .int .i64 0, .int .i64 0, .int .i64 0, .int .i64 0, .int .i64 0, .int .i64 0, .slice none 0 0])) := setL_below (by omega) _ 0 B2.out
    unfold faV
    go_wp2
    refine bodyPost_ret (results_cell_tmp Tryd.results16 _ _ (w.heap.size + 1) _ _ _ _ _ rfl rfl HE1.out Tryd.underlying26 rfl (by kernel_rfl)) rfl ⟨0, 0, 0, 0, 0, 0, 0, 0, none, 0, 0, _, [], rfl, ⟨rfl, .inl rfl⟩, .inr ⟨hO.out, _, by rw [hC.out]; rfl⟩, HE2.out⟩
  have h22 : 2 < s.size := by
    have h := h2
    unfold knB at h
    simp at h
    exact h.1
  go_wp2_with fail
  refine (formFault_any s _ hs h22).mono ?_
  rintro e w3 ⟨⟨v3, rfl, hv⟩, HW⟩
  have S3 : Hid (Bk w3 w.heap.size #[.int .i64 b, .int .i64 d] 29) := S2.out.keep HW
  have R3 : Hid (Bk w3 (w.heap.size + 1) #[.int .i64 0, .int .i64 0, .int .i64 0, .int .i64 0, .int .i64 0, .int .i64 0, .int .i64 0, .int .i64 0, .slice none 0 0] 26) := R2.out.keep HW
  have B3 : Hid (Below w.heap.size w w3) := belt B2.out HW
  clear HW S2 R2 B2
  rcases hv with ⟨h3, rfl⟩ | ⟨h3, p, rfl⟩
  rotate_left
  · have hO : Hid (rdO b d s = false) := (rd_fm hgt.out h1 h2 h3).1
    have hC : Hid (rdC b d s = _) := (rd_fm hgt.out h1 h2 h3).2
    obtain ⟨q0, q1, q2, q3, q4, q5, q6, q7, q8⟩ := Bk.c9 R3.out
    obtain ⟨f0, f1, f2, f3, f4, f5, f6, f7, f8⟩ := Bk.f9 R3.out
    have HE1 : Hid (Bk (setL w3 (w.heap.size + 1) 0 [.int .i64 0, .int .i64 0, .int .i64 0, .int .i64 0, .int .i64 0, .int .i64 0, .int .i64 0, .int .i64 0, .slice none 0 0]) (w.heap.size + 1) #[.int .i64 0, .int .i64 0, .int .i64 0, .int .i64 0, .int .i64 0, .int .i64 0, .int .i64 0, .int .i64 0, .slice none 0 0] 26) := by have h := R3.out.setL [.int .i64 0, .int .i64 0, .int .i64 0, .int .i64 0, .int .i64 0, .int .i64 0, .int .i64 0, .int .i64 0, .slice none 0 0] 0; rw [ovr9] at h; exact h
    have HE2 : Hid (Below w.heap.size w (setL w3 (w.heap.size + 1) 0 [.int .i64 0, .int .i64 0, .int .i64 0, .int .i64 0, .int .i64 0, .int .i64 0, .int .i64 0, .int .i64 0, .slice none 0 0])) := setL_below (by omega) _ 0 B3.out
    unfold faV
    go_wp2
    refine bodyPost_ret (results_cell_tmp Tryd.results16 _ _ (w.heap.size + 1) _ _ _ _ _ rfl rfl HE1.out Tryd.underlying26 rfl (by kernel_rfl)) rfl ⟨0, 0, 0, 0, 0, 0, 0, 0, none, 0, 0, _, [], rfl, ⟨rfl, .inl rfl⟩, .inr ⟨hO.out, _, by rw [hC.out]; rfl⟩, HE2.out⟩
  obtain ⟨h6, hp0, hl0⟩ := form_at h3
  have hl1 : bt s 1 = 5 → 9 < s.size ∧ 10 + 2 * (bt s 9).toNat ≤ s.size := fun k => ⟨(hl0 k).1, (hl0 k).2.1⟩
  have HY : Hid (okA b d s = true → rdO b d s = true) := fun k => (rd_yes hgt.out h1 h2 h3 k).1
  have HN : Hid (okA b d s = false → rdO b d s = false ∧ rdC b d s = 4) := fun k => rd_sp hgt.out h1 h2 h3 k
  have HP0 : Hid (∀ j, j < (fld (bt s 1)).length → ¬ (fld (bt s 1)).getD j 0 = 5 → 7 + 2 * j + 1 < s.size) := hp0
  have HL0 : Hid (bt s 1 = 5 → 9 < s.size ∧ 10 + 2 * (bt s 9).toNat ≤ s.size) := hl1
  clear hp0 hl0 hl1 h1 h2 h3
  obtain ⟨s0, s1⟩ := Bk.c2 S3.out
  go_wp2_with fail
  clear s0 s1
  refine (readFields_any b d s _ hgt.out hs h6 HP0.out HL0.out).mono ?_
  rintro e w4 ⟨va, vn, vc, v, rfl, hol, hfa, HW⟩
  have HXB : w.heap.size + 1 < w3.heap.size := R3.out.lt
  have S4 : Hid (Bk w4 w.heap.size #[.int .i64 b, .int .i64 d] 29) := S3.out.keep HW
  have R4 : Hid (Bk w4 (w.heap.size + 1) #[.int .i64 0, .int .i64 0, .int .i64 0, .int .i64 0, .int .i64 0, .int .i64 0, .int .i64 0, .int .i64 0, .slice none 0 0] 26) := R3.out.keep HW
  have B4 : Hid (Below w.heap.size w w4) := belt B3.out HW
  clear HW S3 R3 B3
  have e1 : Hid (fv s (fld (bt s 1)) (fld (bt s 1)).length 1 = fx s 1) := rfl
  have e2 : Hid (fv s (fld (bt s 1)) (fld (bt s 1)).length 2 = fx s 2) := rfl
  have e3 : Hid (fv s (fld (bt s 1)) (fld (bt s 1)).length 3 = fx s 3) := rfl
  have e4 : Hid (fv s (fld (bt s 1)) (fld (bt s 1)).length 4 = fx s 4) := rfl
  rw [e1.out, e2.out, e3.out, e4.out]
  clear e1 e2 e3 e4
  have HOL : Hid (OwnLs w3.heap.size w4.heap.size w4 va vn (fL s (fld (bt s 1)) (fld (bt s 1)).length)) := hol
  have HFA : Hid (FaB (okA b d s) 4 v) := hfa
  clear hol hfa
  obtain ⟨q0, q1, q2, q3, q4, q5, q6, q7, q8⟩ := Bk.c9 R4.out
  obtain ⟨f0, f1, f2, f3, f4, f5, f6, f7, f8⟩ := Bk.f9 R4.out
  have HE1 : Hid (Bk (setL w4 (w.heap.size + 1) 0 [.int .i64 (bt s 1), .int .i64 (bt s 2), .int .i64 (a2 s 3), .int .i64 (a2 s 5), .int .i64 (fx s 1), .int .i64 (fx s 2), .int .i64 (fx s 3), .int .i64 (fx s 4), .slice va vn vc]) (w.heap.size + 1) #[.int .i64 (bt s 1), .int .i64 (bt s 2), .int .i64 (a2 s 3), .int .i64 (a2 s 5), .int .i64 (fx s 1), .int .i64 (fx s 2), .int .i64 (fx s 3), .int .i64 (fx s 4), .slice va vn vc] 26) := by have h := R4.out.setL [.int .i64 (bt s 1), .int .i64 (bt s 2), .int .i64 (a2 s 3), .int .i64 (a2 s 5), .int .i64 (fx s 1), .int .i64 (fx s 2), .int .i64 (fx s 3), .int .i64 (fx s 4), .slice va vn vc] 0; rw [ovr9] at h; exact h
  have HE2 : Hid (Below w.heap.size w (setL w4 (w.heap.size + 1) 0 [.int .i64 (bt s 1), .int .i64 (bt s 2), .int .i64 (a2 s 3), .int .i64 (a2 s 5), .int .i64 (fx s 1), .int .i64 (fx s 2), .int .i64 (fx s 3), .int .i64 (fx s 4), .slice va vn vc])) := setL_below (by omega) _ 0 B4.out
  have HE3 : Hid (OwnLs w.heap.size (setL w4 (w.heap.size + 1) 0 [.int .i64 (bt s 1), .int .i64 (bt s 2), .int .i64 (a2 s 3), .int .i64 (a2 s 5), .int .i64 (fx s 1), .int .i64 (fx s 2), .int .i64 (fx s 3), .int .i64 (fx s 4), .slice va vn vc]).heap.size (setL w4 (w.heap.size + 1) 0 [.int .i64 (bt s 1), .int .i64 (bt s 2), .int .i64 (a2 s 3), .int .i64 (a2 s 5), .int .i64 (fx s 1), .int .i64 (fx s 2), .int .i64 (fx s 3), .int .i64 (fx s 4), .slice va vn vc]) va vn (fL s (fld (bt s 1)) (fld (bt s 1)).length)) := (HOL.out.blocks (fun k h1 h2 h3 => setL_oth (by omega) _ w4 0)).wide (by omega) (by rw [setL_size]; exact Nat.le_refl _)
  clear HOL
  go_wp2
  refine bodyPost_ret (results_cell_tmp Tryd.results16 _ _ (w.heap.size + 1) _ _ _ _ v rfl rfl HE1.out Tryd.underlying26 rfl (by kernel_rfl)) rfl ⟨_, _, _, _, _, _, _, _, va, vn, vc, v, _, rfl, HE3.out, ?_, HE2.out⟩
  rcases HFA.out with ⟨h, rfl⟩ | ⟨h, p, rfl⟩
  · exact .inl ⟨HY.out h, rfl, rfl, rfl, rfl, rfl, rfl, rfl, rfl, rfl, rfl⟩
  · exact .inr ⟨(HN.out h).1, p, by rw [(HN.out h).2]⟩
theorem rdC_yes {b d : Int} {s : ByteArray} (h : rdO b d s = true) : rdC b d s = 0 := by
  unfold rdO at h
  simp only [Bool.and_eq_true] at h
  obtain ⟨⟨⟨⟨h1, h2⟩, h3⟩, h4⟩, h5⟩ := h
  exact (rd_yes h1 h2 h3 h4 h5).2
set_option maxRecDepth 100000 in
set_option maxHeartbeats 12800000 in
theorem ReadMsg_any (b d : Int) (s : ByteArray) (w : World) (hs : s.size ≤ 1048576) (hag : AsG w) :
    Calls Tryd.prog 6 #[.agg #[.int .i64 b, .int .i64 d], .string s] w fun e w' => ∃ va vn vc, e = .returned (ansV b d s va vn vc) ∧ OwnLs w.heap.size w'.heap.size w' va vn (rl b d s) ∧ Below w.heap.size w w' := by
  by_cases hg0 : gsB b d = false
  · have hg : Hid (gsB b d = false) := hg0
    have hO : Hid (rdO b d s = false) := (rd_gs hg0).1
    have hC : Hid (rdC b d s = 0) := (rd_gs hg0).2
    clear hg0 hag
    go_enter Tryd.func6, Tryd.ntmps6
    go_wp2_with fail
    refine (good_any b d _).mono ?_
    rintro e w1 ⟨rfl, HW⟩
    obtain ⟨KA, KB, HB⟩ := bkAB HW
    have R1 : Hid (Bk w1 (w.heap.size + 1) #[.int .i64 0, .int .i64 0, .int .i64 0, .int .i64 0, .int .i64 0, .int .i64 0, .int .i64 0, .int .i64 0, .slice none 0 0] 26) := KB
    have B1 : Hid (Below w.heap.size w w1) := HB
    clear HW KA KB HB
    rw [hg.out]
    obtain ⟨q0, q1, q2, q3, q4, q5, q6, q7, q8⟩ := Bk.c9 R1.out
    obtain ⟨f0, f1, f2, f3, f4, f5, f6, f7, f8⟩ := Bk.f9 R1.out
    have HE1 : Hid (Bk (setL w1 (w.heap.size + 1) 0 [.int .i64 0, .int .i64 0, .int .i64 0, .int .i64 0, .int .i64 0, .int .i64 0, .int .i64 0, .int .i64 0, .slice none 0 0]) (w.heap.size + 1) #[.int .i64 0, .int .i64 0, .int .i64 0, .int .i64 0, .int .i64 0, .int .i64 0, .int .i64 0, .int .i64 0, .slice none 0 0] 26) := by have h := R1.out.setL [.int .i64 0, .int .i64 0, .int .i64 0, .int .i64 0, .int .i64 0, .int .i64 0, .int .i64 0, .int .i64 0, .slice none 0 0] 0; rw [ovr9] at h; exact h
    have HE2 : Hid (Below w.heap.size w (setL w1 (w.heap.size + 1) 0 [.int .i64 0, .int .i64 0, .int .i64 0, .int .i64 0, .int .i64 0, .int .i64 0, .int .i64 0, .int .i64 0, .slice none 0 0])) := setL_below (by omega) _ 0 B1.out
    go_wp2
    refine bodyPost_ret (results_cell_tmp2 Tryd.results6 _ _ (w.heap.size + 1) _ _ _ _ _ _ rfl rfl rfl HE1.out Tryd.underlying26 rfl (by kernel_rfl)) rfl ⟨none, 0, 0, (congrArg Ending.returned (ansV_no hO.out hC.out)).symm, by rw [rl_no hO.out]; exact ⟨rfl, .inl rfl⟩, HE2.out⟩
  have hgt : Hid (gsB b d = true) := by unfold Hid; simpa using hg0
  clear hg0
  have hag0 := hag.lt
  go_enter Tryd.func6, Tryd.ntmps6
  go_wp2_with fail
  refine (good_any b d _).mono ?_
  rintro e w1 ⟨rfl, HW⟩
  obtain ⟨KA, KB, HB⟩ := bkAB HW
  have S1 : Hid (Bk w1 w.heap.size #[.int .i64 b, .int .i64 d] 29) := KA
  have R1 : Hid (Bk w1 (w.heap.size + 1) #[.int .i64 0, .int .i64 0, .int .i64 0, .int .i64 0, .int .i64 0, .int .i64 0, .int .i64 0, .int .i64 0, .slice none 0 0] 26) := KB
  have B1 : Hid (Below w.heap.size w w1) := HB
  clear HW KA KB HB
  rw [hgt.out]
  obtain ⟨s0, s1⟩ := Bk.c2 S1.out
  go_wp2_with fail
  clear s0 s1
  refine (readFrame_any b d s _ hgt hs).mono ?_
  rintro e w2 ⟨m0, m1, m2, m3, m4, m5, m6, m7, va, vn, vc, v, L, rfl, hol, hca, HW⟩
  have HXB : w.heap.size + 1 < w1.heap.size := R1.out.lt
  have R2 : Hid (Bk w2 (w.heap.size + 1) #[.int .i64 0, .int .i64 0, .int .i64 0, .int .i64 0, .int .i64 0, .int .i64 0, .int .i64 0, .int .i64 0, .slice none 0 0] 26) := R1.out.keep HW
  have B2 : Hid (Below w.heap.size w w2) := belt B1.out HW
  have hXW : w1.heap.size ≤ w2.heap.size := HW.size
  have HOL : Hid (OwnLs w1.heap.size w2.heap.size w2 va vn L) := hol
  have HAG : Hid (AsG w2) := hag.keep B2.out
  have HW0 : Hid (w.heap.size + 2 ≤ w2.heap.size) := by unfold Hid; omega
  clear HW S1 R1 B1 hol hag
  rcases hca with ⟨hO0, rfl, rfl, rfl, rfl, rfl, rfl, rfl, rfl, rfl, rfl⟩ | ⟨hO0, p, rfl⟩
  · have hO : Hid (rdO b d s = true) := hO0
    have hC : Hid (rdC b d s = 0) := rdC_yes hO0
    clear hO0 HAG
    go_wp2_with fail
    refine (as_nil _ _).mono ?_
    rintro e vx ⟨rfl, hx⟩
    have hx' := hx.symm
    clear hx
    subst hx'
    have hb := ((Below.refl w2.heap.size w2).alloc (Nat.le_refl _) (.cells #[.int .i64 (bt s 1), .int .i64 (bt s 2), .int .i64 (a2 s 3), .int .i64 (a2 s 5), .int .i64 (fx s 1), .int .i64 (fx s 2), .int .i64 (fx s 3), .int .i64 (fx s 4), .slice va vn vc] 26)).alloc (by simp) (.cells #[.int .i64 0] 44)
    have R3 : Hid (Bk ((w2.alloc (.cells #[.int .i64 (bt s 1), .int .i64 (bt s 2), .int .i64 (a2 s 3), .int .i64 (a2 s 5), .int .i64 (fx s 1), .int .i64 (fx s 2), .int .i64 (fx s 3), .int .i64 (fx s 4), .slice va vn vc] 26)).alloc (.cells #[.int .i64 0] 44)) (w.heap.size + 1) #[.int .i64 0, .int .i64 0, .int .i64 0, .int .i64 0, .int .i64 0, .int .i64 0, .int .i64 0, .int .i64 0, .slice none 0 0] 26) := R2.out.keep hb
    have B3 : Hid (Below w.heap.size w ((w2.alloc (.cells #[.int .i64 (bt s 1), .int .i64 (bt s 2), .int .i64 (a2 s 3), .int .i64 (a2 s 5), .int .i64 (fx s 1), .int .i64 (fx s 2), .int .i64 (fx s 3), .int .i64 (fx s 4), .slice va vn vc] 26)).alloc (.cells #[.int .i64 0] 44))) := belt B2.out hb
    have KX : Hid (Bk ((w2.alloc (.cells #[.int .i64 (bt s 1), .int .i64 (bt s 2), .int .i64 (a2 s 3), .int .i64 (a2 s 5), .int .i64 (fx s 1), .int .i64 (fx s 2), .int .i64 (fx s 3), .int .i64 (fx s 4), .slice va vn vc] 26)).alloc (.cells #[.int .i64 0] 44)) w2.heap.size #[.int .i64 (bt s 1), .int .i64 (bt s 2), .int .i64 (a2 s 3), .int .i64 (a2 s 5), .int .i64 (fx s 1), .int .i64 (fx s 2), .int .i64 (fx s 3), .int .i64 (fx s 4), .slice va vn vc] 26) := (Bk.new _ _ _).alloc _
    have HO3 : Hid (OwnLs w1.heap.size w2.heap.size ((w2.alloc (.cells #[.int .i64 (bt s 1), .int .i64 (bt s 2), .int .i64 (a2 s 3), .int .i64 (a2 s 5), .int .i64 (fx s 1), .int .i64 (fx s 2), .int .i64 (fx s 3), .int .i64 (fx s 4), .slice va vn vc] 26)).alloc (.cells #[.int .i64 0] 44)) va vn (fL s (fld (bt s 1)) (fld (bt s 1)).length)) := HOL.out.keep hb
    have hz3 : Hid (w2.heap.size ≤ ((w2.alloc (.cells #[.int .i64 (bt s 1), .int .i64 (bt s 2), .int .i64 (a2 s 3), .int .i64 (a2 s 5), .int .i64 (fx s 1), .int .i64 (fx s 2), .int .i64 (fx s 3), .int .i64 (fx s 4), .slice va vn vc] 26)).alloc (.cells #[.int .i64 0] 44)).heap.size) := hb.size
    clear hb R2 B2 HOL
    generalize (w2.alloc (.cells #[.int .i64 (bt s 1), .int .i64 (bt s 2), .int .i64 (a2 s 3), .int .i64 (a2 s 5), .int .i64 (fx s 1), .int .i64 (fx s 2), .int .i64 (fx s 3), .int .i64 (fx s 4), .slice va vn vc] 26)).alloc (.cells #[.int .i64 0] 44) = w3 at *
    obtain ⟨q0, q1, q2, q3, q4, q5, q6, q7, q8⟩ := Bk.c9 KX.out
    obtain ⟨r0, r1, r2, r3, r4, r5, r6, r7, r8⟩ := Bk.c9 R3.out
    obtain ⟨f0, f1, f2, f3, f4, f5, f6, f7, f8⟩ := Bk.f9 R3.out
    have HE1 : Hid (Bk (setL w3 (w.heap.size + 1) 0 [.int .i64 (bt s 1), .int .i64 (bt s 2), .int .i64 (a2 s 3), .int .i64 (a2 s 5), .int .i64 (fx s 1), .int .i64 (fx s 2), .int .i64 (fx s 3), .int .i64 (fx s 4), .slice va vn vc]) (w.heap.size + 1) #[.int .i64 (bt s 1), .int .i64 (bt s 2), .int .i64 (a2 s 3), .int .i64 (a2 s 5), .int .i64 (fx s 1), .int .i64 (fx s 2), .int .i64 (fx s 3), .int .i64 (fx s 4), .slice va vn vc] 26) := by have h := R3.out.setL [.int .i64 (bt s 1), .int .i64 (bt s 2), .int .i64 (a2 s 3), .int .i64 (a2 s 5), .int .i64 (fx s 1), .int .i64 (fx s 2), .int .i64 (fx s 3), .int .i64 (fx s 4), .slice va vn vc] 0; rw [ovr9] at h; exact h
    have HE2 : Hid (Below w.heap.size w (setL w3 (w.heap.size + 1) 0 [.int .i64 (bt s 1), .int .i64 (bt s 2), .int .i64 (a2 s 3), .int .i64 (a2 s 5), .int .i64 (fx s 1), .int .i64 (fx s 2), .int .i64 (fx s 3), .int .i64 (fx s 4), .slice va vn vc])) := setL_below (by omega) _ 0 B3.out
    have HE3 : Hid (OwnLs w.heap.size (setL w3 (w.heap.size + 1) 0 [.int .i64 (bt s 1), .int .i64 (bt s 2), .int .i64 (a2 s 3), .int .i64 (a2 s 5), .int .i64 (fx s 1), .int .i64 (fx s 2), .int .i64 (fx s 3), .int .i64 (fx s 4), .slice va vn vc]).heap.size (setL w3 (w.heap.size + 1) 0 [.int .i64 (bt s 1), .int .i64 (bt s 2), .int .i64 (a2 s 3), .int .i64 (a2 s 5), .int .i64 (fx s 1), .int .i64 (fx s 2), .int .i64 (fx s 3), .int .i64 (fx s 4), .slice va vn vc]) va vn (fL s (fld (bt s 1)) (fld (bt s 1)).length)) := (HO3.out.blocks (fun k h1 h2 h3 => setL_oth (by omega) _ w3 0)).wide (by omega) (by rw [setL_size]; exact hz3.out)
    go_wp2
    refine bodyPost_ret (results_cell_tmp2 Tryd.results6 _ _ (w.heap.size + 1) _ _ _ _ _ _ rfl rfl rfl HE1.out Tryd.underlying26 rfl (by kernel_rfl)) rfl ⟨va, vn, vc, (congrArg Ending.returned (ansV_yes hO.out hC.out)).symm, by rw [rl_yes hO.out]; exact HE3.out, HE2.out⟩
  · have hO : Hid (rdO b d s = false) := hO0
    obtain ⟨c, hC⟩ : ∃ c, Hid (rdC b d s = c) := ⟨_, rfl⟩
    rw [hC.out]
    unfold faV
    clear hO0 HOL
    go_wp2_with fail
    have hb := ((Below.refl w2.heap.size w2).alloc (Nat.le_refl _) (.cells #[.int .i64 m0, .int .i64 m1, .int .i64 m2, .int .i64 m3, .int .i64 m4, .int .i64 m5, .int .i64 m6, .int .i64 m7, .slice va vn vc] 26)).alloc (by simp) (.cells #[.int .i64 0] 44)
    have HT : Bk ((w2.alloc (.cells #[.int .i64 m0, .int .i64 m1, .int .i64 m2, .int .i64 m3, .int .i64 m4, .int .i64 m5, .int .i64 m6, .int .i64 m7, .slice va vn vc] 26)).alloc (.cells #[.int .i64 0] 44)) (w2.heap.size + 1) #[.int .i64 0] 44 := by
      have h := Bk.new (w2.alloc (.cells #[.int .i64 m0, .int .i64 m1, .int .i64 m2, .int .i64 m3, .int .i64 m4, .int .i64 m5, .int .i64 m6, .int .i64 m7, .slice va vn vc] 26)) #[.int .i64 0] 44
      simp only [World.size_alloc] at h
      exact h
    refine (As_hit p c (w2.heap.size + 1) 0 _ (HAG.out.keep hb) HT).mono ?_
    rintro e w4 ⟨rfl, HW⟩
    have hsz : (((w2.alloc (.cells #[.int .i64 m0, .int .i64 m1, .int .i64 m2, .int .i64 m3, .int .i64 m4, .int .i64 m5, .int .i64 m6, .int .i64 m7, .slice va vn vc] 26)).alloc (.cells #[.int .i64 0] 44)).setCell ⟨w2.heap.size + 1, 0, none⟩ (.int .i64 c)).heap.size = ((w2.alloc (.cells #[.int .i64 m0, .int .i64 m1, .int .i64 m2, .int .i64 m3, .int .i64 m4, .int .i64 m5, .int .i64 m6, .int .i64 m7, .slice va vn vc] 26)).alloc (.cells #[.int .i64 0] 44)).heap.size := by simp [World.setCell]
    have KT : Hid (Bk w4 (w2.heap.size + 1) #[.int .i64 c] 44) := by
      unfold Hid
      have h := (HT.set 0 (.int .i64 c)).keepN HW HT.lt
      simpa using h
    have R4 : Hid (Bk w4 (w.heap.size + 1) #[.int .i64 0, .int .i64 0, .int .i64 0, .int .i64 0, .int .i64 0, .int .i64 0, .int .i64 0, .int .i64 0, .slice none 0 0] 26) := ((R2.out.keep hb).oth (by have := HW0.out; omega) 0 (.int .i64 c)).keepN HW (Nat.lt_of_lt_of_le R2.out.lt hb.size)
    have B4 : Hid (Below w.heap.size w w4) := by
      have h1 : Below w.heap.size w (((w2.alloc (.cells #[.int .i64 m0, .int .i64 m1, .int .i64 m2, .int .i64 m3, .int .i64 m4, .int .i64 m5, .int .i64 m6, .int .i64 m7, .slice va vn vc] 26)).alloc (.cells #[.int .i64 0] 44)).setCell ⟨w2.heap.size + 1, 0, none⟩ (.int .i64 c)) := (belt B2.out hb).setCell (p := ⟨w2.heap.size + 1, 0, none⟩) (by have := HW0.out; simp; omega) _
      refine h1.trans (HW.mono ?_)
      have := hb.size
      have := HW0.out
      omega
    clear HW HT hb hsz R2 B2 HAG
    obtain ⟨r0, r1, r2, r3, r4, r5, r6, r7, r8⟩ := Bk.c9 R4.out
    obtain ⟨f0, f1, f2, f3, f4, f5, f6, f7, f8⟩ := Bk.f9 R4.out
    have t0 := KT.out.cell 0
    simp at t0
    have HE1 : Hid (Bk (setL w4 (w.heap.size + 1) 0 [.int .i64 0, .int .i64 0, .int .i64 0, .int .i64 0, .int .i64 0, .int .i64 0, .int .i64 0, .int .i64 0, .slice none 0 0]) (w.heap.size + 1) #[.int .i64 0, .int .i64 0, .int .i64 0, .int .i64 0, .int .i64 0, .int .i64 0, .int .i64 0, .int .i64 0, .slice none 0 0] 26) := by have h := R4.out.setL [.int .i64 0, .int .i64 0, .int .i64 0, .int .i64 0, .int .i64 0, .int .i64 0, .int .i64 0, .int .i64 0, .slice none 0 0] 0; rw [ovr9] at h; exact h
    have HE2 : Hid (Below w.heap.size w (setL w4 (w.heap.size + 1) 0 [.int .i64 0, .int .i64 0, .int .i64 0, .int .i64 0, .int .i64 0, .int .i64 0, .int .i64 0, .int .i64 0, .slice none 0 0])) := setL_below (by omega) _ 0 B4.out
    have hne : Hid (w.heap.size + 1 < w2.heap.size + 1) := by unfold Hid; have := HW0.out; omega
    have hne2 := hne.out
    go_wp2_with fail
    go_region
    change Exit.then _ _ _ _ (setL w4 (w.heap.size + 1) 0 [.int .i64 0, .int .i64 0, .int .i64 0, .int .i64 0, .int .i64 0, .int .i64 0, .int .i64 0, .int .i64 0, .slice none 0 0]).drew
    obtain ⟨wz, hwz⟩ : ∃ z, setL w4 (w.heap.size + 1) 0 [.int .i64 0, .int .i64 0, .int .i64 0, .int .i64 0, .int .i64 0, .int .i64 0, .int .i64 0, .int .i64 0, .slice none 0 0] = z := ⟨_, rfl⟩
    rw [hwz] at HE1 HE2
    rw [hwz]
    clear hwz
    go_wp2
    refine bodyPost_ret (results_cell_tmp2 Tryd.results6 _ _ (w.heap.size + 1) _ _ _ _ _ _ rfl rfl rfl HE1.out.drew Tryd.underlying26 rfl (by kernel_rfl)) rfl ⟨none, 0, 0, (congrArg Ending.returned (ansV_no hO.out hC.out)).symm, by rw [rl_no hO.out]; exact ⟨rfl, .inl rfl⟩, HE2.out.drew⟩
set_option maxHeartbeats 1600000 in
theorem markMsg_own (B T vc : Nat) (va : Option Addr) (vn : Nat) (x0 x1 x2 x3 x4 x5 x6 x7 : Int) (l : List Int) (k0 : Int) (w : World) (hm : vn ≤ 1048576) (k1 : 0 ≤ k0) (k2 : k0 ≤ 1099511627776) (ho : OwnLs B T w va vn l) (hB : B ≤ w.heap.size) (hT : T ≤ w.heap.size) :
    Calls Tryd.prog 8 #[.agg #[.int .i64 x0, .int .i64 x1, .int .i64 x2, .int .i64 x3, .int .i64 x4, .int .i64 x5, .int .i64 x6, .int .i64 x7, .slice va vn vc], .int .i64 k0] w fun e w' => e = .returned (.int .i64 (k0 + (vn : Int))) ∧ Mk B T w w' ∧ OwnLs B T w' va vn (mrk k0 l vn) := by
  go_enter Tryd.func8, Tryd.ntmps8
  go_wp2_with fail
  refine (markIntS_own B T vc va vn l k0 _ hm k1 k2 (ho.keep (belA _ _))).mono ?_
  rintro e w1 ⟨rfl, hmk, ho1⟩
  have HM : Hid (Mk B T w w1) := ⟨fun n w0 hn hb => hmk.below n w0 hn (hb.alloc (by omega) _), fun k hk hn => (hmk.block k (by rw [World.size_alloc]; omega) hn).trans (heap_alloc_old _ _ hk), by have := hmk.size; rw [World.size_alloc] at this; omega⟩
  have HO : Hid _ := ho1
  clear hmk ho1
  go_wp2
  go_ret
  exact ⟨rfl, HM.out, HO.out⟩
set_option maxHeartbeats 1600000 in
theorem heldMsg_own (B T vc : Nat) (va : Option Addr) (vn : Nat) (x0 x1 x2 x3 x4 x5 x6 x7 : Int) (l : List Int) (k0 : Int) (w : World) (hm : vn ≤ 1048576) (hz : l.length = vn) (k1 : 0 ≤ k0) (k2 : k0 ≤ 1099511627776) (ho : OwnLs B T w va vn (mrk k0 l vn)) :
    Calls Tryd.prog 9 #[.agg #[.int .i64 x0, .int .i64 x1, .int .i64 x2, .int .i64 x3, .int .i64 x4, .int .i64 x5, .int .i64 x6, .int .i64 x7, .slice va vn vc], .int .i64 k0] w fun e w' => e = .returned (.int .i64 (k0 + (vn : Int))) ∧ Below w.heap.size w w' := by
  have hk : ¬ (k0 + (vn : Int) < 0) := by omega
  go_enter Tryd.func9, Tryd.ntmps9
  go_wp2_with fail
  refine (heldIntS_own B T vc va vn l k0 _ hm hz k1 k2 (ho.keep (belA _ _))).mono ?_
  rintro e w1 ⟨rfl, hw⟩
  have HB : Hid (Below w.heap.size w w1) := bel1 hw (by simp)
  clear hw
  go_wp2
  go_ret
  exact ⟨rfl, HB.out⟩
end Go.Proofs.YtabbicfakkehpaaDoor
