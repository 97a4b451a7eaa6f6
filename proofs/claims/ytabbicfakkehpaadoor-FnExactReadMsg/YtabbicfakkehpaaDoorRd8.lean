/- The specification's ReadMsg. -/
import Derived.Test.YtabbicfakkehpaaDoorRd7
namespace Go.Proofs.YtabbicfakkehpaaDoor
open Go.RowKit Go.Deep
set_option linter.unusedVariables false
set_option linter.unusedSimpArgs false
theorem results_cell_tmp2 {fn : Func} {p q r : Tmp} {ty : TypeId} (h : fn.results = #[.cell p ty, .tmp q, .tmp r]) (tmps : Array Value) (w : World) (g : Nat) (t : TypeId) (cs : Array Value) (fr : Nat × Nat) (d : TypeDesc) (u1 u2 : Value)
    (hp : tmps.getD p undef = .pointer (some ⟨g, 0, none⟩)) (hq : tmps.getD q undef = u1) (hr : tmps.getD r undef = u2) (hg : w.heap[g]? = some (.cells cs t fr))
    (hu : Tryd.prog.underlying ty = some d) (hd : isRowD d = true) (hi : (Tryd.prog.info? ty).map (·.size) = some cs.size) :
    (results fn tmps).run Tryd.prog w = .ok (.tuple #[.agg cs, u1, u2]) w := by
  have hp' : tmps[p]?.getD undef = .pointer (some ⟨g, 0, none⟩) := by simpa using hp
  have hq' : tmps[q]?.getD undef = u1 := by simpa using hq
  have hr' : tmps[r]?.getD undef = u2 := by simpa using hr
  have hl := run_loadVar_row w g t ty cs fr d hg hu (by cases d <;> first | rfl | (simp [isRowD] at hd)) hi
  simp [results, h, hp', hq', hr', asAddr, hl]
theorem fL_big (s : ByteArray) (h : bt s 9 ≤ 255) : (fL s (fld (bt s 1)) (fld (bt s 1)).length).length ≤ 255 := by
  have hl := lv_len s
  generalize fld (bt s 1) = F
  induction F.length with
  | zero => simp [fL]
  | succ j ih =>
    show (if F.getD j 0 = 5 then lv s else fL s F j).length ≤ 255
    split
    · omega
    · exact ih
set_option maxRecDepth 100000 in
set_option maxHeartbeats 12800000 in
theorem lRead_any (b d : Int) (s : ByteArray) (w : World) (hs : s.size ≤ 1048576) :
    Calls Tryd.prog 4 #[.agg #[.int .i64 b, .int .i64 d], .string s] w fun e w' => ∃ va vn vc, e = .returned (ansV b d s va vn vc) ∧ (rl b d s).length = vn ∧ RowAt w' va (rl b d s) ∧ Below w.heap.size w w' := by
  by_cases hg0 : gsB b d = false
  · have hg : Hid (gsB b d = false) := hg0
    have hO : Hid (rdO b d s = false) := (rd_gs hg0).1
    have hC : Hid (rdC b d s = _) := (rd_gs hg0).2
    go_enter Tryd.func4, Tryd.ntmps4
    go_wp2_with fail
    refine (lspace_any b d _).mono ?_
    rintro e w1 ⟨rfl, HW⟩
    obtain ⟨KA, KB, HB⟩ := bkAB HW
    have S1 : Hid (Bk w1 w.heap.size #[.int .i64 b, .int .i64 d] 29) := KA
    have R1 : Hid (Bk w1 (w.heap.size + 1) #[.int .i64 0, .int .i64 0, .int .i64 0, .int .i64 0, .int .i64 0, .int .i64 0, .int .i64 0, .int .i64 0, .slice none 0 0] 26) := KB
    have B1 : Hid (Below w.heap.size w w1) := HB
    clear HW KA KB HB
    rw [hg.out]
    obtain ⟨q0, q1, q2, q3, q4, q5, q6, q7, q8⟩ := Bk.c9 R1.out
    obtain ⟨f0, f1, f2, f3, f4, f5, f6, f7, f8⟩ := Bk.f9 R1.out
    have HE1 : Hid (Bk (setL w1 (w.heap.size + 1) 0 [.int .i64 0, .int .i64 0, .int .i64 0, .int .i64 0, .int .i64 0, .int .i64 0, .int .i64 0, .int .i64 0, .slice none 0 0]) (w.heap.size + 1) #[.int .i64 0, .int .i64 0, .int .i64 0, .int .i64 0, .int .i64 0, .int .i64 0, .int .i64 0, .int .i64 0, .slice none 0 0] 26) := by have h := R1.out.setL [.int .i64 0, .int .i64 0, .int .i64 0, .int .i64 0, .int .i64 0, .int .i64 0, .int .i64 0, .int .i64 0, .slice none 0 0] 0; rw [ovr9] at h; exact h
    have HE2 : Hid (Below w.heap.size w (setL w1 (w.heap.size + 1) 0 [.int .i64 0, .int .i64 0, .int .i64 0, .int .i64 0, .int .i64 0, .int .i64 0, .int .i64 0, .int .i64 0, .slice none 0 0])) := setL_below (by omega) _ 0 B1.out
    go_wp2
    refine bodyPost_ret (results_cell_tmp2 Tryd.results4 _ _ (w.heap.size + 1) _ _ _ _ _ _ rfl rfl rfl HE1.out Tryd.underlying26 rfl (by kernel_rfl)) rfl ⟨none, 0, 0, (congrArg Ending.returned (ansV_no hO.out hC.out)).symm, by rw [rl_no hO.out]; rfl, by rw [rl_no hO.out]; exact .inl rfl, HE2.out⟩
  have hgt : gsB b d = true := by simpa using hg0
  have hg : Hid (gsB b d = true) := hgt
  clear hg0
  by_cases hz : s.size = 0
  · have hl0 : lenB s = false := by unfold lenB whB; simp [hz]
    have hl1 : lenC s = 1 := by unfold lenC whB; simp [hz]
    have hO : Hid (rdO b d s = false) := (rd_len hgt hl0).1
    have hC : Hid (rdC b d s = _) := (rd_len hgt hl0).2
    rw [hl1] at hC
    clear hl0 hl1 hgt
    go_enter Tryd.func4, Tryd.ntmps4
    go_wp2_with fail
    refine (lspace_any b d _).mono ?_
    rintro e w1 ⟨rfl, HW⟩
    obtain ⟨KA, KB, HB⟩ := bkAB HW
    have S1 : Hid (Bk w1 w.heap.size #[.int .i64 b, .int .i64 d] 29) := KA
    have R1 : Hid (Bk w1 (w.heap.size + 1) #[.int .i64 0, .int .i64 0, .int .i64 0, .int .i64 0, .int .i64 0, .int .i64 0, .int .i64 0, .int .i64 0, .slice none 0 0] 26) := KB
    have B1 : Hid (Below w.heap.size w w1) := HB
    clear HW KA KB HB
    rw [hg.out]
    obtain ⟨q0, q1, q2, q3, q4, q5, q6, q7, q8⟩ := Bk.c9 R1.out
    obtain ⟨f0, f1, f2, f3, f4, f5, f6, f7, f8⟩ := Bk.f9 R1.out
    have HE1 : Hid (Bk (setL w1 (w.heap.size + 1) 0 [.int .i64 0, .int .i64 0, .int .i64 0, .int .i64 0, .int .i64 0, .int .i64 0, .int .i64 0, .int .i64 0, .slice none 0 0]) (w.heap.size + 1) #[.int .i64 0, .int .i64 0, .int .i64 0, .int .i64 0, .int .i64 0, .int .i64 0, .int .i64 0, .int .i64 0, .slice none 0 0] 26) := by have h := R1.out.setL [.int .i64 0, .int .i64 0, .int .i64 0, .int .i64 0, .int .i64 0, .int .i64 0, .int .i64 0, .int .i64 0, .slice none 0 0] 0; rw [ovr9] at h; exact h
    have HE2 : Hid (Below w.heap.size w (setL w1 (w.heap.size + 1) 0 [.int .i64 0, .int .i64 0, .int .i64 0, .int .i64 0, .int .i64 0, .int .i64 0, .int .i64 0, .int .i64 0, .slice none 0 0])) := setL_below (by omega) _ 0 B1.out
    go_wp2
    refine bodyPost_ret (results_cell_tmp2 Tryd.results4 _ _ (w.heap.size + 1) _ _ _ _ _ _ rfl rfl rfl HE1.out Tryd.underlying26 rfl (by kernel_rfl)) rfl ⟨none, 0, 0, (congrArg Ending.returned (ansV_no hO.out hC.out)).symm, by rw [rl_no hO.out]; rfl, by rw [rl_no hO.out]; exact .inl rfl, HE2.out⟩
  have p0 : 0 < s.size := by omega
  have hz1 : ((s.size : Int) == 0) = false := beq_eq_false_iff_ne.2 (by omega)
  have hfb := fb_eq p0
  have u0 := UInt8.toNat_lt s[0]
  clear hz
  by_cases h1 : (s.size : Int) < (1 : Int) + (s[0].toNat : Int)
  · have hw : whB s = false := decide_eq_false (fun k => by omega)
    have hl0 : lenB s = false := by unfold lenB; rw [hw]; rfl
    have hl1 : lenC s = 1 := by unfold lenC; rw [if_pos hw]
    have hO : Hid (rdO b d s = false) := (rd_len hgt hl0).1
    have hC : Hid (rdC b d s = _) := (rd_len hgt hl0).2
    rw [hl1] at hC
    clear hl0 hl1 hgt hfb hw
    have ch1 : ((s.size : Int) < (1 : Int) + (s[0].toNat : Int)) = True := eq_true h1
    clear h1
    go_enter Tryd.func4, Tryd.ntmps4
    go_wp2_with fail
    refine (lspace_any b d _).mono ?_
    rintro e w1 ⟨rfl, HW⟩
    obtain ⟨KA, KB, HB⟩ := bkAB HW
    have S1 : Hid (Bk w1 w.heap.size #[.int .i64 b, .int .i64 d] 29) := KA
    have R1 : Hid (Bk w1 (w.heap.size + 1) #[.int .i64 0, .int .i64 0, .int .i64 0, .int .i64 0, .int .i64 0, .int .i64 0, .int .i64 0, .int .i64 0, .slice none 0 0] 26) := KB
    have B1 : Hid (Below w.heap.size w w1) := HB
    clear HW KA KB HB
    rw [hg.out]
    obtain ⟨q0, q1, q2, q3, q4, q5, q6, q7, q8⟩ := Bk.c9 R1.out
    obtain ⟨f0, f1, f2, f3, f4, f5, f6, f7, f8⟩ := Bk.f9 R1.out
    have HE1 : Hid (Bk (setL w1 (w.heap.size + 1) 0 [.int .i64 0, .int .i64 0, .int .i64 0, .int .i64 0, .int .i64 0, .int .i64 0, .int .i64 0, .int .i64 0, .slice none 0 0]) (w.heap.size + 1) #[.int .i64 0, .int .i64 0, .int .i64 0, .int .i64 0, .int .i64 0, .int .i64 0, .int .i64 0, .int .i64 0, .slice none 0 0] 26) := by have h := R1.out.setL [.int .i64 0, .int .i64 0, .int .i64 0, .int .i64 0, .int .i64 0, .int .i64 0, .int .i64 0, .int .i64 0, .slice none 0 0] 0; rw [ovr9] at h; exact h
    have HE2 : Hid (Below w.heap.size w (setL w1 (w.heap.size + 1) 0 [.int .i64 0, .int .i64 0, .int .i64 0, .int .i64 0, .int .i64 0, .int .i64 0, .int .i64 0, .int .i64 0, .slice none 0 0])) := setL_below (by omega) _ 0 B1.out
    go_wp2
    refine bodyPost_ret (results_cell_tmp2 Tryd.results4 _ _ (w.heap.size + 1) _ _ _ _ _ _ rfl rfl rfl HE1.out Tryd.underlying26 rfl (by kernel_rfl)) rfl ⟨none, 0, 0, (congrArg Ending.returned (ansV_no hO.out hC.out)).symm, by rw [rl_no hO.out]; rfl, by rw [rl_no hO.out]; exact .inl rfl, HE2.out⟩
  have hw : whB s = true := decide_eq_true ⟨p0, by omega⟩
  have hl2 : lenC s = 2 := by unfold lenC; rw [hw]; rfl
  by_cases h2 : (1 : Int) + (s[0].toNat : Int) < (s.size : Int)
  · have hl0 : lenB s = false := by unfold lenB; rw [hw, decide_eq_false (show ¬ s.size ≤ fb s by omega)]; rfl
    have hO : Hid (rdO b d s = false) := (rd_len hgt hl0).1
    have hC : Hid (rdC b d s = _) := (rd_len hgt hl0).2
    rw [hl2] at hC
    clear hl0 hl2 hgt hfb hw
    have ch1 : ((s.size : Int) < (1 : Int) + (s[0].toNat : Int)) = False := eq_false h1
    clear h1
    have ch2 : ((1 : Int) + (s[0].toNat : Int) < (s.size : Int)) = True := eq_true h2
    clear h2
    go_enter Tryd.func4, Tryd.ntmps4
    go_wp2_with fail
    refine (lspace_any b d _).mono ?_
    rintro e w1 ⟨rfl, HW⟩
    obtain ⟨KA, KB, HB⟩ := bkAB HW
    have S1 : Hid (Bk w1 w.heap.size #[.int .i64 b, .int .i64 d] 29) := KA
    have R1 : Hid (Bk w1 (w.heap.size + 1) #[.int .i64 0, .int .i64 0, .int .i64 0, .int .i64 0, .int .i64 0, .int .i64 0, .int .i64 0, .int .i64 0, .slice none 0 0] 26) := KB
    have B1 : Hid (Below w.heap.size w w1) := HB
    clear HW KA KB HB
    rw [hg.out]
    obtain ⟨q0, q1, q2, q3, q4, q5, q6, q7, q8⟩ := Bk.c9 R1.out
    obtain ⟨f0, f1, f2, f3, f4, f5, f6, f7, f8⟩ := Bk.f9 R1.out
    have HE1 : Hid (Bk (setL w1 (w.heap.size + 1) 0 [.int .i64 0, .int .i64 0, .int .i64 0, .int .i64 0, .int .i64 0, .int .i64 0, .int .i64 0, .int .i64 0, .slice none 0 0]) (w.heap.size + 1) #[.int .i64 0, .int .i64 0, .int .i64 0, .int .i64 0, .int .i64 0, .int .i64 0, .int .i64 0, .int .i64 0, .slice none 0 0] 26) := by have h := R1.out.setL [.int .i64 0, .int .i64 0, .int .i64 0, .int .i64 0, .int .i64 0, .int .i64 0, .int .i64 0, .int .i64 0, .slice none 0 0] 0; rw [ovr9] at h; exact h
    have HE2 : Hid (Below w.heap.size w (setL w1 (w.heap.size + 1) 0 [.int .i64 0, .int .i64 0, .int .i64 0, .int .i64 0, .int .i64 0, .int .i64 0, .int .i64 0, .int .i64 0, .slice none 0 0])) := setL_below (by omega) _ 0 B1.out
    go_wp2
    refine bodyPost_ret (results_cell_tmp2 Tryd.results4 _ _ (w.heap.size + 1) _ _ _ _ _ _ rfl rfl rfl HE1.out Tryd.underlying26 rfl (by kernel_rfl)) rfl ⟨none, 0, 0, (congrArg Ending.returned (ansV_no hO.out hC.out)).symm, by rw [rl_no hO.out]; rfl, by rw [rl_no hO.out]; exact .inl rfl, HE2.out⟩
  by_cases h3 : (64 : Int) < (s.size : Int)
  · have hl0 : lenB s = false := by unfold lenB; rw [hw, decide_eq_false (show ¬ s.size ≤ 64 by omega)]; simp
    have hO : Hid (rdO b d s = false) := (rd_len hgt hl0).1
    have hC : Hid (rdC b d s = _) := (rd_len hgt hl0).2
    rw [hl2] at hC
    clear hl0 hl2 hgt hfb hw
    have ch1 : ((s.size : Int) < (1 : Int) + (s[0].toNat : Int)) = False := eq_false h1
    clear h1
    have ch2 : ((1 : Int) + (s[0].toNat : Int) < (s.size : Int)) = False := eq_false h2
    clear h2
    have ch3 : ((64 : Int) < (s.size : Int)) = True := eq_true h3
    clear h3
    go_enter Tryd.func4, Tryd.ntmps4
    go_wp2_with fail
    refine (lspace_any b d _).mono ?_
    rintro e w1 ⟨rfl, HW⟩
    obtain ⟨KA, KB, HB⟩ := bkAB HW
    have S1 : Hid (Bk w1 w.heap.size #[.int .i64 b, .int .i64 d] 29) := KA
    have R1 : Hid (Bk w1 (w.heap.size + 1) #[.int .i64 0, .int .i64 0, .int .i64 0, .int .i64 0, .int .i64 0, .int .i64 0, .int .i64 0, .int .i64 0, .slice none 0 0] 26) := KB
    have B1 : Hid (Below w.heap.size w w1) := HB
    clear HW KA KB HB
    rw [hg.out]
    obtain ⟨q0, q1, q2, q3, q4, q5, q6, q7, q8⟩ := Bk.c9 R1.out
    obtain ⟨f0, f1, f2, f3, f4, f5, f6, f7, f8⟩ := Bk.f9 R1.out
    have HE1 : Hid (Bk (setL w1 (w.heap.size + 1) 0 [.int .i64 0, .int .i64 0, .int .i64 0, .int .i64 0, .int .i64 0, .int .i64 0, .int .i64 0, .int .i64 0, .slice none 0 0]) (w.heap.size + 1) #[.int .i64 0, .int .i64 0, .int .i64 0, .int .i64 0, .int .i64 0, .int .i64 0, .int .i64 0, .int .i64 0, .slice none 0 0] 26) := by have h := R1.out.setL [.int .i64 0, .int .i64 0, .int .i64 0, .int .i64 0, .int .i64 0, .int .i64 0, .int .i64 0, .int .i64 0, .slice none 0 0] 0; rw [ovr9] at h; exact h
    have HE2 : Hid (Below w.heap.size w (setL w1 (w.heap.size + 1) 0 [.int .i64 0, .int .i64 0, .int .i64 0, .int .i64 0, .int .i64 0, .int .i64 0, .int .i64 0, .int .i64 0, .slice none 0 0])) := setL_below (by omega) _ 0 B1.out
    go_wp2
    refine bodyPost_ret (results_cell_tmp2 Tryd.results4 _ _ (w.heap.size + 1) _ _ _ _ _ _ rfl rfl rfl HE1.out Tryd.underlying26 rfl (by kernel_rfl)) rfl ⟨none, 0, 0, (congrArg Ending.returned (ansV_no hO.out hC.out)).symm, by rw [rl_no hO.out]; rfl, by rw [rl_no hO.out]; exact .inl rfl, HE2.out⟩
  have hlen : lenB s = true := by unfold lenB; rw [hw, decide_eq_true (show s.size ≤ fb s by omega), decide_eq_true (show s.size ≤ 64 by omega)]; rfl
  clear hl2 hfb hw
  by_cases h4 : (s.size : Int) < 3
  · have hk0 : knB s = false := by unfold knB; rw [decide_eq_false (show ¬ 2 < s.size by omega)]; rfl
    have hO : Hid (rdO b d s = false) := (rd_kn hgt hlen hk0).1
    have hC : Hid (rdC b d s = _) := (rd_kn hgt hlen hk0).2
    clear hk0 hlen hgt
    have ch1 : ((s.size : Int) < (1 : Int) + (s[0].toNat : Int)) = False := eq_false h1
    clear h1
    have ch2 : ((1 : Int) + (s[0].toNat : Int) < (s.size : Int)) = False := eq_false h2
    clear h2
    have ch3 : ((64 : Int) < (s.size : Int)) = False := eq_false h3
    clear h3
    have ch4 : ((s.size : Int) < 3) = True := eq_true h4
    clear h4
    go_enter Tryd.func4, Tryd.ntmps4
    go_wp2_with fail
    refine (lspace_any b d _).mono ?_
    rintro e w1 ⟨rfl, HW⟩
    obtain ⟨KA, KB, HB⟩ := bkAB HW
    have S1 : Hid (Bk w1 w.heap.size #[.int .i64 b, .int .i64 d] 29) := KA
    have R1 : Hid (Bk w1 (w.heap.size + 1) #[.int .i64 0, .int .i64 0, .int .i64 0, .int .i64 0, .int .i64 0, .int .i64 0, .int .i64 0, .int .i64 0, .slice none 0 0] 26) := KB
    have B1 : Hid (Below w.heap.size w w1) := HB
    clear HW KA KB HB
    rw [hg.out]
    obtain ⟨q0, q1, q2, q3, q4, q5, q6, q7, q8⟩ := Bk.c9 R1.out
    obtain ⟨f0, f1, f2, f3, f4, f5, f6, f7, f8⟩ := Bk.f9 R1.out
    have HE1 : Hid (Bk (setL w1 (w.heap.size + 1) 0 [.int .i64 0, .int .i64 0, .int .i64 0, .int .i64 0, .int .i64 0, .int .i64 0, .int .i64 0, .int .i64 0, .slice none 0 0]) (w.heap.size + 1) #[.int .i64 0, .int .i64 0, .int .i64 0, .int .i64 0, .int .i64 0, .int .i64 0, .int .i64 0, .int .i64 0, .slice none 0 0] 26) := by have h := R1.out.setL [.int .i64 0, .int .i64 0, .int .i64 0, .int .i64 0, .int .i64 0, .int .i64 0, .int .i64 0, .int .i64 0, .slice none 0 0] 0; rw [ovr9] at h; exact h
    have HE2 : Hid (Below w.heap.size w (setL w1 (w.heap.size + 1) 0 [.int .i64 0, .int .i64 0, .int .i64 0, .int .i64 0, .int .i64 0, .int .i64 0, .int .i64 0, .int .i64 0, .slice none 0 0])) := setL_below (by omega) _ 0 B1.out
    go_wp2
    refine bodyPost_ret (results_cell_tmp2 Tryd.results4 _ _ (w.heap.size + 1) _ _ _ _ _ _ rfl rfl rfl HE1.out Tryd.underlying26 rfl (by kernel_rfl)) rfl ⟨none, 0, 0, (congrArg Ending.returned (ansV_no hO.out hC.out)).symm, by rw [rl_no hO.out]; rfl, by rw [rl_no hO.out]; exact .inl rfl, HE2.out⟩
  have p1 : 1 < s.size := by omega
  have i1 : (1 : Int) < (s.size : Int) := by omega
  have hb1 := bt_eq p1
  have u1 := UInt8.toNat_lt s[1]
  cases hkb : kdB (bt s 1)
  · have hk0 : knB s = false := by unfold knB; rw [hkb]; simp
    have hki : Hid (inB (s[1].toNat : Int) 1 8 = false) := by unfold Hid; rw [← hb1]; exact hkb
    have hO : Hid (rdO b d s = false) := (rd_kn hgt hlen hk0).1
    have hC : Hid (rdC b d s = _) := (rd_kn hgt hlen hk0).2
    clear hk0 hlen hgt hkb hb1
    have ch1 : ((s.size : Int) < (1 : Int) + (s[0].toNat : Int)) = False := eq_false h1
    clear h1
    have ch2 : ((1 : Int) + (s[0].toNat : Int) < (s.size : Int)) = False := eq_false h2
    clear h2
    have ch3 : ((64 : Int) < (s.size : Int)) = False := eq_false h3
    clear h3
    have ch4 : ((s.size : Int) < 3) = False := eq_false h4
    clear h4
    have ci1 : ((1 : Int) < (s.size : Int)) = True := eq_true i1
    clear i1
    go_enter Tryd.func4, Tryd.ntmps4
    go_wp2_with fail
    refine (lspace_any b d _).mono ?_
    rintro e w1 ⟨rfl, HW⟩
    obtain ⟨KA, KB, HB⟩ := bkAB HW
    have S1 : Hid (Bk w1 w.heap.size #[.int .i64 b, .int .i64 d] 29) := KA
    have R1 : Hid (Bk w1 (w.heap.size + 1) #[.int .i64 0, .int .i64 0, .int .i64 0, .int .i64 0, .int .i64 0, .int .i64 0, .int .i64 0, .int .i64 0, .slice none 0 0] 26) := KB
    have B1 : Hid (Below w.heap.size w w1) := HB
    clear HW KA KB HB
    rw [hg.out]
    obtain ⟨q0, q1, q2, q3, q4, q5, q6, q7, q8⟩ := Bk.c9 R1.out
    obtain ⟨f0, f1, f2, f3, f4, f5, f6, f7, f8⟩ := Bk.f9 R1.out
    have HE1 : Hid (Bk (setL w1 (w.heap.size + 1) 0 [.int .i64 0, .int .i64 0, .int .i64 0, .int .i64 0, .int .i64 0, .int .i64 0, .int .i64 0, .int .i64 0, .slice none 0 0]) (w.heap.size + 1) #[.int .i64 0, .int .i64 0, .int .i64 0, .int .i64 0, .int .i64 0, .int .i64 0, .int .i64 0, .int .i64 0, .slice none 0 0] 26) := by have h := R1.out.setL [.int .i64 0, .int .i64 0, .int .i64 0, .int .i64 0, .int .i64 0, .int .i64 0, .int .i64 0, .int .i64 0, .slice none 0 0] 0; rw [ovr9] at h; exact h
    have HE2 : Hid (Below w.heap.size w (setL w1 (w.heap.size + 1) 0 [.int .i64 0, .int .i64 0, .int .i64 0, .int .i64 0, .int .i64 0, .int .i64 0, .int .i64 0, .int .i64 0, .slice none 0 0])) := setL_below (by omega) _ 0 B1.out
    go_wp2_with (go_at_call 11; refine (lin_any _ _ _ _).mono ?_; rintro e w2 ⟨rfl, rfl⟩; rw [hki.out])
    refine bodyPost_ret (results_cell_tmp2 Tryd.results4 _ _ (w.heap.size + 1) _ _ _ _ _ _ rfl rfl rfl HE1.out Tryd.underlying26 rfl (by kernel_rfl)) rfl ⟨none, 0, 0, (congrArg Ending.returned (ansV_no hO.out hC.out)).symm, by rw [rl_no hO.out]; rfl, by rw [rl_no hO.out]; exact .inl rfl, HE2.out⟩
  have hkn : knB s = true := by unfold knB; rw [hkb, decide_eq_true (show 2 < s.size by omega)]; rfl
  have hki : Hid (inB (s[1].toNat : Int) 1 8 = true) := by unfold Hid; rw [← hb1]; exact hkb
  have hbq : Hid ((s[1].toNat : Int) = bt s 1) := hb1.symm
  by_cases h5 : bt s 1 = 5
  · have h5' : ((s[1].toNat : Int) == 5) = true := beq_iff_eq.2 (by omega)
    by_cases h9 : (9 : Int) < (s.size : Int)
    · have p9 : 9 < s.size := by omega
      have hb9 := bt_eq p9
      have u9 := UInt8.toNat_lt s[9]
      have hmn : Hid (many s = (s[9].toNat : Int)) := by unfold Hid many; rw [if_pos ⟨h5, p9⟩]; exact hb9
      by_cases h44 : (4 : Int) < (s[9].toNat : Int)
      · have hfm : fmB s = false := decide_eq_false (fun k => by have := k.1; rw [hmn.out] at this; omega)
        have hO : Hid (rdO b d s = false) := (rd_fm hgt hlen hkn hfm).1
        have hC : Hid (rdC b d s = _) := (rd_fm hgt hlen hkn hfm).2
        clear hfm hgt hlen hkn hkb hb1 h5 hb9
        have ch1 : ((s.size : Int) < (1 : Int) + (s[0].toNat : Int)) = False := eq_false h1
        clear h1
        have ch2 : ((1 : Int) + (s[0].toNat : Int) < (s.size : Int)) = False := eq_false h2
        clear h2
        have ch3 : ((64 : Int) < (s.size : Int)) = False := eq_false h3
        clear h3
        have ch4 : ((s.size : Int) < 3) = False := eq_false h4
        clear h4
        have ci1 : ((1 : Int) < (s.size : Int)) = True := eq_true i1
        clear i1
        have ch9 : ((9 : Int) < (s.size : Int)) = True := eq_true h9
        clear h9
        have ch44 : ((4 : Int) < (s[9].toNat : Int)) = True := eq_true h44
        clear h44
        go_enter Tryd.func4, Tryd.ntmps4
        go_wp2_with fail
        refine (lspace_any b d _).mono ?_
        rintro e w1 ⟨rfl, HW⟩
        obtain ⟨KA, KB, HB⟩ := bkAB HW
        have S1 : Hid (Bk w1 w.heap.size #[.int .i64 b, .int .i64 d] 29) := KA
        have R1 : Hid (Bk w1 (w.heap.size + 1) #[.int .i64 0, .int .i64 0, .int .i64 0, .int .i64 0, .int .i64 0, .int .i64 0, .int .i64 0, .int .i64 0, .slice none 0 0] 26) := KB
        have B1 : Hid (Below w.heap.size w w1) := HB
        clear HW KA KB HB
        rw [hg.out]
        obtain ⟨q0, q1, q2, q3, q4, q5, q6, q7, q8⟩ := Bk.c9 R1.out
        obtain ⟨f0, f1, f2, f3, f4, f5, f6, f7, f8⟩ := Bk.f9 R1.out
        have HE1 : Hid (Bk (setL w1 (w.heap.size + 1) 0 [.int .i64 0, .int .i64 0, .int .i64 0, .int .i64 0, .int .i64 0, .int .i64 0, .int .i64 0, .int .i64 0, .slice none 0 0]) (w.heap.size + 1) #[.int .i64 0, .int .i64 0, .int .i64 0, .int .i64 0, .int .i64 0, .int .i64 0, .int .i64 0, .int .i64 0, .slice none 0 0] 26) := by have h := R1.out.setL [.int .i64 0, .int .i64 0, .int .i64 0, .int .i64 0, .int .i64 0, .int .i64 0, .int .i64 0, .int .i64 0, .slice none 0 0] 0; rw [ovr9] at h; exact h
        have HE2 : Hid (Below w.heap.size w (setL w1 (w.heap.size + 1) 0 [.int .i64 0, .int .i64 0, .int .i64 0, .int .i64 0, .int .i64 0, .int .i64 0, .int .i64 0, .int .i64 0, .slice none 0 0])) := setL_below (by omega) _ 0 B1.out
        go_wp2_with (go_at_call 11; refine (lin_any _ _ _ _).mono ?_; rintro e w2 ⟨rfl, rfl⟩; rw [hki.out])
        refine bodyPost_ret (results_cell_tmp2 Tryd.results4 _ _ (w.heap.size + 1) _ _ _ _ _ _ rfl rfl rfl HE1.out Tryd.underlying26 rfl (by kernel_rfl)) rfl ⟨none, 0, 0, (congrArg Ending.returned (ansV_no hO.out hC.out)).symm, by rw [rl_no hO.out]; rfl, by rw [rl_no hO.out]; exact .inl rfl, HE2.out⟩
      · have HB9 : Hid (bt s 9 ≤ 255) := (bt_bd s 9).2
        have hlo := Nat.zero_le s[9].toNat
        by_cases hq : (s.size : Int) - (1 : Int) = flong (bt s 1) ((s[9].toNat : Int))
        · have hfm : fmB s = true := decide_eq_true ⟨by rw [hmn.out]; omega, by rw [hmn.out]; exact hq⟩
          obtain ⟨h6, hp0, hl0⟩ := form_at hfm
          have hbig : (fL s (fld (bt s 1)) (fld (bt s 1)).length).length ≤ 4 ∨ True := .inr trivial
          have hgr := good_read hgt hkb hfm
          have HGR : Hid (gmB b d (bt s 1) (bt s 2) (a2 s 3) (a2 s 5) (fx s 1) (fx s 2) (fx s 3) (fx s 4) (fL s (fld (bt s 1)) (fld (bt s 1)).length) = okA b d s) := hgr
          clear hgr hbig
          have hyes : Hid (okA b d s = true → rdO b d s = true ∧ rdC b d s = 0) := fun k => rd_yes hgt hlen hkn hfm k
          have hno : Hid (okA b d s = false → rdO b d s = false ∧ rdC b d s = 4) := fun k => rd_sp hgt hlen hkn hfm k
          have HP0 : Hid (∀ j, j < (fld (bt s 1)).length → ¬ (fld (bt s 1)).getD j 0 = 5 → 7 + 2 * j + 1 < s.size) := hp0
          have HL0 : Hid (bt s 1 = 5 → 9 < s.size ∧ 10 + 2 * (bt s 9).toNat ≤ s.size) := fun k => ⟨(hl0 k).1, (hl0 k).2.1⟩
          have hqe : ((s.size : Int) - (1 : Int) != flong (bt s 1) ((s[9].toNat : Int))) = false := by simp [hq]
          have HQ : Hid (flong (bt s 1) ((s[9].toNat : Int)) = flong (bt s 1) ((s[9].toNat : Int))) := rfl
          clear hp0 hl0 hfm hq hgt hlen hkn hkb hb1 h5 hb9
          have hqe2 : Hid (((s.size : Int) - (1 : Int) != flong (bt s 1) ((s[9].toNat : Int))) = false) := hqe
          clear hqe HQ
          have ch1 : ((s.size : Int) < (1 : Int) + (s[0].toNat : Int)) = False := eq_false h1
          clear h1
          have ch2 : ((1 : Int) + (s[0].toNat : Int) < (s.size : Int)) = False := eq_false h2
          clear h2
          have ch3 : ((64 : Int) < (s.size : Int)) = False := eq_false h3
          clear h3
          have ch4 : ((s.size : Int) < 3) = False := eq_false h4
          clear h4
          have ci1 : ((1 : Int) < (s.size : Int)) = True := eq_true i1
          clear i1
          have ch9 : ((9 : Int) < (s.size : Int)) = True := eq_true h9
          clear h9
          have ch44 : ((4 : Int) < (s[9].toNat : Int)) = False := eq_false h44
          clear h44
          go_enter Tryd.func4, Tryd.ntmps4
          go_wp2_with fail
          refine (lspace_any b d _).mono ?_
          rintro e w1 ⟨rfl, HW⟩
          obtain ⟨KA, KB, HB⟩ := bkAB HW
          have S1 : Hid (Bk w1 w.heap.size #[.int .i64 b, .int .i64 d] 29) := KA
          have R1 : Hid (Bk w1 (w.heap.size + 1) #[.int .i64 0, .int .i64 0, .int .i64 0, .int .i64 0, .int .i64 0, .int .i64 0, .int .i64 0, .int .i64 0, .slice none 0 0] 26) := KB
          have B1 : Hid (Below w.heap.size w w1) := HB
          clear HW KA KB HB
          rw [hg.out]
          go_wp2_with fail
          refine (lin_any _ _ _ _).mono ?_
          rintro e vx ⟨rfl, hx⟩
          have hx' := hx.symm
          clear hx
          subst hx'
          rw [hki.out]
          go_wp2_with fail
          rw [hbq.out]
          refine (lLong_any (bt s 1) ((s[9].toNat : Int)) _ (by omega) (by omega)).mono ?_
          rintro e w2 ⟨rfl, HW⟩
          have S2 : Hid (Bk w2 w.heap.size #[.int .i64 b, .int .i64 d] 29) := S1.out.keep HW
          have R2 : Hid (Bk w2 (w.heap.size + 1) #[.int .i64 0, .int .i64 0, .int .i64 0, .int .i64 0, .int .i64 0, .int .i64 0, .int .i64 0, .int .i64 0, .slice none 0 0] 26) := R1.out.keep HW
          have B2 : Hid (Below w.heap.size w w2) := belt B1.out HW
          clear HW S1 R1 B1
          have hqe := hqe2.out
          generalize flong (bt s 1) ((s[9].toNat : Int)) = FL at *
          go_wp2_with fail
          refine (lTake_any s _ hs h6 HP0.out HL0.out).mono ?_
          rintro e w3 ⟨va, vn, vc, rfl, hvn, hrow, HW⟩
          have HXB : w.heap.size + 1 < w2.heap.size := R2.out.lt
          have S3 : Hid (Bk w3 w.heap.size #[.int .i64 b, .int .i64 d] 29) := S2.out.keep HW
          have R3 : Hid (Bk w3 (w.heap.size + 1) #[.int .i64 0, .int .i64 0, .int .i64 0, .int .i64 0, .int .i64 0, .int .i64 0, .int .i64 0, .int .i64 0, .slice none 0 0] 26) := R2.out.keep HW
          have B3 : Hid (Below w.heap.size w w3) := belt B2.out HW
          clear HW S2 R2 B2
          have HROW : Hid (OwnLs w2.heap.size w3.heap.size w3 va vn (fL s (fld (bt s 1)) (fld (bt s 1)).length)) := hrow
          have HVN : Hid ((fL s (fld (bt s 1)) (fld (bt s 1)).length).length = vn) := hvn
          clear hrow hvn hqe hqe2
          have e1 : Hid (fv s (fld (bt s 1)) (fld (bt s 1)).length 1 = fx s 1) := rfl
          have e2 : Hid (fv s (fld (bt s 1)) (fld (bt s 1)).length 2 = fx s 2) := rfl
          have e3 : Hid (fv s (fld (bt s 1)) (fld (bt s 1)).length 3 = fx s 3) := rfl
          have e4 : Hid (fv s (fld (bt s 1)) (fld (bt s 1)).length 4 = fx s 4) := rfl
          rw [e1.out, e2.out, e3.out, e4.out]
          clear e1 e2 e3 e4
          obtain ⟨s0, s1⟩ := Bk.c2 S3.out
          have ls := S3.out.lt
          have hvb : Hid (vn ≤ maxLen) := by unfold Hid maxLen; rw [← HVN.out]; exact Nat.le_trans (fL_big s HB9.out) (by decide)
          go_wp2_with fail
          clear s0 s1 ls
          refine (lGoodMsg_any b d (bt s 1) (bt s 2) (a2 s 3) (a2 s 5) (fx s 1) (fx s 2) (fx s 3) (fx s 4) va vc vn (fL s (fld (bt s 1)) (fld (bt s 1)).length) _ HVN.out hvb.out (HROW.out.rowAt.keep (belA _ _))).mono ?_
          rintro e w4 ⟨rfl, HW⟩
          have hb4 := belt (belA w3 (.cells #[.int .i64 (bt s 1), .int .i64 (bt s 2), .int .i64 (a2 s 3), .int .i64 (a2 s 5), .int .i64 (fx s 1), .int .i64 (fx s 2), .int .i64 (fx s 3), .int .i64 (fx s 4), .slice va vn vc] 26)) HW
          have K4 : Hid (Bk w4 w3.heap.size #[.int .i64 (bt s 1), .int .i64 (bt s 2), .int .i64 (a2 s 3), .int .i64 (a2 s 5), .int .i64 (fx s 1), .int .i64 (fx s 2), .int .i64 (fx s 3), .int .i64 (fx s 4), .slice va vn vc] 26) := (Bk.new _ _ _).keep HW
          have R4 : Hid (Bk w4 (w.heap.size + 1) #[.int .i64 0, .int .i64 0, .int .i64 0, .int .i64 0, .int .i64 0, .int .i64 0, .int .i64 0, .int .i64 0, .slice none 0 0] 26) := R3.out.keep hb4
          have B4 : Hid (Below w.heap.size w w4) := belt B3.out hb4
          have HR4 : Hid (OwnLs w2.heap.size w3.heap.size w4 va vn (fL s (fld (bt s 1)) (fld (bt s 1)).length)) := HROW.out.keep hb4
          have hX3 : w.heap.size + 1 < w3.heap.size := R3.out.lt
          clear HW hb4 S3 R3 B3 HROW HP0 HL0
          rw [HGR.out]
          cases hoa : okA b d s
          · have hO : Hid (rdO b d s = false) := (hno.out hoa).1
            have hC : Hid (rdC b d s = 4) := (hno.out hoa).2
            clear hyes hno hoa HGR
            obtain ⟨q0, q1, q2, q3, q4, q5, q6, q7, q8⟩ := Bk.c9 R4.out
            obtain ⟨f0, f1, f2, f3, f4, f5, f6, f7, f8⟩ := Bk.f9 R4.out
            have HE1 : Hid (Bk (setL w4 (w.heap.size + 1) 0 [.int .i64 0, .int .i64 0, .int .i64 0, .int .i64 0, .int .i64 0, .int .i64 0, .int .i64 0, .int .i64 0, .slice none 0 0]) (w.heap.size + 1) #[.int .i64 0, .int .i64 0, .int .i64 0, .int .i64 0, .int .i64 0, .int .i64 0, .int .i64 0, .int .i64 0, .slice none 0 0] 26) := by have h := R4.out.setL [.int .i64 0, .int .i64 0, .int .i64 0, .int .i64 0, .int .i64 0, .int .i64 0, .int .i64 0, .int .i64 0, .slice none 0 0] 0; rw [ovr9] at h; exact h
            have HE2 : Hid (Below w.heap.size w (setL w4 (w.heap.size + 1) 0 [.int .i64 0, .int .i64 0, .int .i64 0, .int .i64 0, .int .i64 0, .int .i64 0, .int .i64 0, .int .i64 0, .slice none 0 0])) := setL_below (by omega) _ 0 B4.out
            go_wp2
            refine bodyPost_ret (results_cell_tmp2 Tryd.results4 _ _ (w.heap.size + 1) _ _ _ _ _ _ rfl rfl rfl HE1.out Tryd.underlying26 rfl (by kernel_rfl)) rfl ⟨none, 0, 0, (congrArg Ending.returned (ansV_no hO.out hC.out)).symm, by rw [rl_no hO.out]; rfl, by rw [rl_no hO.out]; exact .inl rfl, HE2.out⟩
          · have hO : Hid (rdO b d s = true) := (hyes.out hoa).1
            have hC : Hid (rdC b d s = 0) := (hyes.out hoa).2
            clear hyes hno hoa HGR
            obtain ⟨q0, q1, q2, q3, q4, q5, q6, q7, q8⟩ := Bk.c9 R4.out
            obtain ⟨f0, f1, f2, f3, f4, f5, f6, f7, f8⟩ := Bk.f9 R4.out
            obtain ⟨k0, k1, k2, k3, k4, k5, k6, k7, k8⟩ := Bk.c9 K4.out
            have HE1 : Hid (Bk (setL w4 (w.heap.size + 1) 0 [.int .i64 (bt s 1), .int .i64 (bt s 2), .int .i64 (a2 s 3), .int .i64 (a2 s 5), .int .i64 (fx s 1), .int .i64 (fx s 2), .int .i64 (fx s 3), .int .i64 (fx s 4), .slice va vn vc]) (w.heap.size + 1) #[.int .i64 (bt s 1), .int .i64 (bt s 2), .int .i64 (a2 s 3), .int .i64 (a2 s 5), .int .i64 (fx s 1), .int .i64 (fx s 2), .int .i64 (fx s 3), .int .i64 (fx s 4), .slice va vn vc] 26) := by have h := R4.out.setL [.int .i64 (bt s 1), .int .i64 (bt s 2), .int .i64 (a2 s 3), .int .i64 (a2 s 5), .int .i64 (fx s 1), .int .i64 (fx s 2), .int .i64 (fx s 3), .int .i64 (fx s 4), .slice va vn vc] 0; rw [ovr9] at h; exact h
            have HE2 : Hid (Below w.heap.size w (setL w4 (w.heap.size + 1) 0 [.int .i64 (bt s 1), .int .i64 (bt s 2), .int .i64 (a2 s 3), .int .i64 (a2 s 5), .int .i64 (fx s 1), .int .i64 (fx s 2), .int .i64 (fx s 3), .int .i64 (fx s 4), .slice va vn vc])) := setL_below (by omega) _ 0 B4.out
            have HE3 : Hid (RowAt (setL w4 (w.heap.size + 1) 0 [.int .i64 (bt s 1), .int .i64 (bt s 2), .int .i64 (a2 s 3), .int .i64 (a2 s 5), .int .i64 (fx s 1), .int .i64 (fx s 2), .int .i64 (fx s 3), .int .i64 (fx s 4), .slice va vn vc]) va (fL s (fld (bt s 1)) (fld (bt s 1)).length)) := (HR4.out.blocks (fun k h1 h2 h3 => setL_oth (by omega) _ w4 0)).rowAt
            go_wp2
            refine bodyPost_ret (results_cell_tmp2 Tryd.results4 _ _ (w.heap.size + 1) _ _ _ _ _ _ rfl rfl rfl HE1.out Tryd.underlying26 rfl (by kernel_rfl)) rfl ⟨va, vn, vc, (congrArg Ending.returned (ansV_yes hO.out hC.out)).symm, by rw [rl_yes hO.out]; exact HVN.out, by rw [rl_yes hO.out]; exact HE3.out, HE2.out⟩
        · have hfm : fmB s = false := decide_eq_false (fun k => hq (by have := k.2; rw [hmn.out] at this; exact this))
          have hO : Hid (rdO b d s = false) := (rd_fm hgt hlen hkn hfm).1
          have hC : Hid (rdC b d s = _) := (rd_fm hgt hlen hkn hfm).2
          have hqe : Hid (((s.size : Int) - (1 : Int) != flong (bt s 1) ((s[9].toNat : Int))) = true) := by unfold Hid; simpa using hq
          clear hfm hq hgt hlen hkn hkb hb1 h5 hb9
          have ch1 : ((s.size : Int) < (1 : Int) + (s[0].toNat : Int)) = False := eq_false h1
          clear h1
          have ch2 : ((1 : Int) + (s[0].toNat : Int) < (s.size : Int)) = False := eq_false h2
          clear h2
          have ch3 : ((64 : Int) < (s.size : Int)) = False := eq_false h3
          clear h3
          have ch4 : ((s.size : Int) < 3) = False := eq_false h4
          clear h4
          have ci1 : ((1 : Int) < (s.size : Int)) = True := eq_true i1
          clear i1
          have ch9 : ((9 : Int) < (s.size : Int)) = True := eq_true h9
          clear h9
          have ch44 : ((4 : Int) < (s[9].toNat : Int)) = False := eq_false h44
          clear h44
          go_enter Tryd.func4, Tryd.ntmps4
          go_wp2_with fail
          refine (lspace_any b d _).mono ?_
          rintro e w1 ⟨rfl, HW⟩
          obtain ⟨KA, KB, HB⟩ := bkAB HW
          have S1 : Hid (Bk w1 w.heap.size #[.int .i64 b, .int .i64 d] 29) := KA
          have R1 : Hid (Bk w1 (w.heap.size + 1) #[.int .i64 0, .int .i64 0, .int .i64 0, .int .i64 0, .int .i64 0, .int .i64 0, .int .i64 0, .int .i64 0, .slice none 0 0] 26) := KB
          have B1 : Hid (Below w.heap.size w w1) := HB
          clear HW KA KB HB
          rw [hg.out]
          go_wp2_with fail
          refine (lin_any _ _ _ _).mono ?_
          rintro e vx ⟨rfl, hx⟩
          have hx' := hx.symm
          clear hx
          subst hx'
          rw [hki.out]
          go_wp2_with fail
          rw [hbq.out]
          refine (lLong_any (bt s 1) ((s[9].toNat : Int)) _ (by omega) (by omega)).mono ?_
          rintro e w2 ⟨rfl, HW⟩
          have S2 : Hid (Bk w2 w.heap.size #[.int .i64 b, .int .i64 d] 29) := S1.out.keep HW
          have R2 : Hid (Bk w2 (w.heap.size + 1) #[.int .i64 0, .int .i64 0, .int .i64 0, .int .i64 0, .int .i64 0, .int .i64 0, .int .i64 0, .int .i64 0, .slice none 0 0] 26) := R1.out.keep HW
          have B2 : Hid (Below w.heap.size w w2) := belt B1.out HW
          clear HW S1 R1 B1
          obtain ⟨q0, q1, q2, q3, q4, q5, q6, q7, q8⟩ := Bk.c9 R2.out
          obtain ⟨f0, f1, f2, f3, f4, f5, f6, f7, f8⟩ := Bk.f9 R2.out
          have hqx := hqe.out
          generalize flong (bt s 1) ((s[9].toNat : Int)) = FL at *
          have HE1 : Hid (Bk (setL w2 (w.heap.size + 1) 0 [.int .i64 0, .int .i64 0, .int .i64 0, .int .i64 0, .int .i64 0, .int .i64 0, .int .i64 0, .int .i64 0, .slice none 0 0]) (w.heap.size + 1) #[.int .i64 0, .int .i64 0, .int .i64 0, .int .i64 0, .int .i64 0, .int .i64 0, .int .i64 0, .int .i64 0, .slice none 0 0] 26) := by have h := R2.out.setL [.int .i64 0, .int .i64 0, .int .i64 0, .int .i64 0, .int .i64 0, .int .i64 0, .int .i64 0, .int .i64 0, .slice none 0 0] 0; rw [ovr9] at h; exact h
          have HE2 : Hid (Below w.heap.size w (setL w2 (w.heap.size + 1) 0 [.int .i64 0, .int .i64 0, .int .i64 0, .int .i64 0, .int .i64 0, .int .i64 0, .int .i64 0, .int .i64 0, .slice none 0 0])) := setL_below (by omega) _ 0 B2.out
          go_wp2
          refine bodyPost_ret (results_cell_tmp2 Tryd.results4 _ _ (w.heap.size + 1) _ _ _ _ _ _ rfl rfl rfl HE1.out Tryd.underlying26 rfl (by kernel_rfl)) rfl ⟨none, 0, 0, (congrArg Ending.returned (ansV_no hO.out hC.out)).symm, by rw [rl_no hO.out]; rfl, by rw [rl_no hO.out]; exact .inl rfl, HE2.out⟩
    · have hmn : Hid (many s = 0) := by unfold Hid many; rw [if_neg (fun k => h9 (by have := k.2; omega))]
      have hnq : Hid (¬ (s.size : Int) - (1 : Int) = flong (bt s 1) 0) := by
        intro k
        have h := fmB_short h5 (fun k => h9 (by omega))
        have h2 : fmB s = true := decide_eq_true ⟨by rw [hmn.out]; omega, by rw [hmn.out]; exact k⟩
        rw [h] at h2
        cases h2
      have hlo := Nat.zero_le 0
      by_cases hq : (s.size : Int) - (1 : Int) = flong (bt s 1) (0)
      · exact absurd hq (hnq.out)
      · have hfm : fmB s = false := decide_eq_false (fun k => hq (by have := k.2; rw [hmn.out] at this; exact this))
        have hO : Hid (rdO b d s = false) := (rd_fm hgt hlen hkn hfm).1
        have hC : Hid (rdC b d s = _) := (rd_fm hgt hlen hkn hfm).2
        have hqe : Hid (((s.size : Int) - (1 : Int) != flong (bt s 1) (0)) = true) := by unfold Hid; simpa using hq
        clear hfm hq hgt hlen hkn hkb hb1 h5
        have ch1 : ((s.size : Int) < (1 : Int) + (s[0].toNat : Int)) = False := eq_false h1
        clear h1
        have ch2 : ((1 : Int) + (s[0].toNat : Int) < (s.size : Int)) = False := eq_false h2
        clear h2
        have ch3 : ((64 : Int) < (s.size : Int)) = False := eq_false h3
        clear h3
        have ch4 : ((s.size : Int) < 3) = False := eq_false h4
        clear h4
        have ci1 : ((1 : Int) < (s.size : Int)) = True := eq_true i1
        clear i1
        have ch9 : ((9 : Int) < (s.size : Int)) = False := eq_false h9
        clear h9
        go_enter Tryd.func4, Tryd.ntmps4
        go_wp2_with fail
        refine (lspace_any b d _).mono ?_
        rintro e w1 ⟨rfl, HW⟩
        obtain ⟨KA, KB, HB⟩ := bkAB HW
        have S1 : Hid (Bk w1 w.heap.size #[.int .i64 b, .int .i64 d] 29) := KA
        have R1 : Hid (Bk w1 (w.heap.size + 1) #[.int .i64 0, .int .i64 0, .int .i64 0, .int .i64 0, .int .i64 0, .int .i64 0, .int .i64 0, .int .i64 0, .slice none 0 0] 26) := KB
        have B1 : Hid (Below w.heap.size w w1) := HB
        clear HW KA KB HB
        rw [hg.out]
        go_wp2_with fail
        refine (lin_any _ _ _ _).mono ?_
        rintro e vx ⟨rfl, hx⟩
        have hx' := hx.symm
        clear hx
        subst hx'
        rw [hki.out]
        go_wp2_with fail
        rw [hbq.out]
        refine (lLong_any (bt s 1) (0) _ (by omega) (by omega)).mono ?_
        rintro e w2 ⟨rfl, HW⟩
        have S2 : Hid (Bk w2 w.heap.size #[.int .i64 b, .int .i64 d] 29) := S1.out.keep HW
        have R2 : Hid (Bk w2 (w.heap.size + 1) #[.int .i64 0, .int .i64 0, .int .i64 0, .int .i64 0, .int .i64 0, .int .i64 0, .int .i64 0, .int .i64 0, .slice none 0 0] 26) := R1.out.keep HW
        have B2 : Hid (Below w.heap.size w w2) := belt B1.out HW
        clear HW S1 R1 B1
        obtain ⟨q0, q1, q2, q3, q4, q5, q6, q7, q8⟩ := Bk.c9 R2.out
        obtain ⟨f0, f1, f2, f3, f4, f5, f6, f7, f8⟩ := Bk.f9 R2.out
        have hqx := hqe.out
        generalize flong (bt s 1) (0) = FL at *
        have HE1 : Hid (Bk (setL w2 (w.heap.size + 1) 0 [.int .i64 0, .int .i64 0, .int .i64 0, .int .i64 0, .int .i64 0, .int .i64 0, .int .i64 0, .int .i64 0, .slice none 0 0]) (w.heap.size + 1) #[.int .i64 0, .int .i64 0, .int .i64 0, .int .i64 0, .int .i64 0, .int .i64 0, .int .i64 0, .int .i64 0, .slice none 0 0] 26) := by have h := R2.out.setL [.int .i64 0, .int .i64 0, .int .i64 0, .int .i64 0, .int .i64 0, .int .i64 0, .int .i64 0, .int .i64 0, .slice none 0 0] 0; rw [ovr9] at h; exact h
        have HE2 : Hid (Below w.heap.size w (setL w2 (w.heap.size + 1) 0 [.int .i64 0, .int .i64 0, .int .i64 0, .int .i64 0, .int .i64 0, .int .i64 0, .int .i64 0, .int .i64 0, .slice none 0 0])) := setL_below (by omega) _ 0 B2.out
        go_wp2
        refine bodyPost_ret (results_cell_tmp2 Tryd.results4 _ _ (w.heap.size + 1) _ _ _ _ _ _ rfl rfl rfl HE1.out Tryd.underlying26 rfl (by kernel_rfl)) rfl ⟨none, 0, 0, (congrArg Ending.returned (ansV_no hO.out hC.out)).symm, by rw [rl_no hO.out]; rfl, by rw [rl_no hO.out]; exact .inl rfl, HE2.out⟩
  · have h5' : ((s[1].toNat : Int) == 5) = false := beq_eq_false_iff_ne.2 (by omega)
    have hmn : Hid (many s = 0) := by unfold Hid many; rw [if_neg (fun k => h5 k.1)]
    have HB9 : Hid (bt s 9 ≤ 255) := (bt_bd s 9).2
    have hlo := Nat.zero_le 0
    by_cases hq : (s.size : Int) - (1 : Int) = flong (bt s 1) (0)
    · have hfm : fmB s = true := decide_eq_true ⟨by rw [hmn.out]; omega, by rw [hmn.out]; exact hq⟩
      obtain ⟨h6, hp0, hl0⟩ := form_at hfm
      have hbig : (fL s (fld (bt s 1)) (fld (bt s 1)).length).length ≤ 4 ∨ True := .inr trivial
      have hgr := good_read hgt hkb hfm
      have HGR : Hid (gmB b d (bt s 1) (bt s 2) (a2 s 3) (a2 s 5) (fx s 1) (fx s 2) (fx s 3) (fx s 4) (fL s (fld (bt s 1)) (fld (bt s 1)).length) = okA b d s) := hgr
      clear hgr hbig
      have hyes : Hid (okA b d s = true → rdO b d s = true ∧ rdC b d s = 0) := fun k => rd_yes hgt hlen hkn hfm k
      have hno : Hid (okA b d s = false → rdO b d s = false ∧ rdC b d s = 4) := fun k => rd_sp hgt hlen hkn hfm k
      have HP0 : Hid (∀ j, j < (fld (bt s 1)).length → ¬ (fld (bt s 1)).getD j 0 = 5 → 7 + 2 * j + 1 < s.size) := hp0
      have HL0 : Hid (bt s 1 = 5 → 9 < s.size ∧ 10 + 2 * (bt s 9).toNat ≤ s.size) := fun k => ⟨(hl0 k).1, (hl0 k).2.1⟩
      have hqe : ((s.size : Int) - (1 : Int) != flong (bt s 1) (0)) = false := by simp [hq]
      have HQ : Hid (flong (bt s 1) (0) = flong (bt s 1) (0)) := rfl
      clear hp0 hl0 hfm hq hgt hlen hkn hkb hb1 h5
      have hqe2 : Hid (((s.size : Int) - (1 : Int) != flong (bt s 1) (0)) = false) := hqe
      clear hqe HQ
      have ch1 : ((s.size : Int) < (1 : Int) + (s[0].toNat : Int)) = False := eq_false h1
      clear h1
      have ch2 : ((1 : Int) + (s[0].toNat : Int) < (s.size : Int)) = False := eq_false h2
      clear h2
      have ch3 : ((64 : Int) < (s.size : Int)) = False := eq_false h3
      clear h3
      have ch4 : ((s.size : Int) < 3) = False := eq_false h4
      clear h4
      have ci1 : ((1 : Int) < (s.size : Int)) = True := eq_true i1
      clear i1
      go_enter Tryd.func4, Tryd.ntmps4
      go_wp2_with fail
      refine (lspace_any b d _).mono ?_
      rintro e w1 ⟨rfl, HW⟩
      obtain ⟨KA, KB, HB⟩ := bkAB HW
      have S1 : Hid (Bk w1 w.heap.size #[.int .i64 b, .int .i64 d] 29) := KA
      have R1 : Hid (Bk w1 (w.heap.size + 1) #[.int .i64 0, .int .i64 0, .int .i64 0, .int .i64 0, .int .i64 0, .int .i64 0, .int .i64 0, .int .i64 0, .slice none 0 0] 26) := KB
      have B1 : Hid (Below w.heap.size w w1) := HB
      clear HW KA KB HB
      rw [hg.out]
      go_wp2_with fail
      refine (lin_any _ _ _ _).mono ?_
      rintro e vx ⟨rfl, hx⟩
      have hx' := hx.symm
      clear hx
      subst hx'
      rw [hki.out]
      go_wp2_with fail
      rw [hbq.out]
      refine (lLong_any (bt s 1) (0) _ (by omega) (by omega)).mono ?_
      rintro e w2 ⟨rfl, HW⟩
      have S2 : Hid (Bk w2 w.heap.size #[.int .i64 b, .int .i64 d] 29) := S1.out.keep HW
      have R2 : Hid (Bk w2 (w.heap.size + 1) #[.int .i64 0, .int .i64 0, .int .i64 0, .int .i64 0, .int .i64 0, .int .i64 0, .int .i64 0, .int .i64 0, .slice none 0 0] 26) := R1.out.keep HW
      have B2 : Hid (Below w.heap.size w w2) := belt B1.out HW
      clear HW S1 R1 B1
      have hqe := hqe2.out
      generalize flong (bt s 1) (0) = FL at *
      go_wp2_with fail
      refine (lTake_any s _ hs h6 HP0.out HL0.out).mono ?_
      rintro e w3 ⟨va, vn, vc, rfl, hvn, hrow, HW⟩
      have HXB : w.heap.size + 1 < w2.heap.size := R2.out.lt
      have S3 : Hid (Bk w3 w.heap.size #[.int .i64 b, .int .i64 d] 29) := S2.out.keep HW
      have R3 : Hid (Bk w3 (w.heap.size + 1) #[.int .i64 0, .int .i64 0, .int .i64 0, .int .i64 0, .int .i64 0, .int .i64 0, .int .i64 0, .int .i64 0, .slice none 0 0] 26) := R2.out.keep HW
      have B3 : Hid (Below w.heap.size w w3) := belt B2.out HW
      clear HW S2 R2 B2
      have HROW : Hid (OwnLs w2.heap.size w3.heap.size w3 va vn (fL s (fld (bt s 1)) (fld (bt s 1)).length)) := hrow
      have HVN : Hid ((fL s (fld (bt s 1)) (fld (bt s 1)).length).length = vn) := hvn
      clear hrow hvn hqe hqe2
      have e1 : Hid (fv s (fld (bt s 1)) (fld (bt s 1)).length 1 = fx s 1) := rfl
      have e2 : Hid (fv s (fld (bt s 1)) (fld (bt s 1)).length 2 = fx s 2) := rfl
      have e3 : Hid (fv s (fld (bt s 1)) (fld (bt s 1)).length 3 = fx s 3) := rfl
      have e4 : Hid (fv s (fld (bt s 1)) (fld (bt s 1)).length 4 = fx s 4) := rfl
      rw [e1.out, e2.out, e3.out, e4.out]
      clear e1 e2 e3 e4
      obtain ⟨s0, s1⟩ := Bk.c2 S3.out
      have ls := S3.out.lt
      have hvb : Hid (vn ≤ maxLen) := by unfold Hid maxLen; rw [← HVN.out]; exact Nat.le_trans (fL_big s HB9.out) (by decide)
      go_wp2_with fail
      clear s0 s1 ls
      refine (lGoodMsg_any b d (bt s 1) (bt s 2) (a2 s 3) (a2 s 5) (fx s 1) (fx s 2) (fx s 3) (fx s 4) va vc vn (fL s (fld (bt s 1)) (fld (bt s 1)).length) _ HVN.out hvb.out (HROW.out.rowAt.keep (belA _ _))).mono ?_
      rintro e w4 ⟨rfl, HW⟩
      have hb4 := belt (belA w3 (.cells #[.int .i64 (bt s 1), .int .i64 (bt s 2), .int .i64 (a2 s 3), .int .i64 (a2 s 5), .int .i64 (fx s 1), .int .i64 (fx s 2), .int .i64 (fx s 3), .int .i64 (fx s 4), .slice va vn vc] 26)) HW
      have K4 : Hid (Bk w4 w3.heap.size #[.int .i64 (bt s 1), .int .i64 (bt s 2), .int .i64 (a2 s 3), .int .i64 (a2 s 5), .int .i64 (fx s 1), .int .i64 (fx s 2), .int .i64 (fx s 3), .int .i64 (fx s 4), .slice va vn vc] 26) := (Bk.new _ _ _).keep HW
      have R4 : Hid (Bk w4 (w.heap.size + 1) #[.int .i64 0, .int .i64 0, .int .i64 0, .int .i64 0, .int .i64 0, .int .i64 0, .int .i64 0, .int .i64 0, .slice none 0 0] 26) := R3.out.keep hb4
      have B4 : Hid (Below w.heap.size w w4) := belt B3.out hb4
      have HR4 : Hid (OwnLs w2.heap.size w3.heap.size w4 va vn (fL s (fld (bt s 1)) (fld (bt s 1)).length)) := HROW.out.keep hb4
      have hX3 : w.heap.size + 1 < w3.heap.size := R3.out.lt
      clear HW hb4 S3 R3 B3 HROW HP0 HL0
      rw [HGR.out]
      cases hoa : okA b d s
      · have hO : Hid (rdO b d s = false) := (hno.out hoa).1
        have hC : Hid (rdC b d s = 4) := (hno.out hoa).2
        clear hyes hno hoa HGR
        obtain ⟨q0, q1, q2, q3, q4, q5, q6, q7, q8⟩ := Bk.c9 R4.out
        obtain ⟨f0, f1, f2, f3, f4, f5, f6, f7, f8⟩ := Bk.f9 R4.out
        have HE1 : Hid (Bk (setL w4 (w.heap.size + 1) 0 [.int .i64 0, .int .i64 0, .int .i64 0, .int .i64 0, .int .i64 0, .int .i64 0, .int .i64 0, .int .i64 0, .slice none 0 0]) (w.heap.size + 1) #[.int .i64 0, .int .i64 0, .int .i64 0, .int .i64 0, .int .i64 0, .int .i64 0, .int .i64 0, .int .i64 0, .slice none 0 0] 26) := by have h := R4.out.setL [.int .i64 0, .int .i64 0, .int .i64 0, .int .i64 0, .int .i64 0, .int .i64 0, .int .i64 0, .int .i64 0, .slice none 0 0] 0; rw [ovr9] at h; exact h
        have HE2 : Hid (Below w.heap.size w (setL w4 (w.heap.size + 1) 0 [.int .i64 0, .int .i64 0, .int .i64 0, .int .i64 0, .int .i64 0, .int .i64 0, .int .i64 0, .int .i64 0, .slice none 0 0])) := setL_below (by omega) _ 0 B4.out
        go_wp2
        refine bodyPost_ret (results_cell_tmp2 Tryd.results4 _ _ (w.heap.size + 1) _ _ _ _ _ _ rfl rfl rfl HE1.out Tryd.underlying26 rfl (by kernel_rfl)) rfl ⟨none, 0, 0, (congrArg Ending.returned (ansV_no hO.out hC.out)).symm, by rw [rl_no hO.out]; rfl, by rw [rl_no hO.out]; exact .inl rfl, HE2.out⟩
      · have hO : Hid (rdO b d s = true) := (hyes.out hoa).1
        have hC : Hid (rdC b d s = 0) := (hyes.out hoa).2
        clear hyes hno hoa HGR
        obtain ⟨q0, q1, q2, q3, q4, q5, q6, q7, q8⟩ := Bk.c9 R4.out
        obtain ⟨f0, f1, f2, f3, f4, f5, f6, f7, f8⟩ := Bk.f9 R4.out
        obtain ⟨k0, k1, k2, k3, k4, k5, k6, k7, k8⟩ := Bk.c9 K4.out
        have HE1 : Hid (Bk (setL w4 (w.heap.size + 1) 0 [.int .i64 (bt s 1), .int .i64 (bt s 2), .int .i64 (a2 s 3), .int .i64 (a2 s 5), .int .i64 (fx s 1), .int .i64 (fx s 2), .int .i64 (fx s 3), .int .i64 (fx s 4), .slice va vn vc]) (w.heap.size + 1) #[.int .i64 (bt s 1), .int .i64 (bt s 2), .int .i64 (a2 s 3), .int .i64 (a2 s 5), .int .i64 (fx s 1), .int .i64 (fx s 2), .int .i64 (fx s 3), .int .i64 (fx s 4), .slice va vn vc] 26) := by have h := R4.out.setL [.int .i64 (bt s 1), .int .i64 (bt s 2), .int .i64 (a2 s 3), .int .i64 (a2 s 5), .int .i64 (fx s 1), .int .i64 (fx s 2), .int .i64 (fx s 3), .int .i64 (fx s 4), .slice va vn vc] 0; rw [ovr9] at h; exact h
        have HE2 : Hid (Below w.heap.size w (setL w4 (w.heap.size + 1) 0 [.int .i64 (bt s 1), .int .i64 (bt s 2), .int .i64 (a2 s 3), .int .i64 (a2 s 5), .int .i64 (fx s 1), .int .i64 (fx s 2), .int .i64 (fx s 3), .int .i64 (fx s 4), .slice va vn vc])) := setL_below (by omega) _ 0 B4.out
        have HE3 : Hid (RowAt (setL w4 (w.heap.size + 1) 0 [.int .i64 (bt s 1), .int .i64 (bt s 2), .int .i64 (a2 s 3), .int .i64 (a2 s 5), .int .i64 (fx s 1), .int .i64 (fx s 2), .int .i64 (fx s 3), .int .i64 (fx s 4), .slice va vn vc]) va (fL s (fld (bt s 1)) (fld (bt s 1)).length)) := (HR4.out.blocks (fun k h1 h2 h3 => setL_oth (by omega) _ w4 0)).rowAt
        go_wp2
        refine bodyPost_ret (results_cell_tmp2 Tryd.results4 _ _ (w.heap.size + 1) _ _ _ _ _ _ rfl rfl rfl HE1.out Tryd.underlying26 rfl (by kernel_rfl)) rfl ⟨va, vn, vc, (congrArg Ending.returned (ansV_yes hO.out hC.out)).symm, by rw [rl_yes hO.out]; exact HVN.out, by rw [rl_yes hO.out]; exact HE3.out, HE2.out⟩
    · have hfm : fmB s = false := decide_eq_false (fun k => hq (by have := k.2; rw [hmn.out] at this; exact this))
      have hO : Hid (rdO b d s = false) := (rd_fm hgt hlen hkn hfm).1
      have hC : Hid (rdC b d s = _) := (rd_fm hgt hlen hkn hfm).2
      have hqe : Hid (((s.size : Int) - (1 : Int) != flong (bt s 1) (0)) = true) := by unfold Hid; simpa using hq
      clear hfm hq hgt hlen hkn hkb hb1 h5
      have ch1 : ((s.size : Int) < (1 : Int) + (s[0].toNat : Int)) = False := eq_false h1
      clear h1
      have ch2 : ((1 : Int) + (s[0].toNat : Int) < (s.size : Int)) = False := eq_false h2
      clear h2
      have ch3 : ((64 : Int) < (s.size : Int)) = False := eq_false h3
      clear h3
      have ch4 : ((s.size : Int) < 3) = False := eq_false h4
      clear h4
      have ci1 : ((1 : Int) < (s.size : Int)) = True := eq_true i1
      clear i1
      go_enter Tryd.func4, Tryd.ntmps4
      go_wp2_with fail
      refine (lspace_any b d _).mono ?_
      rintro e w1 ⟨rfl, HW⟩
      obtain ⟨KA, KB, HB⟩ := bkAB HW
      have S1 : Hid (Bk w1 w.heap.size #[.int .i64 b, .int .i64 d] 29) := KA
      have R1 : Hid (Bk w1 (w.heap.size + 1) #[.int .i64 0, .int .i64 0, .int .i64 0, .int .i64 0, .int .i64 0, .int .i64 0, .int .i64 0, .int .i64 0, .slice none 0 0] 26) := KB
      have B1 : Hid (Below w.heap.size w w1) := HB
      clear HW KA KB HB
      rw [hg.out]
      go_wp2_with fail
      refine (lin_any _ _ _ _).mono ?_
      rintro e vx ⟨rfl, hx⟩
      have hx' := hx.symm
      clear hx
      subst hx'
      rw [hki.out]
      go_wp2_with fail
      rw [hbq.out]
      refine (lLong_any (bt s 1) (0) _ (by omega) (by omega)).mono ?_
      rintro e w2 ⟨rfl, HW⟩
      have S2 : Hid (Bk w2 w.heap.size #[.int .i64 b, .int .i64 d] 29) := S1.out.keep HW
      have R2 : Hid (Bk w2 (w.heap.size + 1) #[.int .i64 0, .int .i64 0, .int .i64 0, .int .i64 0, .int .i64 0, .int .i64 0, .int .i64 0, .int .i64 0, .slice none 0 0] 26) := R1.out.keep HW
      have B2 : Hid (Below w.heap.size w w2) := belt B1.out HW
      clear HW S1 R1 B1
      obtain ⟨q0, q1, q2, q3, q4, q5, q6, q7, q8⟩ := Bk.c9 R2.out
      obtain ⟨f0, f1, f2, f3, f4, f5, f6, f7, f8⟩ := Bk.f9 R2.out
      have hqx := hqe.out
      generalize flong (bt s 1) (0) = FL at *
      have HE1 : Hid (Bk (setL w2 (w.heap.size + 1) 0 [.int .i64 0, .int .i64 0, .int .i64 0, .int .i64 0, .int .i64 0, .int .i64 0, .int .i64 0, .int .i64 0, .slice none 0 0]) (w.heap.size + 1) #[.int .i64 0, .int .i64 0, .int .i64 0, .int .i64 0, .int .i64 0, .int .i64 0, .int .i64 0, .int .i64 0, .slice none 0 0] 26) := by have h := R2.out.setL [.int .i64 0, .int .i64 0, .int .i64 0, .int .i64 0, .int .i64 0, .int .i64 0, .int .i64 0, .int .i64 0, .slice none 0 0] 0; rw [ovr9] at h; exact h
      have HE2 : Hid (Below w.heap.size w (setL w2 (w.heap.size + 1) 0 [.int .i64 0, .int .i64 0, .int .i64 0, .int .i64 0, .int .i64 0, .int .i64 0, .int .i64 0, .int .i64 0, .slice none 0 0])) := setL_below (by omega) _ 0 B2.out
      go_wp2
      refine bodyPost_ret (results_cell_tmp2 Tryd.results4 _ _ (w.heap.size + 1) _ _ _ _ _ _ rfl rfl rfl HE1.out Tryd.underlying26 rfl (by kernel_rfl)) rfl ⟨none, 0, 0, (congrArg Ending.returned (ansV_no hO.out hC.out)).symm, by rw [rl_no hO.out]; rfl, by rw [rl_no hO.out]; exact .inl rfl, HE2.out⟩
end Go.Proofs.YtabbicfakkehpaaDoor
