/- The library's sort of twelve rows at most, by their keys. -/
import Derived.Test.YtpgngfdhnoonjaaSo0
import Derived.Test.YtpgngfdhnoonjaaMp1
namespace Go.Proofs.Ytpgngfdhnoonjaa.Tb
open Go.RowKit Wire Go.Deep
set_option linter.unusedVariables false
set_option linter.unusedSimpArgs false
theorem isNaN_any (x : Int) (w : World) : Calls Try.prog 83 #[.int .i64 x] w fun e w' => e = .returned (.bool false) ∧ w' = w := by
  have hx : (x != x) = false := by simp
  go_enter Try.func83, Try.ntmps83
  go_wp2
  go_ret
  exact ⟨rfl, rfl⟩
def cmpI (x y : Int) : Int := if x < y then -1 else if y < x then 1 else 0
theorem compare_any (x y : Int) (w : World) : Calls Try.prog 71 #[.int .i64 x, .int .i64 y] w fun e w' => e = .returned (.int .i64 (cmpI x y)) ∧ w' = w := by
  have HV : Hid (cmpI x y = if x < y then -1 else if y < x then 1 else 0) := rfl
  generalize cmpI x y = V at *
  by_cases h1 : x < y
  · have HV1 : Hid (V = -1) := by unfold Hid; rw [HV.out, if_pos h1]
    go_enter Try.func71, Try.ntmps71
    go_wp2_with (go_at_call 83; refine (isNaN_any _ _).mono ?_; rintro e w1 ⟨rfl, he⟩; have he' := he.symm; clear he; subst he')
    go_ret
    exact ⟨ret_int HV1.out.symm, rfl⟩
  · by_cases h2 : y < x
    · have HV1 : Hid (V = 1) := by unfold Hid; rw [HV.out, if_neg h1, if_pos h2]
      go_enter Try.func71, Try.ntmps71
      go_wp2_with (go_at_call 83; refine (isNaN_any _ _).mono ?_; rintro e w1 ⟨rfl, he⟩; have he' := he.symm; clear he; subst he')
      go_ret
      exact ⟨ret_int HV1.out.symm, rfl⟩
    · have HV1 : Hid (V = 0) := by unfold Hid; rw [HV.out, if_neg h1, if_neg h2]
      go_enter Try.func71, Try.ntmps71
      go_wp2_with (go_at_call 83; refine (isNaN_any _ _).mono ?_; rintro e w1 ⟨rfl, he⟩; have he' := he.symm; clear he; subst he')
      go_ret
      exact ⟨ret_int HV1.out.symm, rfl⟩
theorem byKey_any (x0 x1 x2 y0 y1 y2 : Int) (g c : Bool) (w : World) :
    Calls Try.prog 70 #[.agg #[.int .i64 x0, .int .i64 x1, .int .i64 x2, .bool g], .agg #[.int .i64 y0, .int .i64 y1, .int .i64 y2, .bool c]] w fun e w' => e = .returned (.int .i64 (cmpI x0 y0)) ∧ Below w.heap.size w w' := by
  go_enter Try.func70, Try.ntmps70
  go_wp2_with fail
  refine (compare_any x0 y0 _).mono ?_
  rintro e w1 ⟨rfl, he⟩
  have he' := he.symm
  subst he'
  go_wp2
  go_ret
  exact ⟨rfl, belB _ _ _⟩
set_option maxRecDepth 100000 in
set_option maxHeartbeats 12800000 in
theorem insertion_any (w0 : World) (g c : Nat) (C : List Rw) (n : Nat) (w : World) (hn : C.length = n) (hd : C.Pairwise (fun p q => ¬ p.x0 = q.x0)) (hm : n ≤ 12) (ho : RB w0 w g c C) :
    Calls Try.prog 86 #[.slice (some ⟨g, 0, none⟩) n c, .int .i64 0, .int .i64 n, .func (.func 70) #[] #[]] w fun e w' => e = .returned (.tuple #[]) ∧ ∃ S, Inc S ∧ (∀ r, r ∈ C ↔ r ∈ S) ∧ S.length = n ∧ RB w0 w' g c S := by
  have HO : Hid (RB w0 w g c C) := ho
  have H0 : Hid (Half C [] C 0) := half0 hd
  have HNN : Hid (C.length = n) := hn
  have HCAP : Hid (n ≤ c) := by unfold Hid; rw [← hn]; exact ho.cap
  have hcap : n ≤ c := HCAP.out
  clear hd ho hn
  go_enter Try.func86, Try.ntmps86
  go_wp2_with fail
  go_loopw [8] (fun vi wr => ∃ (i : Nat) (S D : List Rw), 1 ≤ i ∧ vi = .int .i64 i ∧ Hid (Half C S D i ∨ (i = 1 ∧ n = 0 ∧ S = [] ∧ D = [])) ∧ Hid (RB w0 wr g c (S ++ D))) (fun vi _ => n - (intOf vi).toNat)
  case atStart =>
    cases C with
    | nil =>
      have hz : n = 0 := by have := HNN.out; simpa using this.symm
      exact ⟨1, [], [], Nat.le_refl _, rfl, .inr ⟨rfl, hz, rfl, rfl⟩, HO⟩
    | cons x D =>
      refine ⟨1, [x], D, Nat.le_refl _, rfl, .inl ?_, HO⟩
      have := H0.out.step (j := 0) (Nat.le_refl _) (by simp [insS, Inc])
      simpa [insS] using this
  case round =>
    obtain ⟨i, S, D, hi1, rfl, HH, HM⟩ := hrel
    by_cases hlt : i < n
    · have hh : Half C S D i := by
        rcases HH.out with h | h
        · exact h
        · omega
      obtain ⟨x, D2, hD⟩ : ∃ x D2, D = x :: D2 := by
        cases D with
        | nil => have := hh.tot; have := hh.len; have := HNN.out; simp at *; omega
        | cons x D2 => exact ⟨x, D2, rfl⟩
      subst hD
      have HHF : Hid (Half C S (x :: D2) i) := hh
      have HM0 : Hid (RB w0 wr g c (insS S x i ++ D2)) := by
        have e := ins_first (S := S) (D := D2) (x := x) hh.len
        rw [e]
        exact HM
      clear HM HH hh
      go_wp2_with fail
      go_loopw [9] (fun vj wr' => ∃ (j : Nat), j ≤ i ∧ vj = .int .i64 j ∧ Hid (RB w0 wr' g c (insS S x j ++ D2)) ∧ Hid (∀ y ∈ S.drop j, x.x0 < y.x0)) (fun vj _ => (intOf vj).toNat)
      case atStart => exact ⟨i, Nat.le_refl _, rfl, HM0, fun y hy => by rw [List.drop_of_length_le (by rw [HHF.out.len]; exact Nat.le_refl _)] at hy; simp at hy⟩
      case round =>
        clear HM0
        obtain ⟨j, hj, rfl, HM, HG⟩ := hrel
        have HLN : Hid ((insS S x j ++ D2).length = n) := by
          have h1 := HHF.out.tot
          have h2 := HHF.out.len
          have h3 := HNN.out
          simp only [List.length_cons] at h1
          rw [Hid, List.length_append, insS_len (by omega)]
          omega
        have hjs : Hid (j ≤ S.length) := by rw [Hid, HHF.out.len]; exact hj
        by_cases h0 : 0 < j
        · have HA : Hid ((insS S x j ++ D2).getD j rw0 = x) := insS_at hjs.out D2
          have HB : Hid ((insS S x j ++ D2).getD (j - 1) rw0 = S.getD (j - 1) rw0) := insS_pre h0 hjs.out D2
          have q1 := HM.out.el j (by rw [HLN.out]; omega)
          have q2 := HM.out.el (j - 1) (by rw [HLN.out]; omega)
          rw [HA.out] at q1
          rw [HB.out] at q2
          obtain ⟨c0, c1, c2, c3⟩ := CellsAt.rw q1
          obtain ⟨e0, e1, e2, e3⟩ := CellsAt.rw q2
          have HNX : Hid (x.x0 < (S.getD (j - 1) rw0).x0 → ∀ y ∈ S.drop (j - 1), x.x0 < y.x0) := fun h => ins_next h0 hjs.out h HG.out
          have HST : Hid (¬ x.x0 < (S.getD (j - 1) rw0).x0 → Half C (insS S x j) D2 (i + 1)) := fun h => HHF.out.step hj (ins_stop HHF.out.inc (HHF.out.apart x (by simp)) hjs.out (fun _ => h) HG.out)
          have HSW : Hid (∀ w1 : World, RB w0 w1 g c (insS S x j ++ D2) → ∀ A X : Rw, A = S.getD (j - 1) rw0 → X = x → RB w0 (setTr (setTr w1 g (j * 4) (.int .i64 A.x0) (.int .i64 A.x1) (.int .i64 A.x2) (.bool A.b)) g ((j - 1) * 4) (.int .i64 X.x0) (.int .i64 X.x1) (.int .i64 X.x2) (.bool X.b)) g c (insS S x (j - 1) ++ D2)) := by
            intro w1 h A X hA hX
            subst hA hX
            have h2 := (h.put (i := j) (by rw [HLN.out]; omega) (S.getD (j - 1) rw0)).put (i := j - 1) (by rw [List.length_set, HLN.out]; omega) X
            rw [insS_swap h0 hjs.out D2] at h2
            exact h2
          have hgl := HM.out.lt
          clear HA HB q1 q2
          obtain ⟨a, ha⟩ : ∃ a, Hid (a = S.getD (j - 1) rw0) := ⟨_, rfl⟩
          rw [← ha.out] at e0 e1 e2 e3 HNX HST
          obtain ⟨y0, y1, y2, cb⟩ := a
          obtain ⟨X, hX⟩ : ∃ X, Hid (X = x) := ⟨_, rfl⟩
          rw [← hX.out] at c0 c1 c2 c3
          have HXX : Hid (X.x0 = x.x0) := by unfold Hid; rw [hX.out]
          obtain ⟨x0, x1, x2, gb⟩ := X
          have HNX : Hid (x.x0 < y0 → ∀ y ∈ S.drop (j - 1), x.x0 < y.x0) := HNX
          have HST : Hid (¬ x.x0 < y0 → Half C (insS S x j) D2 (i + 1)) := HST
          have HXX : Hid (x0 = x.x0) := HXX
          rw [← HXX.out] at HNX HST
          have kc0 : ∀ p : Kin wr.heap.size wr, p.v.cell? ⟨g, j * 4, none⟩ = some (.int .i64 x0) := kin_cell hgl c0
          have kc1 : ∀ p : Kin wr.heap.size wr, p.v.cell? ⟨g, j * 4 + 1, none⟩ = some (.int .i64 x1) := kin_cell hgl c1
          have kc2 : ∀ p : Kin wr.heap.size wr, p.v.cell? ⟨g, j * 4 + 2, none⟩ = some (.int .i64 x2) := kin_cell hgl c2
          have kc3 : ∀ p : Kin wr.heap.size wr, p.v.cell? ⟨g, j * 4 + 3, none⟩ = some (.bool gb) := kin_cell hgl c3
          have ke0 : ∀ p : Kin wr.heap.size wr, p.v.cell? ⟨g, (j - 1) * 4, none⟩ = some (.int .i64 y0) := kin_cell hgl e0
          have ke1 : ∀ p : Kin wr.heap.size wr, p.v.cell? ⟨g, (j - 1) * 4 + 1, none⟩ = some (.int .i64 y1) := kin_cell hgl e1
          have ke2 : ∀ p : Kin wr.heap.size wr, p.v.cell? ⟨g, (j - 1) * 4 + 2, none⟩ = some (.int .i64 y2) := kin_cell hgl e2
          have ke3 : ∀ p : Kin wr.heap.size wr, p.v.cell? ⟨g, (j - 1) * 4 + 3, none⟩ = some (.bool cb) := kin_cell hgl e3
          have CL : ∀ w', Calls Try.prog 70 #[.agg #[.int .i64 x0, .int .i64 x1, .int .i64 x2, .bool gb], .agg #[.int .i64 y0, .int .i64 y1, .int .i64 y2, .bool cb]] w' fun e w'' => e = .returned (.int .i64 (cmpI x0 y0)) ∧ Below w'.heap.size w' w'' := fun w' => byKey_any x0 x1 x2 y0 y1 y2 gb cb w'
          have hj0 : decide (0 < j) = true := decide_eq_true h0
          have hjj : (j : Int) - 1 = ((j - 1 : Nat) : Int) := by omega
          have hjn : j < n := by omega
          have hjm : j - 1 < n := by omega
          by_cases h1 : x0 < y0
          · have HNX2 : Hid (∀ y ∈ S.drop (j - 1), x.x0 < y.x0) := by unfold Hid; rw [← HXX.out]; exact HNX.out h1
            have hcm : cmpI x0 y0 = -1 := if_pos h1
            rw [hcm] at CL
            clear h1 HNX HST HG hcm c0 c1 c2 c3 e0 e1 e2 e3
            go_wp2
            refine region_kin wr.heap.size (by kernel_rfl) (by kernel_rfl) (fun hne => ?_)
            repeat (go_big_quiet_step ((go_at_call 70; exact kin_of (Nat.le_refl _) (CL _))))
            refine wpQuiet_nil ?_
            intro xw hw'
            obtain ⟨⟨w1, hw1⟩, hw1'⟩ := hw'
            have hw1'' : w1 = xw := hw1'.symm
            subst hw1''
            have c0 : w1.cell? ⟨g, j * 4, none⟩ = some (.int .i64 x0) := kc0 ⟨w1, hw1⟩
            have c1 : w1.cell? ⟨g, j * 4 + 1, none⟩ = some (.int .i64 x1) := kc1 ⟨w1, hw1⟩
            have c2 : w1.cell? ⟨g, j * 4 + 2, none⟩ = some (.int .i64 x2) := kc2 ⟨w1, hw1⟩
            have c3 : w1.cell? ⟨g, j * 4 + 3, none⟩ = some (.bool gb) := kc3 ⟨w1, hw1⟩
            have e0 : w1.cell? ⟨g, (j - 1) * 4, none⟩ = some (.int .i64 y0) := ke0 ⟨w1, hw1⟩
            have e1 : w1.cell? ⟨g, (j - 1) * 4 + 1, none⟩ = some (.int .i64 y1) := ke1 ⟨w1, hw1⟩
            have e2 : w1.cell? ⟨g, (j - 1) * 4 + 2, none⟩ = some (.int .i64 y2) := ke2 ⟨w1, hw1⟩
            have e3 : w1.cell? ⟨g, (j - 1) * 4 + 3, none⟩ = some (.bool cb) := ke3 ⟨w1, hw1⟩
            have HM1 : Hid (RB w0 w1 g c (insS S x j ++ D2)) := HM.out.keep hw1
            have f0 := HM1.out.fr (j * 4)
            have f1 := HM1.out.fr (j * 4 + 1)
            have f2 := HM1.out.fr (j * 4 + 2)
            have f3 := HM1.out.fr (j * 4 + 3)
            have k0 := HM1.out.fr ((j - 1) * 4)
            have k1 := HM1.out.fr ((j - 1) * 4 + 1)
            have k2 := HM1.out.fr ((j - 1) * 4 + 2)
            have k3 := HM1.out.fr ((j - 1) * 4 + 3)
            have HM2 : Hid (RB w0 (setTr (setTr w1 g (j * 4) (.int .i64 y0) (.int .i64 y1) (.int .i64 y2) (.bool cb)) g ((j - 1) * 4) (.int .i64 x0) (.int .i64 x1) (.int .i64 x2) (.bool gb)).drew g c (insS S x (j - 1) ++ D2)) := (HSW.out w1 HM1.out _ _ ha.out hX.out).keep ((Below.refl _ _).drew)
            clear kc0 kc1 kc2 kc3 ke0 ke1 ke2 ke3 hne hw1 hw1' CL HSW HM HM1 ha hX HXX HLN hgl
            go_wp2
            go_region
            go_wp2
            go_roundw
            case rel => exact ⟨j - 1, by omega, by go_num, HM2, HNX2⟩
            case measure => simp [intOf]; omega
          · have HST2 : Hid (Half C (insS S x j) D2 (i + 1)) := HST.out h1
            obtain ⟨v, hcm, hv⟩ : ∃ v, cmpI x0 y0 = v ∧ 0 ≤ v := ⟨_, rfl, by unfold cmpI; rw [if_neg h1]; split <;> omega⟩
            rw [hcm] at CL
            have hvd : decide (v < 0) = false := decide_eq_false (by omega)
            clear h1 HNX HST HG hcm hv
            go_wp2
            refine region_kin wr.heap.size (by kernel_rfl) (by kernel_rfl) (fun hne => ?_)
            repeat (go_big_quiet_step ((go_at_call 70; exact kin_of (Nat.le_refl _) (CL _))))
            refine wpQuiet_nil ?_
            intro xw hw'
            obtain ⟨⟨w1, hw1⟩, hw1'⟩ := hw'
            have hw1'' : w1 = xw := hw1'.symm
            subst hw1''
            have HM1 : Hid (RB w0 w1 g c (insS S x j ++ D2)) := HM.out.keep hw1
            clear kc0 kc1 kc2 kc3 ke0 ke1 ke2 ke3 hne hw1 hw1' CL HSW HM c0 c1 c2 c3 e0 e1 e2 e3
            go_wp2
            go_roundw
            case rel => exact ⟨i + 1, insS S x j, D2, by omega, by go_num, .inl HST2.out, HM1⟩
            case measure => simp [intOf]; omega
        · have hj0 : j = 0 := by omega
          have HST2 : Hid (Half C (insS S x j) D2 (i + 1)) := HHF.out.step hj (ins_stop HHF.out.inc (HHF.out.apart x (by simp)) hjs.out (fun h => absurd h h0) HG.out)
          subst hj0
          clear HG HLN hjs
          go_wp2
          refine region_kin wr.heap.size (by kernel_rfl) (by kernel_rfl) (fun hne => ?_)
          repeat (go_big_quiet_step (fail))
          refine wpQuiet_nil ?_
          intro xw hw'
          obtain ⟨⟨w1, hw1⟩, hw1'⟩ := hw'
          have hw1'' : w1 = xw := hw1'.symm
          subst hw1''
          have HM2 : Hid (RB w0 w1 g c (insS S x 0 ++ D2)) := HM.out.keep hw1
          clear hw1' hne
          go_wp2
          go_roundw
          case rel => exact ⟨i + 1, insS S x 0, D2, by omega, by go_num, .inl HST2.out, HM2⟩
          case measure => simp [intOf]; omega
    · have HF : Hid (∃ S, Inc S ∧ (∀ r, r ∈ C ↔ r ∈ S) ∧ S.length = n ∧ RB w0 wr g c S) := by
        have h3 := HNN.out
        rcases HH.out with h | ⟨_, h, hs, hd⟩
        · have hd : D = [] := List.length_eq_zero_iff.1 (by have := h.tot; have := h.len; omega)
          subst hd
          have hm := HM.out
          rw [List.append_nil] at hm
          exact ⟨S, h.inc, fun r => by rw [h.mem r]; simp, by have := h.tot; simp at this; omega, hm⟩
        · subst hs hd
          have hc : C = [] := List.length_eq_zero_iff.1 (by omega)
          subst hc
          exact ⟨[], List.Pairwise.nil, fun r => Iff.rfl, h.symm, HM.out⟩
      clear HM HH
      go_wp2
      go_end0
      exact ⟨rfl, HF.out⟩
set_option maxRecDepth 100000 in
theorem bitsLen64_any (x : Int) (w : World) (h0 : 0 ≤ x) (h1 : x ≤ 12) : Calls Try.prog 95 #[.int .u64 x] w fun e w' => (∃ v, e = .returned (.int .i64 v)) ∧ w' = w := by
  go_enter Try.func95, Try.ntmps95
  go_wp2
  go_ret
  exact ⟨⟨_, rfl⟩, rfl⟩
theorem bitsLen_any (x : Int) (w : World) (h0 : 0 ≤ x) (h1 : x ≤ 12) : Calls Try.prog 82 #[.int .u64 x] w fun e w' => (∃ v, e = .returned (.int .i64 v)) ∧ w' = w := by
  go_enter Try.func82, Try.ntmps82
  go_wp2_with fail
  refine (bitsLen64_any x _ h0 h1).mono ?_
  rintro e w1 ⟨⟨v, rfl⟩, rfl⟩
  go_wp2
  go_ret
  exact ⟨⟨_, rfl⟩, rfl⟩
set_option maxRecDepth 100000 in
theorem pdq_any (w0 : World) (g c : Nat) (C : List Rw) (n : Nat) (v : Int) (w : World) (hn : C.length = n) (hd : C.Pairwise (fun p q => ¬ p.x0 = q.x0)) (hm : n ≤ 12) (ho : RB w0 w g c C) :
    Calls Try.prog 81 #[.slice (some ⟨g, 0, none⟩) n c, .int .i64 0, .int .i64 n, .int .i64 v, .func (.func 70) #[] #[]] w fun e w' => e = .returned (.tuple #[]) ∧ ∃ S, Inc S ∧ (∀ r, r ∈ C ↔ r ∈ S) ∧ S.length = n ∧ RB w0 w' g c S := by
  have K := insertion_any w0 g c C n w hn hd hm ho
  clear ho hd hn
  go_enter Try.func81, Try.ntmps81
  go_wp2_with fail
  go_loop [1, 2] (fun v1 v2 => v1 = .int .i64 0 ∧ v2 = .int .i64 n) (fun _ _ => 0)
  case atStart => exact ⟨rfl, rfl⟩
  case round =>
    obtain ⟨rfl, rfl⟩ := hrel
    go_wp2_with fail
    refine K.mono ?_
    rintro e w1 ⟨rfl, HO⟩
    have HO' : Hid (∃ S, Inc S ∧ (∀ r, r ∈ C ↔ r ∈ S) ∧ S.length = n ∧ RB w0 w1 g c S) := HO
    clear HO K
    go_wp2
    (try simp only [Exit.inBlock, Exit.then])
    refine bodyPost_ret (results_none rfl _ _ _) rfl ?_
    exact ⟨rfl, HO'.out⟩
theorem sortFunc_any (w0 : World) (g c : Nat) (C : List Rw) (n : Nat) (w : World) (hn : C.length = n) (hd : C.Pairwise (fun p q => ¬ p.x0 = q.x0)) (hm : n ≤ 12) (ho : RB w0 w g c C) :
    Calls Try.prog 69 #[.slice (some ⟨g, 0, none⟩) n c, .func (.func 70) #[] #[]] w fun e w' => e = .returned (.tuple #[]) ∧ ∃ S, Inc S ∧ (∀ r, r ∈ C ↔ r ∈ S) ∧ S.length = n ∧ RB w0 w' g c S := by
  have K := fun v => pdq_any w0 g c C n v w hn hd hm ho
  clear ho hd hn
  go_enter Try.func69, Try.ntmps69
  go_wp2_with fail
  refine (bitsLen_any (n : Int) _ (by omega) (by omega)).mono ?_
  rintro e w1 ⟨⟨v, rfl⟩, he⟩
  have he' := he.symm
  subst he'
  clear he
  go_wp2_with fail
  refine (K v).mono ?_
  rintro e w2 ⟨rfl, HO⟩
  have HO' : Hid (∃ S, Inc S ∧ (∀ r, r ∈ C ↔ r ∈ S) ∧ S.length = n ∧ RB w0 w2 g c S) := HO
  clear HO K
  go_wp2
  go_end0
  exact ⟨rfl, HO'.out⟩
end Go.Proofs.Ytpgngfdhnoonjaa.Tb
