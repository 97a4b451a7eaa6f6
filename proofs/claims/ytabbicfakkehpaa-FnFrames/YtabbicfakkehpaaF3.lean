/- SameMsg on both sides, and two messages that are the same held against each other. -/
import Derived.Test.YtabbicfakkehpaaF2
namespace Go.Proofs.Ytabbicfakkehpaa
open Go.RowKit
set_option linter.unusedVariables false
def hdB (x0 x1 x2 x3 x4 x5 x6 x7 y0 y1 y2 y3 y4 y5 y6 y7 : Int) : Bool := decide (x0 = y0 ∧ x1 = y1 ∧ x2 = y2 ∧ x3 = y3 ∧ x4 = y4 ∧ x5 = y5 ∧ x6 = y6 ∧ x7 = y7)
set_option maxHeartbeats 800000 in
theorem lsame_any (a a' : Option Addr) (cap cap' : Nat) (xs ys : List Int) (w : World) (hm : xs.length ≤ maxLen) (hx : RowAt w a xs) (hy : RowAt w a' ys) :
    Calls Try.prog 58 #[.slice a xs.length cap, .slice a' ys.length cap'] w fun e w' => e = .returned (.bool (sameB xs ys)) ∧ Below w.heap.size w w' := by
  unfold maxLen at hm
  have HX : Hid (RowAt w a xs) := hx
  have HY : Hid (RowAt w a' ys) := hy
  clear hx hy
  by_cases hl : xs.length = ys.length
  · have HL : Hid (xs.length = ys.length) := hl
    have hle : ((xs.length : Int) != (ys.length : Int)) = false := by simp [hl]
    clear hl
    go_enter Try.func58, Try.ntmps58
    go_wp2_with fail
    go_loopw [13] (fun vi wr => ∃ k : Nat, k ≤ xs.length ∧ vi = .int .i64 k ∧ xs.take k = ys.take k ∧ ∃ n, wr = w.drewN n) (fun vi _ => xs.length - (intOf vi).toNat)
    case atStart => exact ⟨0, Nat.zero_le _, rfl, rfl, 0, rfl⟩
    case round =>
      obtain ⟨k, hk, rfl, hs, n, rfl⟩ := hrel
      have HS : Hid (xs.take k = ys.take k) := hs
      clear hs
      by_cases hlt : k < xs.length
      · have hlt2 : k < ys.length := by have := HL.out; omega
        obtain ⟨bk, off, rfl⟩ := rowAt_form HX.out (by omega)
        obtain ⟨bk2, off2, rfl⟩ := rowAt_form HY.out (by omega)
        have hc1 := (rowAt_cell HX.out (by omega)).2 k hlt
        have hc2 := (rowAt_cell HY.out (by omega)).2 k hlt2
        by_cases he : xs.getD k 0 = ys.getD k 0
        · have ht : Hid (xs.take (k + 1) = ys.take (k + 1)) := same_take hlt hlt2 HS.out he
          have he' : (xs.getD k 0 != ys.getD k 0) = false := by rw [he]; simp
          generalize xs.getD k 0 = x at hc1 he'
          generalize ys.getD k 0 = y at hc2 he'
          clear he
          go_wp2
          go_quiet (fail)
          go_wp2
          go_roundw
          case rel => exact ⟨k + 1, by omega, by go_num, ht.out, _, rfl⟩
          case measure => simp [intOf]; omega
        · have hv : Hid (sameB xs ys = false) := sameB_no he
          have he' : (xs.getD k 0 != ys.getD k 0) = true := by simpa using he
          generalize xs.getD k 0 = x at hc1 he'
          generalize ys.getD k 0 = y at hc2 he'
          clear he
          go_wp2
          go_quiet (fail)
          go_wp2
          go_ret
          exact ⟨ret_bool hv.out.symm, by first | exact below_drewN (below_drewN (Below.refl _ _) _) _ | exact below_drewN (Below.refl _ _) _⟩
      · have hv : Hid (sameB xs ys = true) := sameB_yes HL.out hlt HS.out
        go_wp2
        go_ret
        exact ⟨ret_bool hv.out.symm, below_drewN (Below.refl _ _) _⟩
  · have hv : sameB xs ys = false := decide_eq_false (fun h => hl (by rw [h]))
    rw [hv]
    have hle : ((xs.length : Int) != (ys.length : Int)) = true := by simp; omega
    clear hl hv
    go_enter Try.func58, Try.ntmps58
    go_wp2
    go_ret
    exact ⟨rfl, Below.refl _ _⟩

theorem hdB_yes (x0 x1 x2 x3 x4 x5 x6 x7 : Int) : hdB x0 x1 x2 x3 x4 x5 x6 x7 x0 x1 x2 x3 x4 x5 x6 x7 = true := decide_eq_true ⟨rfl, rfl, rfl, rfl, rfl, rfl, rfl, rfl⟩
theorem hdB_true {x0 x1 x2 x3 x4 x5 x6 x7 y0 y1 y2 y3 y4 y5 y6 y7 : Int} (h : hdB x0 x1 x2 x3 x4 x5 x6 x7 y0 y1 y2 y3 y4 y5 y6 y7 = true) : x0 = y0 ∧ x1 = y1 ∧ x2 = y2 ∧ x3 = y3 ∧ x4 = y4 ∧ x5 = y5 ∧ x6 = y6 ∧ x7 = y7 := of_decide_eq_true h
theorem hdB_no0 {x0 x1 x2 x3 x4 x5 x6 x7 y0 y1 y2 y3 y4 y5 y6 y7 : Int} (b : Bool) (h : ¬ x0 = y0) : (hdB x0 x1 x2 x3 x4 x5 x6 x7 y0 y1 y2 y3 y4 y5 y6 y7 && b) = false := by rw [show hdB x0 x1 x2 x3 x4 x5 x6 x7 y0 y1 y2 y3 y4 y5 y6 y7 = false from decide_eq_false (fun k => h k.1)]; rfl
theorem hdB_no1 {x0 x1 x2 x3 x4 x5 x6 x7 y0 y1 y2 y3 y4 y5 y6 y7 : Int} (b : Bool) (h : ¬ x1 = y1) : (hdB x0 x1 x2 x3 x4 x5 x6 x7 y0 y1 y2 y3 y4 y5 y6 y7 && b) = false := by rw [show hdB x0 x1 x2 x3 x4 x5 x6 x7 y0 y1 y2 y3 y4 y5 y6 y7 = false from decide_eq_false (fun k => h k.2.1)]; rfl
theorem hdB_no2 {x0 x1 x2 x3 x4 x5 x6 x7 y0 y1 y2 y3 y4 y5 y6 y7 : Int} (b : Bool) (h : ¬ x2 = y2) : (hdB x0 x1 x2 x3 x4 x5 x6 x7 y0 y1 y2 y3 y4 y5 y6 y7 && b) = false := by rw [show hdB x0 x1 x2 x3 x4 x5 x6 x7 y0 y1 y2 y3 y4 y5 y6 y7 = false from decide_eq_false (fun k => h k.2.2.1)]; rfl
theorem hdB_no3 {x0 x1 x2 x3 x4 x5 x6 x7 y0 y1 y2 y3 y4 y5 y6 y7 : Int} (b : Bool) (h : ¬ x3 = y3) : (hdB x0 x1 x2 x3 x4 x5 x6 x7 y0 y1 y2 y3 y4 y5 y6 y7 && b) = false := by rw [show hdB x0 x1 x2 x3 x4 x5 x6 x7 y0 y1 y2 y3 y4 y5 y6 y7 = false from decide_eq_false (fun k => h k.2.2.2.1)]; rfl
theorem hdB_no4 {x0 x1 x2 x3 x4 x5 x6 x7 y0 y1 y2 y3 y4 y5 y6 y7 : Int} (b : Bool) (h : ¬ x4 = y4) : (hdB x0 x1 x2 x3 x4 x5 x6 x7 y0 y1 y2 y3 y4 y5 y6 y7 && b) = false := by rw [show hdB x0 x1 x2 x3 x4 x5 x6 x7 y0 y1 y2 y3 y4 y5 y6 y7 = false from decide_eq_false (fun k => h k.2.2.2.2.1)]; rfl
theorem hdB_no5 {x0 x1 x2 x3 x4 x5 x6 x7 y0 y1 y2 y3 y4 y5 y6 y7 : Int} (b : Bool) (h : ¬ x5 = y5) : (hdB x0 x1 x2 x3 x4 x5 x6 x7 y0 y1 y2 y3 y4 y5 y6 y7 && b) = false := by rw [show hdB x0 x1 x2 x3 x4 x5 x6 x7 y0 y1 y2 y3 y4 y5 y6 y7 = false from decide_eq_false (fun k => h k.2.2.2.2.2.1)]; rfl
theorem hdB_no6 {x0 x1 x2 x3 x4 x5 x6 x7 y0 y1 y2 y3 y4 y5 y6 y7 : Int} (b : Bool) (h : ¬ x6 = y6) : (hdB x0 x1 x2 x3 x4 x5 x6 x7 y0 y1 y2 y3 y4 y5 y6 y7 && b) = false := by rw [show hdB x0 x1 x2 x3 x4 x5 x6 x7 y0 y1 y2 y3 y4 y5 y6 y7 = false from decide_eq_false (fun k => h k.2.2.2.2.2.2.1)]; rfl
theorem hdB_no7 {x0 x1 x2 x3 x4 x5 x6 x7 y0 y1 y2 y3 y4 y5 y6 y7 : Int} (b : Bool) (h : ¬ x7 = y7) : (hdB x0 x1 x2 x3 x4 x5 x6 x7 y0 y1 y2 y3 y4 y5 y6 y7 && b) = false := by rw [show hdB x0 x1 x2 x3 x4 x5 x6 x7 y0 y1 y2 y3 y4 y5 y6 y7 = false from decide_eq_false (fun k => h k.2.2.2.2.2.2.2)]; rfl
set_option maxHeartbeats 1600000 in
theorem SameMsg_any (x0 x1 x2 x3 x4 x5 x6 x7 y0 y1 y2 y3 y4 y5 y6 y7 : Int) (a a' : Option Addr) (cap cap' n n' : Nat) (l l' : List Int) (w : World) (hn : l.length = n) (hn' : l'.length = n') (hm : n ≤ maxLen) (hx : RowAt w a l) (hy : RowAt w a' l') :
    Calls Try.prog 29 #[.agg #[.int .i64 x0, .int .i64 x1, .int .i64 x2, .int .i64 x3, .int .i64 x4, .int .i64 x5, .int .i64 x6, .int .i64 x7, .slice a n cap], .agg #[.int .i64 y0, .int .i64 y1, .int .i64 y2, .int .i64 y3, .int .i64 y4, .int .i64 y5, .int .i64 y6, .int .i64 y7, .slice a' n' cap']] w fun e w' => e = .returned (.bool (hdB x0 x1 x2 x3 x4 x5 x6 x7 y0 y1 y2 y3 y4 y5 y6 y7 && sameB l l')) ∧ Below w.heap.size w w' := by
  subst hn hn'
  have HX : Hid (RowAt w a l) := hx
  have HY : Hid (RowAt w a' l') := hy
  clear hx hy
  by_cases h0 : x0 = y0
  · subst h0
    by_cases h1 : x1 = y1
    · subst h1
      by_cases h2 : x2 = y2
      · subst h2
        by_cases h3 : x3 = y3
        · subst h3
          by_cases h4 : x4 = y4
          · subst h4
            by_cases h5 : x5 = y5
            · subst h5
              by_cases h6 : x6 = y6
              · subst h6
                by_cases h7 : x7 = y7
                · subst h7
                  obtain ⟨sb, hsb⟩ : ∃ z, Hid (sameB l l' = z) := ⟨_, rfl⟩
                  have HV : Hid ((hdB x0 x1 x2 x3 x4 x5 x6 x7 x0 x1 x2 x3 x4 x5 x6 x7 && sameB l l') = sb) := by unfold Hid; rw [hdB_yes, hsb.out]; rfl
                  go_enter Try.func29, Try.ntmps29
                  go_wp2_with (go_at_call 59; refine (equal_any a a' cap cap' l l' _ hm (HX.out.keep (((Below.refl _ _).alloc (Nat.le_refl _) _).alloc (by simp) _)) (HY.out.keep (((Below.refl _ _).alloc (Nat.le_refl _) _).alloc (by simp) _))).mono ?_; rintro e w1 ⟨rfl, hw⟩; rw [hsb.out])
                  all_goals go_ret
                  all_goals exact ⟨ret_bool HV.out.symm, bel2 hw (by simp; try omega)⟩
                · have HV : Hid ((hdB x0 x1 x2 x3 x4 x5 x6 x7 x0 x1 x2 x3 x4 x5 x6 y7 && sameB l l') = false) := hdB_no7 _ h7
                  have g : (x7 == y7) = false := beq_eq_false_iff_ne.2 h7
                  clear h7
                  go_enter Try.func29, Try.ntmps29
                  go_wp2
                  go_ret
                  exact ⟨ret_bool HV.out.symm, ((Below.refl _ _).alloc (Nat.le_refl _) _).alloc (by simp) _⟩
              · have HV : Hid ((hdB x0 x1 x2 x3 x4 x5 x6 x7 x0 x1 x2 x3 x4 x5 y6 y7 && sameB l l') = false) := hdB_no6 _ h6
                have g : (x6 == y6) = false := beq_eq_false_iff_ne.2 h6
                clear h6
                go_enter Try.func29, Try.ntmps29
                go_wp2
                go_ret
                exact ⟨ret_bool HV.out.symm, ((Below.refl _ _).alloc (Nat.le_refl _) _).alloc (by simp) _⟩
            · have HV : Hid ((hdB x0 x1 x2 x3 x4 x5 x6 x7 x0 x1 x2 x3 x4 y5 y6 y7 && sameB l l') = false) := hdB_no5 _ h5
              have g : (x5 == y5) = false := beq_eq_false_iff_ne.2 h5
              clear h5
              go_enter Try.func29, Try.ntmps29
              go_wp2
              go_ret
              exact ⟨ret_bool HV.out.symm, ((Below.refl _ _).alloc (Nat.le_refl _) _).alloc (by simp) _⟩
          · have HV : Hid ((hdB x0 x1 x2 x3 x4 x5 x6 x7 x0 x1 x2 x3 y4 y5 y6 y7 && sameB l l') = false) := hdB_no4 _ h4
            have g : (x4 == y4) = false := beq_eq_false_iff_ne.2 h4
            clear h4
            go_enter Try.func29, Try.ntmps29
            go_wp2
            go_ret
            exact ⟨ret_bool HV.out.symm, ((Below.refl _ _).alloc (Nat.le_refl _) _).alloc (by simp) _⟩
        · have HV : Hid ((hdB x0 x1 x2 x3 x4 x5 x6 x7 x0 x1 x2 y3 y4 y5 y6 y7 && sameB l l') = false) := hdB_no3 _ h3
          have g : (x3 == y3) = false := beq_eq_false_iff_ne.2 h3
          clear h3
          go_enter Try.func29, Try.ntmps29
          go_wp2
          go_ret
          exact ⟨ret_bool HV.out.symm, ((Below.refl _ _).alloc (Nat.le_refl _) _).alloc (by simp) _⟩
      · have HV : Hid ((hdB x0 x1 x2 x3 x4 x5 x6 x7 x0 x1 y2 y3 y4 y5 y6 y7 && sameB l l') = false) := hdB_no2 _ h2
        have g : (x2 == y2) = false := beq_eq_false_iff_ne.2 h2
        clear h2
        go_enter Try.func29, Try.ntmps29
        go_wp2
        go_ret
        exact ⟨ret_bool HV.out.symm, ((Below.refl _ _).alloc (Nat.le_refl _) _).alloc (by simp) _⟩
    · have HV : Hid ((hdB x0 x1 x2 x3 x4 x5 x6 x7 x0 y1 y2 y3 y4 y5 y6 y7 && sameB l l') = false) := hdB_no1 _ h1
      have g : (x1 == y1) = false := beq_eq_false_iff_ne.2 h1
      clear h1
      go_enter Try.func29, Try.ntmps29
      go_wp2
      go_ret
      exact ⟨ret_bool HV.out.symm, ((Below.refl _ _).alloc (Nat.le_refl _) _).alloc (by simp) _⟩
  · have HV : Hid ((hdB x0 x1 x2 x3 x4 x5 x6 x7 y0 y1 y2 y3 y4 y5 y6 y7 && sameB l l') = false) := hdB_no0 _ h0
    have g : (x0 == y0) = false := beq_eq_false_iff_ne.2 h0
    clear h0
    go_enter Try.func29, Try.ntmps29
    go_wp2
    go_ret
    exact ⟨ret_bool HV.out.symm, ((Below.refl _ _).alloc (Nat.le_refl _) _).alloc (by simp) _⟩
set_option maxHeartbeats 1600000 in
theorem lSameMsg_any (x0 x1 x2 x3 x4 x5 x6 x7 y0 y1 y2 y3 y4 y5 y6 y7 : Int) (a a' : Option Addr) (cap cap' n n' : Nat) (l l' : List Int) (w : World) (hn : l.length = n) (hn' : l'.length = n') (hm : n ≤ maxLen) (hx : RowAt w a l) (hy : RowAt w a' l') :
    Calls Try.prog 28 #[.agg #[.int .i64 x0, .int .i64 x1, .int .i64 x2, .int .i64 x3, .int .i64 x4, .int .i64 x5, .int .i64 x6, .int .i64 x7, .slice a n cap], .agg #[.int .i64 y0, .int .i64 y1, .int .i64 y2, .int .i64 y3, .int .i64 y4, .int .i64 y5, .int .i64 y6, .int .i64 y7, .slice a' n' cap']] w fun e w' => e = .returned (.bool (hdB x0 x1 x2 x3 x4 x5 x6 x7 y0 y1 y2 y3 y4 y5 y6 y7 && sameB l l')) ∧ Below w.heap.size w w' := by
  subst hn hn'
  have HX : Hid (RowAt w a l) := hx
  have HY : Hid (RowAt w a' l') := hy
  clear hx hy
  by_cases h0 : x0 = y0
  · subst h0
    by_cases h1 : x1 = y1
    · subst h1
      by_cases h2 : x2 = y2
      · subst h2
        by_cases h3 : x3 = y3
        · subst h3
          by_cases h4 : x4 = y4
          · subst h4
            by_cases h5 : x5 = y5
            · subst h5
              by_cases h6 : x6 = y6
              · subst h6
                by_cases h7 : x7 = y7
                · subst h7
                  obtain ⟨sb, hsb⟩ : ∃ z, Hid (sameB l l' = z) := ⟨_, rfl⟩
                  have HV : Hid ((hdB x0 x1 x2 x3 x4 x5 x6 x7 x0 x1 x2 x3 x4 x5 x6 x7 && sameB l l') = sb) := by unfold Hid; rw [hdB_yes, hsb.out]; rfl
                  go_enter Try.func28, Try.ntmps28
                  go_wp2_with (go_at_call 58; refine (lsame_any a a' cap cap' l l' _ hm (HX.out.keep (((Below.refl _ _).alloc (Nat.le_refl _) _).alloc (by simp) _)) (HY.out.keep (((Below.refl _ _).alloc (Nat.le_refl _) _).alloc (by simp) _))).mono ?_; rintro e w1 ⟨rfl, hw⟩; rw [hsb.out])
                  all_goals go_ret
                  all_goals exact ⟨ret_bool HV.out.symm, bel2 hw (by simp; try omega)⟩
                · have HV : Hid ((hdB x0 x1 x2 x3 x4 x5 x6 x7 x0 x1 x2 x3 x4 x5 x6 y7 && sameB l l') = false) := hdB_no7 _ h7
                  have g : (x7 == y7) = false := beq_eq_false_iff_ne.2 h7
                  clear h7
                  go_enter Try.func28, Try.ntmps28
                  go_wp2
                  go_ret
                  exact ⟨ret_bool HV.out.symm, ((Below.refl _ _).alloc (Nat.le_refl _) _).alloc (by simp) _⟩
              · have HV : Hid ((hdB x0 x1 x2 x3 x4 x5 x6 x7 x0 x1 x2 x3 x4 x5 y6 y7 && sameB l l') = false) := hdB_no6 _ h6
                have g : (x6 == y6) = false := beq_eq_false_iff_ne.2 h6
                clear h6
                go_enter Try.func28, Try.ntmps28
                go_wp2
                go_ret
                exact ⟨ret_bool HV.out.symm, ((Below.refl _ _).alloc (Nat.le_refl _) _).alloc (by simp) _⟩
            · have HV : Hid ((hdB x0 x1 x2 x3 x4 x5 x6 x7 x0 x1 x2 x3 x4 y5 y6 y7 && sameB l l') = false) := hdB_no5 _ h5
              have g : (x5 == y5) = false := beq_eq_false_iff_ne.2 h5
              clear h5
              go_enter Try.func28, Try.ntmps28
              go_wp2
              go_ret
              exact ⟨ret_bool HV.out.symm, ((Below.refl _ _).alloc (Nat.le_refl _) _).alloc (by simp) _⟩
          · have HV : Hid ((hdB x0 x1 x2 x3 x4 x5 x6 x7 x0 x1 x2 x3 y4 y5 y6 y7 && sameB l l') = false) := hdB_no4 _ h4
            have g : (x4 == y4) = false := beq_eq_false_iff_ne.2 h4
            clear h4
            go_enter Try.func28, Try.ntmps28
            go_wp2
            go_ret
            exact ⟨ret_bool HV.out.symm, ((Below.refl _ _).alloc (Nat.le_refl _) _).alloc (by simp) _⟩
        · have HV : Hid ((hdB x0 x1 x2 x3 x4 x5 x6 x7 x0 x1 x2 y3 y4 y5 y6 y7 && sameB l l') = false) := hdB_no3 _ h3
          have g : (x3 == y3) = false := beq_eq_false_iff_ne.2 h3
          clear h3
          go_enter Try.func28, Try.ntmps28
          go_wp2
          go_ret
          exact ⟨ret_bool HV.out.symm, ((Below.refl _ _).alloc (Nat.le_refl _) _).alloc (by simp) _⟩
      · have HV : Hid ((hdB x0 x1 x2 x3 x4 x5 x6 x7 x0 x1 y2 y3 y4 y5 y6 y7 && sameB l l') = false) := hdB_no2 _ h2
        have g : (x2 == y2) = false := beq_eq_false_iff_ne.2 h2
        clear h2
        go_enter Try.func28, Try.ntmps28
        go_wp2
        go_ret
        exact ⟨ret_bool HV.out.symm, ((Below.refl _ _).alloc (Nat.le_refl _) _).alloc (by simp) _⟩
    · have HV : Hid ((hdB x0 x1 x2 x3 x4 x5 x6 x7 x0 y1 y2 y3 y4 y5 y6 y7 && sameB l l') = false) := hdB_no1 _ h1
      have g : (x1 == y1) = false := beq_eq_false_iff_ne.2 h1
      clear h1
      go_enter Try.func28, Try.ntmps28
      go_wp2
      go_ret
      exact ⟨ret_bool HV.out.symm, ((Below.refl _ _).alloc (Nat.le_refl _) _).alloc (by simp) _⟩
  · have HV : Hid ((hdB x0 x1 x2 x3 x4 x5 x6 x7 y0 y1 y2 y3 y4 y5 y6 y7 && sameB l l') = false) := hdB_no0 _ h0
    have g : (x0 == y0) = false := beq_eq_false_iff_ne.2 h0
    clear h0
    go_enter Try.func28, Try.ntmps28
    go_wp2
    go_ret
    exact ⟨ret_bool HV.out.symm, ((Below.refl _ _).alloc (Nat.le_refl _) _).alloc (by simp) _⟩
set_option maxHeartbeats 1600000 in
theorem eqMsg_own (x0 x1 x2 x3 x4 x5 x6 x7 : Int) (a a' : Option Addr) (cap cap' n : Nat) (l : List Int) (w : World) (hn : l.length = n) (hm : n ≤ 1048576) (hx : RowAt w a l) (hy : RowAt w a' l) :
    Calls Try.prog 21 #[.agg #[.int .i64 x0, .int .i64 x1, .int .i64 x2, .int .i64 x3, .int .i64 x4, .int .i64 x5, .int .i64 x6, .int .i64 x7, .slice a n cap], .agg #[.int .i64 x0, .int .i64 x1, .int .i64 x2, .int .i64 x3, .int .i64 x4, .int .i64 x5, .int .i64 x6, .int .i64 x7, .slice a' n cap']] w fun e w' => e = .returned (.bool true) ∧ Below w.heap.size w w' := by
  have HX : Hid (RowAt w a l) := hx
  have HY : Hid (RowAt w a' l) := hy
  clear hx hy
  go_enter Try.func21, Try.ntmps21
  go_wp2_with (go_at_call 25; refine (eqIntS_own a a' cap cap' n l _ hn hm (HX.out.keep (((Below.refl _ _).alloc (Nat.le_refl _) _).alloc (by simp) _)) (HY.out.keep (((Below.refl _ _).alloc (Nat.le_refl _) _).alloc (by simp) _))).mono ?_; rintro e w1 ⟨rfl, hw⟩)
  go_ret
  exact ⟨rfl, bel2 hw (by simp; try omega)⟩
end Go.Proofs.Ytabbicfakkehpaa
