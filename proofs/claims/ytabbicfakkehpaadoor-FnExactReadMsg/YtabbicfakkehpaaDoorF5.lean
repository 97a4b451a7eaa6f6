/- GoodMsg: what is good, and the specification's side. -/
import Derived.Test.YtabbicfakkehpaaDoorF4
import Derived.BigQuiet
import Derived.Deep.QuietTactic
namespace Go.Proofs.YtabbicfakkehpaaDoor
open Go.RowKit
set_option linter.unusedVariables false
def hasB (zs : List Int) (x : Int) : Bool := decide (∃ i, i < zs.length ∧ zs.getD i 0 = x)
set_option maxHeartbeats 800000 in
theorem lhas_any (a : Option Addr) (cap : Nat) (zs : List Int) (x : Int) (w : World) (hm : zs.length ≤ maxLen) (hr : RowAt w a zs) :
    Calls Tryd.prog 24 #[.slice a zs.length cap, .int .i64 x] w fun e w' => e = .returned (.bool (hasB zs x)) ∧ w' = w := by
  unfold maxLen at hm
  have HR : Hid (RowAt w a zs) := hr
  clear hr
  go_enter Tryd.func24, Tryd.ntmps24
  go_wp2_with fail
  go_loop [9] (fun v => ∃ k : Nat, k ≤ zs.length ∧ v = .int .i64 k ∧ Hid (∀ i, i < k → ¬ zs.getD i 0 = x)) (fun v => zs.length - (intOf v).toNat)
  case atStart => exact ⟨0, Nat.zero_le _, rfl, fun i hi => by omega⟩
  case round =>
    obtain ⟨k, hk, rfl, hs⟩ := hrel
    by_cases hlt : k < zs.length
    · obtain ⟨bk, off, rfl⟩ := rowAt_form HR.out (by omega)
      have hc1 := (rowAt_cell HR.out (by omega)).2 k hlt
      by_cases hx : zs.getD k 0 = x
      · have hv : Hid (hasB zs x = true) := decide_eq_true ⟨k, hlt, hx⟩
        have he : (zs.getD k 0 == x) = true := beq_iff_eq.2 hx
        clear hx
        generalize zs.getD k 0 = z at hc1 he
        go_wp2
        go_ret
        exact ⟨ret_bool hv.out.symm, rfl⟩
      · have hn : Hid (∀ i, i < k + 1 → ¬ zs.getD i 0 = x) := fun i hi => by
          by_cases he : i = k
          · subst he; exact hx
          · exact hs.out i (by omega)
        have he : (zs.getD k 0 == x) = false := by simp only [beq_eq_false_iff_ne, ne_eq]; exact hx
        clear hx
        generalize zs.getD k 0 = z at hc1 he
        go_wp2
        go_round
        case rel => exact ⟨k + 1, by omega, by go_num, hn⟩
        case measure => simp [intOf]; omega
    · have hv : Hid (hasB zs x = false) := decide_eq_false (fun ⟨i, hi, he⟩ => hs.out i (by omega) he)
      go_wp2
      go_ret
      exact ⟨ret_bool hv.out.symm, rfl⟩

theorem lhas_own (a : Option Addr) (cap n : Nat) (zs : List Int) (x : Int) (w : World) (hn : zs.length = n) (hm : n ≤ maxLen) (hr : RowAt w a zs) : Calls Tryd.prog 24 #[.slice a n cap, .int .i64 x] w fun e w' => e = .returned (.bool (hasB zs x)) ∧ w' = w := by
  subst hn
  exact lhas_any a cap zs x w hm hr
theorem lall_row (a : Option Addr) (cap n : Nat) (zs : List Int) (lo hi : Int) (w : World) (hn : zs.length = n) (hm : n ≤ maxLen) (hr : RowAt w a zs) :
    Calls Tryd.prog 35 #[.slice a n cap, .int .i64 lo, .int .i64 hi] w fun e w' => e = .returned (.bool (allB zs lo hi)) ∧ w' = w := by
  subst hn
  by_cases hz : 0 < zs.length
  · obtain ⟨bk, off, rfl⟩ := rowAt_form hr hz
    exact lall_some bk off cap zs lo hi w hm (rowAt_cell hr hz).2
  · obtain rfl : zs = [] := by cases zs; rfl; simp at hz
    go_enter Tryd.func35, Tryd.ntmps35
    go_wp2_with fail
    go_loop [11] (fun v => v = .int .i64 0) (fun v => 0)
    case atStart => rfl
    case round =>
      subst hrel
      go_wp2
      go_ret
      exact ⟨rfl, rfl⟩
set_option maxHeartbeats 800000 in
theorem lnums_row (b d : Int) (a : Option Addr) (cap n : Nat) (zs : List Int) (w : World) (hn : zs.length = n) (hm : n ≤ maxLen) (hr : RowAt w a zs) :
    Calls Tryd.prog 23 #[.agg #[.int .i64 b, .int .i64 d], .slice a n cap] w fun e w' => e = .returned (.bool (numsB b d zs)) ∧ Below w.heap.size w w' := by
  have HR : Hid (RowAt w a zs) := hr
  clear hr
  unfold numsB
  cases hg : gsB b d
  · go_enter Tryd.func23, Tryd.ntmps23
    go_wp2_with (go_at_call 10; refine (lspace_any _ _ _).mono ?_; rintro e w1 ⟨rfl, hw1⟩)
    go_ret
    exact ⟨rfl, ((Below.refl _ _).alloc (Nat.le_refl _) _).trans (hw1.mono (by simp))⟩
  · obtain ⟨hb1, hb2, _, _, _⟩ := gsB_true hg
    obtain ⟨hs1, hs2⟩ := sz_bd hb1 hb2
    cases hal : allB zs 0 (sz b - 1)
    all_goals
      go_enter Tryd.func23, Tryd.ntmps23
      go_wp2_with (first | (go_at_call 10; refine (lspace_any _ _ _).mono ?_; rintro e w1 ⟨rfl, hw1⟩; have hc1 := bcell hw1) | (go_at_call 36; refine (lsize_any _ _ _ hb1 hb2).mono ?_; rintro e w2 ⟨rfl, hw2⟩) | (go_at_call 35; refine (lall_row a cap n zs _ _ _ hn hm ?hcells).mono ?_; rotate_left; rintro e w3 ⟨rfl, rfl⟩))
      case hcells =>
        have g1 : Below w.heap.size w w1 := ((Below.refl _ _).alloc (Nat.le_refl _) _).trans (hw1.mono (by simp))
        exact HR.out.keep (g1.trans (hw2.mono (g1.size)))
      go_ret
      have g1 : Below w.heap.size w w1 := ((Below.refl _ _).alloc (Nat.le_refl _) _).trans (hw1.mono (by simp))
      exact ⟨rfl, g1.trans (hw2.mono (g1.size))⟩
def okF (b d x4 x5 x6 x7 : Int) (l : List Int) (f : Int) : Bool := if f = 1 then numB b d x4 else if f = 2 then numB b d x5 else if f = 3 then inB x6 0 (b / d) else if f = 4 then inB x7 0 1000 else decide (l.length ≤ 4) && numsB b d l
def noF (x4 x5 x6 x7 : Int) (l : List Int) (f : Int) : Bool := if f = 1 then decide (x4 = 0) else if f = 2 then decide (x5 = 0) else if f = 3 then decide (x6 = 0) else if f = 4 then decide (x7 = 0) else decide (l.length = 0)
theorem numsB_one (b d x : Int) : numsB b d [x] = numB b d x := numsB_1 b d x
theorem bel3 {w w1 : World} {o q r : Obj} {n : Nat} (h : Below n (((w.alloc o).alloc q).alloc r) w1) (hn : w.heap.size ≤ n) : Below w.heap.size w w1 := ((((Below.refl _ _).alloc (Nat.le_refl _) _).alloc (by simp) _).alloc (by simp; omega) _).trans (h.mono hn)
theorem rowAt_new1 (w : World) (x : Int) : RowAt (w.alloc (.cells #[.int .i64 x] 3)) (some ⟨w.heap.size, 0, none⟩) [x] := rowAt_of_row (l := [x]) (fr := (0, 0)) (heap_alloc_new _ _)
theorem rowAt_new3 (w : World) (o q : Obj) (x : Int) : RowAt (((w.alloc o).alloc q).alloc (.cells #[.int .i64 x] 3)) (some ⟨w.heap.size + 1 + 1, 0, none⟩) [x] := by
  have h := rowAt_new1 ((w.alloc o).alloc q) x
  simp only [World.size_alloc] at h
  exact h
theorem rowAt_new2 (w : World) (x y : Int) : RowAt (w.alloc (.cells #[.int .i64 x, .int .i64 y] 3)) (some ⟨w.heap.size, 0, none⟩) [x, y] := rowAt_of_row (l := [x, y]) (fr := (0, 0)) (heap_alloc_new _ _)
set_option maxHeartbeats 1600000 in
theorem lIs_any (b d : Int) (x0 x1 x2 x3 x4 x5 x6 x7 : Int) (a : Option Addr) (cap n : Nat) (l : List Int) (f : Int) (w : World) (hg : gsB b d = true) (hn : l.length = n) (hm : n ≤ maxLen) (hr : RowAt w a l) :
    Calls Tryd.prog 25 #[.agg #[.int .i64 b, .int .i64 d], .agg #[.int .i64 x0, .int .i64 x1, .int .i64 x2, .int .i64 x3, .int .i64 x4, .int .i64 x5, .int .i64 x6, .int .i64 x7, .slice a n cap], .int .i64 f] w fun e w' => e = .returned (.bool (okF b d x4 x5 x6 x7 l f)) ∧ Below w.heap.size w w' := by
  have HR : Hid (RowAt w a l) := hr
  have HG : Hid (gsB b d = true) := hg
  clear hr hg
  by_cases h1 : f = 1
  · have hv : Hid (okF b d x4 x5 x6 x7 l f = numsB b d [x4]) := by subst h1; exact (numsB_1 b d x4).symm
    subst h1
    go_enter Tryd.func25, Tryd.ntmps25
    go_wp2_with fail
    refine (lnums_row b d _ _ _ [x4] _ rfl (by simp [maxLen]) (rowAt_new3 w _ _ _)).mono ?_
    rintro e w1 ⟨rfl, hw⟩
    go_wp2
    go_ret
    exact ⟨ret_bool hv.out.symm, bel3 hw (by simp; try omega)⟩
  by_cases h2 : f = 2
  · have hv : Hid (okF b d x4 x5 x6 x7 l f = numsB b d [x5]) := by subst h2; exact (numsB_1 b d x5).symm
    subst h2
    go_enter Tryd.func25, Tryd.ntmps25
    go_wp2_with fail
    refine (lnums_row b d _ _ _ [x5] _ rfl (by simp [maxLen]) (rowAt_new3 w _ _ _)).mono ?_
    rintro e w1 ⟨rfl, hw⟩
    go_wp2
    go_ret
    exact ⟨ret_bool hv.out.symm, bel3 hw (by simp; try omega)⟩
  by_cases h3 : f = 3
  · have hv : Hid (okF b d x4 x5 x6 x7 l f = inB x6 0 (b / d)) := by subst h3; rfl
    subst h3
    obtain ⟨hb1, hb2, hd1, hd2, _⟩ := gsB_true HG.out
    go_enter Tryd.func25, Tryd.ntmps25
    go_wp2_with fail
    go_quiet ((go_at_call 11; exact Calls.quiet_of_same (lin_any _ _ _ _)))
    go_wp2
    go_ret
    exact ⟨ret_bool hv.out.symm, below_drewN (((Below.refl _ _).alloc (Nat.le_refl _) _).alloc (by simp) _) _⟩
  by_cases h4 : f = 4
  · have hv : Hid (okF b d x4 x5 x6 x7 l f = inB x7 0 1000) := by subst h4; rfl
    subst h4
    go_enter Tryd.func25, Tryd.ntmps25
    go_wp2_with (go_at_call 11; refine (lin_any _ _ _ _).mono ?_; rintro e w1 ⟨rfl, rfl⟩)
    go_ret
    exact ⟨ret_bool hv.out.symm, ((Below.refl _ _).alloc (Nat.le_refl _) _).alloc (by simp) _⟩
  have hv : Hid (okF b d x4 x5 x6 x7 l f = (decide (l.length ≤ 4) && numsB b d l)) := by unfold Hid okF; rw [if_neg h1, if_neg h2, if_neg h3, if_neg h4]
  have g1 : (f == 1) = false := beq_eq_false_iff_ne.2 h1
  have g2 : (f == 2) = false := beq_eq_false_iff_ne.2 h2
  have g3 : (f == 3) = false := beq_eq_false_iff_ne.2 h3
  have g4 : (f == 4) = false := beq_eq_false_iff_ne.2 h4
  clear h1 h2 h3 h4
  unfold maxLen at hm
  by_cases hl : n ≤ 4
  · have hv2 : Hid (okF b d x4 x5 x6 x7 l f = numsB b d l) := by unfold Hid; rw [hv.out, decide_eq_true (by omega)]; rfl
    go_enter Tryd.func25, Tryd.ntmps25
    go_wp2_with fail
    refine (lnums_row b d _ _ _ l _ hn (by unfold maxLen; omega) (HR.out.keep (((Below.refl _ _).alloc (Nat.le_refl _) _).alloc (by simp) _))).mono ?_
    rintro e w1 ⟨rfl, hw⟩
    go_wp2
    go_ret
    exact ⟨ret_bool hv2.out.symm, bel2 hw (by simp; try omega)⟩
  · have hv2 : Hid (okF b d x4 x5 x6 x7 l f = false) := by unfold Hid; rw [hv.out, decide_eq_false (by omega)]; rfl
    go_enter Tryd.func25, Tryd.ntmps25
    go_wp2
    go_ret
    exact ⟨ret_bool hv2.out.symm, ((Below.refl _ _).alloc (Nat.le_refl _) _).alloc (by simp) _⟩
set_option maxHeartbeats 1600000 in
theorem lNone_any (x0 x1 x2 x3 x4 x5 x6 x7 : Int) (a : Option Addr) (cap n : Nat) (l : List Int) (f : Int) (w : World) (hn : l.length = n) (hm : n ≤ maxLen) :
    Calls Tryd.prog 26 #[.agg #[.int .i64 x0, .int .i64 x1, .int .i64 x2, .int .i64 x3, .int .i64 x4, .int .i64 x5, .int .i64 x6, .int .i64 x7, .slice a n cap], .int .i64 f] w fun e w' => e = .returned (.bool (noF x4 x5 x6 x7 l f)) ∧ Below w.heap.size w w' := by
  unfold maxLen at hm
  by_cases h1 : f = 1
  · have hv : Hid (noF x4 x5 x6 x7 l f = decide (x4 = 0)) := by subst h1; rfl
    subst h1
    by_cases hz : x4 = 0
    · have hv2 : Hid (noF x4 x5 x6 x7 l 1 = true) := by unfold Hid; rw [hv.out]; exact decide_eq_true hz
      have hz' : (x4 == 0) = true := beq_iff_eq.2 hz
      clear hz hv
      go_enter Tryd.func26, Tryd.ntmps26
      go_wp2
      go_ret
      exact ⟨ret_bool (by rw [hv2.out]), (Below.refl _ _).alloc (Nat.le_refl _) _⟩
    · have hv2 : Hid (noF x4 x5 x6 x7 l 1 = false) := by unfold Hid; rw [hv.out]; exact decide_eq_false hz
      have hz' : (x4 == 0) = false := beq_eq_false_iff_ne.2 hz
      clear hz hv
      go_enter Tryd.func26, Tryd.ntmps26
      go_wp2
      go_ret
      exact ⟨ret_bool (by rw [hv2.out]), (Below.refl _ _).alloc (Nat.le_refl _) _⟩
  by_cases h2 : f = 2
  · have hv : Hid (noF x4 x5 x6 x7 l f = decide (x5 = 0)) := by subst h2; rfl
    subst h2
    by_cases hz : x5 = 0
    · have hv2 : Hid (noF x4 x5 x6 x7 l 2 = true) := by unfold Hid; rw [hv.out]; exact decide_eq_true hz
      have hz' : (x5 == 0) = true := beq_iff_eq.2 hz
      clear hz hv
      go_enter Tryd.func26, Tryd.ntmps26
      go_wp2
      go_ret
      exact ⟨ret_bool (by rw [hv2.out]), (Below.refl _ _).alloc (Nat.le_refl _) _⟩
    · have hv2 : Hid (noF x4 x5 x6 x7 l 2 = false) := by unfold Hid; rw [hv.out]; exact decide_eq_false hz
      have hz' : (x5 == 0) = false := beq_eq_false_iff_ne.2 hz
      clear hz hv
      go_enter Tryd.func26, Tryd.ntmps26
      go_wp2
      go_ret
      exact ⟨ret_bool (by rw [hv2.out]), (Below.refl _ _).alloc (Nat.le_refl _) _⟩
  by_cases h3 : f = 3
  · have hv : Hid (noF x4 x5 x6 x7 l f = decide (x6 = 0)) := by subst h3; rfl
    subst h3
    by_cases hz : x6 = 0
    · have hv2 : Hid (noF x4 x5 x6 x7 l 3 = true) := by unfold Hid; rw [hv.out]; exact decide_eq_true hz
      have hz' : (x6 == 0) = true := beq_iff_eq.2 hz
      clear hz hv
      go_enter Tryd.func26, Tryd.ntmps26
      go_wp2
      go_ret
      exact ⟨ret_bool (by rw [hv2.out]), (Below.refl _ _).alloc (Nat.le_refl _) _⟩
    · have hv2 : Hid (noF x4 x5 x6 x7 l 3 = false) := by unfold Hid; rw [hv.out]; exact decide_eq_false hz
      have hz' : (x6 == 0) = false := beq_eq_false_iff_ne.2 hz
      clear hz hv
      go_enter Tryd.func26, Tryd.ntmps26
      go_wp2
      go_ret
      exact ⟨ret_bool (by rw [hv2.out]), (Below.refl _ _).alloc (Nat.le_refl _) _⟩
  by_cases h4 : f = 4
  · have hv : Hid (noF x4 x5 x6 x7 l f = decide (x7 = 0)) := by subst h4; rfl
    subst h4
    by_cases hz : x7 = 0
    · have hv2 : Hid (noF x4 x5 x6 x7 l 4 = true) := by unfold Hid; rw [hv.out]; exact decide_eq_true hz
      have hz' : (x7 == 0) = true := beq_iff_eq.2 hz
      clear hz hv
      go_enter Tryd.func26, Tryd.ntmps26
      go_wp2
      go_ret
      exact ⟨ret_bool (by rw [hv2.out]), (Below.refl _ _).alloc (Nat.le_refl _) _⟩
    · have hv2 : Hid (noF x4 x5 x6 x7 l 4 = false) := by unfold Hid; rw [hv.out]; exact decide_eq_false hz
      have hz' : (x7 == 0) = false := beq_eq_false_iff_ne.2 hz
      clear hz hv
      go_enter Tryd.func26, Tryd.ntmps26
      go_wp2
      go_ret
      exact ⟨ret_bool (by rw [hv2.out]), (Below.refl _ _).alloc (Nat.le_refl _) _⟩
  have hv : Hid (noF x4 x5 x6 x7 l f = decide (l.length = 0)) := by unfold Hid noF; rw [if_neg h1, if_neg h2, if_neg h3, if_neg h4]
  have g1 : (f == 1) = false := beq_eq_false_iff_ne.2 h1
  have g2 : (f == 2) = false := beq_eq_false_iff_ne.2 h2
  have g3 : (f == 3) = false := beq_eq_false_iff_ne.2 h3
  have g4 : (f == 4) = false := beq_eq_false_iff_ne.2 h4
  clear h1 h2 h3 h4
  by_cases hz : n = 0
  · have hv2 : Hid (noF x4 x5 x6 x7 l f = true) := by unfold Hid; rw [hv.out]; exact decide_eq_true (by omega)
    have hz' : ((n : Int) == 0) = true := by simp [hz]
    clear hz hv
    go_enter Tryd.func26, Tryd.ntmps26
    go_wp2
    go_ret
    exact ⟨ret_bool (by rw [hv2.out]), (Below.refl _ _).alloc (Nat.le_refl _) _⟩
  · have hv2 : Hid (noF x4 x5 x6 x7 l f = false) := by unfold Hid; rw [hv.out]; exact decide_eq_false (by omega)
    have hz' : ((n : Int) == 0) = false := by simp [hz]
    clear hz hv
    go_enter Tryd.func26, Tryd.ntmps26
    go_wp2
    go_ret
    exact ⟨ret_bool (by rw [hv2.out]), (Below.refl _ _).alloc (Nat.le_refl _) _⟩
end Go.Proofs.YtabbicfakkehpaaDoor
