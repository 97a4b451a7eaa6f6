/- DistOf, InArc, Between: the program and its specification answer the same. -/
import Derived.Test.YtpgngfdhnoonjaaA3
namespace Go.Proofs.Ytpgngfdhnoonjaa
open Go.RowKit
set_option linter.unusedVariables false

def numsB (b d : Int) (zs : List Int) : Bool := gsB b d && allB zs 0 (sz b - 1)
theorem numsB_1 (b d x : Int) : numsB b d [x] = numB b d x := by simp [numsB, numB, allB]
theorem numsB_2 (b d x y : Int) : numsB b d [x, y] = (numB b d x && numB b d y) := by
  cases h : gsB b d <;> simp [numsB, numB, allB, h]
theorem numsB_3 (b d x y z : Int) : numsB b d [x, y, z] = (numB b d x && numB b d y && numB b d z) := by
  cases h : gsB b d <;> simp [numsB, numB, allB, h, Bool.and_assoc]

set_option maxHeartbeats 400000 in
theorem lnums_any (b d : Int) (bk off cap : Nat) (zs : List Int) (w : World) (hm : zs.length ≤ maxLen) (hl : bk < w.heap.size) (hc : ∀ i, i < zs.length → w.cell? ⟨bk, off + i, none⟩ = some (.int .i64 (zs.getD i 0))) :
    Calls Try.prog 53 #[.agg #[.int .i64 b, .int .i64 d], .slice (some ⟨bk, off, none⟩) zs.length cap] w fun e w' => e = .returned (.bool (numsB b d zs)) ∧ Below w.heap.size w w' := by
  have HC : Hid (∀ i, i < zs.length → w.cell? ⟨bk, off + i, none⟩ = some (.int .i64 (zs.getD i 0))) := hc
  clear hc
  unfold numsB
  cases hg : gsB b d
  · go_enter Try.func53, Try.ntmps53
    go_wp2_with (go_at_call 72; refine (lspace_any _ _ _).mono ?_; rintro e w1 ⟨rfl, hw1⟩)
    go_ret
    exact ⟨rfl, ((Below.refl _ _).alloc (Nat.le_refl _) _).trans (hw1.mono (by simp))⟩
  · obtain ⟨hb1, hb2, _, _, _⟩ := gsB_true hg
    obtain ⟨hs1, hs2⟩ := sz_bd hb1 hb2
    cases hal : allB zs 0 (sz b - 1)
    all_goals
      go_enter Try.func53, Try.ntmps53
      go_wp2_with (first | (go_at_call 72; refine (lspace_any _ _ _).mono ?_; rintro e w1 ⟨rfl, hw1⟩; have hc1 := bcell hw1) | (go_at_call 74; refine (lsize_any _ _ _ hb1 hb2).mono ?_; rintro e w2 ⟨rfl, hw2⟩) | (go_at_call 73; refine (lall_some bk off cap zs _ _ _ hm ?hcells).mono ?_; rotate_left; rintro e w3 ⟨rfl, rfl⟩))
      case hcells =>
        have g1 : Below w.heap.size w w1 := ((Below.refl _ _).alloc (Nat.le_refl _) _).trans (hw1.mono (by simp))
        have g2 : Below w.heap.size w w2 := g1.trans (hw2.mono (g1.size))
        exact fun i hi => (g2.cell (p := ⟨bk, off + i, none⟩) hl).trans (HC.out i hi)
      go_ret
      have g1 : Below w.heap.size w w1 := ((Below.refl _ _).alloc (Nat.le_refl _) _).trans (hw1.mono (by simp))
      exact ⟨rfl, g1.trans (hw2.mono (g1.size))⟩

def dOk (b d x y : Int) : Bool := numB b d x && numB b d y
def dVal (b d x y : Int) : Int := if dOk b d x y = true then dist b x y else 0
def aOk (b d f x t : Int) : Bool := numB b d f && numB b d x && numB b d t
def aVal (b d f x t : Int) : Bool := aOk b d f x t && arcB b f x t
def bVal (b d f x t : Int) : Bool := aOk b d f x t && btwB b f x t
theorem ret_2 {a b c d : Value} (h : a = c) (k : b = d) : Ending.returned (.tuple #[a, b]) = .returned (.tuple #[c, d]) := by rw [h, k]
theorem two_false {v w : Value} (h1 : v = .int .i64 0) (h2 : w = .bool false) : Ending.returned (.tuple #[v, w]) = .returned (.tuple #[.int .i64 0, .bool false]) := by rw [h1, h2]


set_option maxHeartbeats 800000 in
theorem InArc_any (b d f x t : Int) (w : World) :
    Calls Try.prog 63 #[.agg #[.int .i64 b, .int .i64 d], .int .i64 f, .int .i64 x, .int .i64 t] w fun e w' => e = .returned (.tuple #[.bool (aVal b d f x t), .bool (aOk b d f x t)]) ∧ Below w.heap.size w w' := by
  unfold aVal aOk
  cases hf : numB b d f
  ·
    go_enter Try.func63, Try.ntmps63
    go_wp2_with fail
    refine (isNumber_any _ _ _ _).mono ?_
    rintro e w1 ⟨rfl, hw1⟩
    obtain ⟨k10, k11, z1⟩ := keep2 (bk := w.heap.size) (u := .int .i64 b) (v := .int .i64 d) hw1 (by simp; try omega) (by simp) (by simp)
    go_wp2
    go_ret2
    exact ⟨rfl, bel1 hw1 (by simp; try omega)⟩
  · cases hx : numB b d x
    ·
      go_enter Try.func63, Try.ntmps63
      go_wp2_with fail
      refine (isNumber_any _ _ _ _).mono ?_
      rintro e w1 ⟨rfl, hw1⟩
      obtain ⟨k10, k11, z1⟩ := keep2 (bk := w.heap.size) (u := .int .i64 b) (v := .int .i64 d) hw1 (by simp; try omega) (by simp) (by simp)
      go_wp2_with fail
      refine (isNumber_any _ _ _ _).mono ?_
      rintro e w2 ⟨rfl, hw2⟩
      obtain ⟨k20, k21, z2⟩ := keep2 hw2 z1 k10 k11
      go_wp2
      go_ret2
      exact ⟨rfl, belt (bel1 hw1 (by simp; try omega)) hw2⟩
    · cases ht : numB b d t
      ·
        go_enter Try.func63, Try.ntmps63
        go_wp2_with fail
        refine (isNumber_any _ _ _ _).mono ?_
        rintro e w1 ⟨rfl, hw1⟩
        obtain ⟨k10, k11, z1⟩ := keep2 (bk := w.heap.size) (u := .int .i64 b) (v := .int .i64 d) hw1 (by simp; try omega) (by simp) (by simp)
        go_wp2_with fail
        refine (isNumber_any _ _ _ _).mono ?_
        rintro e w2 ⟨rfl, hw2⟩
        obtain ⟨k20, k21, z2⟩ := keep2 hw2 z1 k10 k11
        go_wp2_with fail
        refine (isNumber_any _ _ _ _).mono ?_
        rintro e w3 ⟨rfl, hw3⟩
        obtain ⟨k30, k31, z3⟩ := keep2 hw3 z2 k20 k21
        go_wp2
        go_ret2
        exact ⟨rfl, belt (belt (bel1 hw1 (by simp; try omega)) hw2) hw3⟩
      ·
        obtain ⟨hg, f1, f2⟩ := numB_true hf
        obtain ⟨_, x1, x2⟩ := numB_true hx
        obtain ⟨_, t1, t2⟩ := numB_true ht
        obtain ⟨hb1, hb2, _, _, _⟩ := gsB_true hg
        obtain ⟨hs1, hs2⟩ := sz_bd hb1 hb2
        rcases plc_arc (b := b) f1 f2 x1 x2 t1 t2 with ⟨hp, ha⟩ | ⟨hp, ha⟩
        · rw [ha]
          clear ha
          rcases hp with hp | hp | hp
          all_goals
            go_enter Try.func63, Try.ntmps63
            go_wp2_with fail
            refine (isNumber_any _ _ _ _).mono ?_
            rintro e w1 ⟨rfl, hw1⟩
            obtain ⟨k10, k11, z1⟩ := keep2 (bk := w.heap.size) (u := .int .i64 b) (v := .int .i64 d) hw1 (by simp; try omega) (by simp) (by simp)
            go_wp2_with fail
            refine (isNumber_any _ _ _ _).mono ?_
            rintro e w2 ⟨rfl, hw2⟩
            obtain ⟨k20, k21, z2⟩ := keep2 hw2 z1 k10 k11
            go_wp2_with fail
            refine (isNumber_any _ _ _ _).mono ?_
            rintro e w3 ⟨rfl, hw3⟩
            obtain ⟨k30, k31, z3⟩ := keep2 hw3 z2 k20 k21
            go_wp2_with fail
            refine (place_any _ _ _ _ _ _ hb1 hb2 f1 f2 x1 x2 t1 t2).mono ?_
            rintro e w4 ⟨rfl, hw4⟩
            obtain ⟨k40, k41, z4⟩ := keep2 hw4 z3 k30 k31
            go_wp2
            go_ret2
            exact ⟨rfl, belt (belt (belt (bel1 hw1 (by simp; try omega)) hw2) hw3) hw4⟩
        · rw [ha]
          clear ha
          rcases hp with hp | hp
          all_goals
            go_enter Try.func63, Try.ntmps63
            go_wp2_with fail
            refine (isNumber_any _ _ _ _).mono ?_
            rintro e w1 ⟨rfl, hw1⟩
            obtain ⟨k10, k11, z1⟩ := keep2 (bk := w.heap.size) (u := .int .i64 b) (v := .int .i64 d) hw1 (by simp; try omega) (by simp) (by simp)
            go_wp2_with fail
            refine (isNumber_any _ _ _ _).mono ?_
            rintro e w2 ⟨rfl, hw2⟩
            obtain ⟨k20, k21, z2⟩ := keep2 hw2 z1 k10 k11
            go_wp2_with fail
            refine (isNumber_any _ _ _ _).mono ?_
            rintro e w3 ⟨rfl, hw3⟩
            obtain ⟨k30, k31, z3⟩ := keep2 hw3 z2 k20 k21
            go_wp2_with fail
            refine (place_any _ _ _ _ _ _ hb1 hb2 f1 f2 x1 x2 t1 t2).mono ?_
            rintro e w4 ⟨rfl, hw4⟩
            obtain ⟨k40, k41, z4⟩ := keep2 hw4 z3 k30 k31
            go_wp2
            go_ret2
            exact ⟨rfl, belt (belt (belt (bel1 hw1 (by simp; try omega)) hw2) hw3) hw4⟩

end Go.Proofs.Ytpgngfdhnoonjaa
