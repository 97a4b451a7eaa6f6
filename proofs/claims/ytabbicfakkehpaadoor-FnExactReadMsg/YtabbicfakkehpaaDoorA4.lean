/- DistOf, InArc, Between: the program and its specification answer the same. -/
import Derived.Test.YtabbicfakkehpaaDoorA3
namespace Go.Proofs.YtabbicfakkehpaaDoor
open Go.RowKit
set_option linter.unusedVariables false

def numsB (b d : Int) (zs : List Int) : Bool := gsB b d && allB zs 0 (sz b - 1)
theorem numsB_1 (b d x : Int) : numsB b d [x] = numB b d x := by simp [numsB, numB, allB]
theorem numsB_2 (b d x y : Int) : numsB b d [x, y] = (numB b d x && numB b d y) := by
  cases h : gsB b d <;> simp [numsB, numB, allB, h]
theorem numsB_3 (b d x y z : Int) : numsB b d [x, y, z] = (numB b d x && numB b d y && numB b d z) := by
  cases h : gsB b d <;> simp [numsB, numB, allB, h, Bool.and_assoc]

set_option maxHeartbeats 400000 in
theorem lnums_any (b d : Int) (bk off cap : Nat) (zs : List Int) (w : World) (hm : zs.length ≤ maxLen) (hl : bk < w.heap.size) (hc : ∀ i, i < zs.length → w.cell? ⟨bk, off + i, none⟩ = some (.int .i64 (zs.getD i 0))) :
    Calls Tryd.prog 23 #[.agg #[.int .i64 b, .int .i64 d], .slice (some ⟨bk, off, none⟩) zs.length cap] w fun e w' => e = .returned (.bool (numsB b d zs)) ∧ Below w.heap.size w w' := by
  have HC : Hid (∀ i, i < zs.length → w.cell? ⟨bk, off + i, none⟩ = some (.int .i64 (zs.getD i 0))) := hc
  clear hc
  unfold numsB
  cases hg : gsB b d
  · go_enter Tryd.func23, Tryd.ntmps23
    go_wp2_with (go_at_call 10; refine (lspace_any _ _ _).mono ?_; rintro e w1 ⟨rfl, hw1⟩)
    go_ret
    exact ⟨rfl, ((Below.refl _ _).alloc (Nat.le_refl _) _).trans (hw1.mono (by simp))⟩
  · obtain ⟨hb1, hb2, _, _, _⟩ := gsB_true hg
    obtain ⟨hs1, hs2⟩ := sz_bd hb1 hb2
    cases hal : allB zs 0 (sz b - 1)
    all_goals
      go_enter Tryd.func23, Tryd.ntmps23
      go_wp2_with (first | (go_at_call 10; refine (lspace_any _ _ _).mono ?_; rintro e w1 ⟨rfl, hw1⟩; have hc1 := bcell hw1) | (go_at_call 36; refine (lsize_any _ _ _ hb1 hb2).mono ?_; rintro e w2 ⟨rfl, hw2⟩) | (go_at_call 35; refine (lall_some bk off cap zs _ _ _ hm ?hcells).mono ?_; rotate_left; rintro e w3 ⟨rfl, rfl⟩))
      case hcells =>
        have g1 : Below w.heap.size w w1 := ((Below.refl _ _).alloc (Nat.le_refl _) _).trans (hw1.mono (by simp))
        have g2 : Below w.heap.size w w2 := g1.trans (hw2.mono (g1.size))
        exact fun i hi => (g2.cell (p := ⟨bk, off + i, none⟩) hl).trans (HC.out i hi)
      go_ret
      have g1 : Below w.heap.size w w1 := ((Below.refl _ _).alloc (Nat.le_refl _) _).trans (hw1.mono (by simp))
      exact ⟨rfl, g1.trans (hw2.mono (g1.size))⟩

def dOk (b d x y : Int) : Bool := numB b d x && numB b d y
def dVal (b d x y : Int) : Int := if dOk b d x y = true then dist b x y else 0
def aOk (b d f x t : Int) : Bool := numB b d f && numB b d x && numB b d t
def aVal (b d f x t : Int) : Bool := aOk b d f x t && arcB b f x t
def bVal (b d f x t : Int) : Bool := aOk b d f x t && btwB b f x t
theorem ret_2 {a b c d : Value} (h : a = c) (k : b = d) : Ending.returned (.tuple #[a, b]) = .returned (.tuple #[c, d]) := by rw [h, k]
theorem two_false {v w : Value} (h1 : v = .int .i64 0) (h2 : w = .bool false) : Ending.returned (.tuple #[v, w]) = .returned (.tuple #[.int .i64 0, .bool false]) := by rw [h1, h2]


end Go.Proofs.YtabbicfakkehpaaDoor
