/- The exported functions of chapter 2 that answer a number, in the program and in its specification. -/
import Derived.Test.YtejajlloipkkhaaR3
namespace Go.Proofs.Ytejajlloipkkhaa
open Go.RowKit
set_option linter.unusedVariables false

def oVal (b d : Int) (zs : List Int) (x v : Int) : Int := if askB b d zs x = true then v else 0
def okG (b d : Int) (zs : List Int) (x : Int) : Bool := ringB b d zs && memI zs x
def gVal (b d : Int) (zs : List Int) (x v : Int) : Int := if okG b d zs x = true then v else 0
theorem okG_ask {b d : Int} {zs : List Int} {x : Int} (h : okG b d zs x = true) : askB b d zs x = true ∧ hasB zs x = true ∧ Ring b d zs ∧ 0 ≤ x ∧ x < sz b := by
  unfold okG at h
  rw [Bool.and_eq_true] at h
  have R := ringB_true h.1
  obtain ⟨j, hj, rfl⟩ := mem_place R h.2
  have r := R.rng j hj
  refine ⟨?_, ?_, R, r.1, r.2⟩
  · unfold askB; rw [h.1, numB_yes R.gs r.1 r.2]; rfl
  · rw [← mem_has R]; exact h.2
theorem okG_no {b d : Int} {zs : List Int} {x : Int} (h : okG b d zs x = false) : askB b d zs x = false ∨ (askB b d zs x = true ∧ hasB zs x = false) := by
  cases ha : askB b d zs x
  · exact .inl rfl
  · refine .inr ⟨rfl, ?_⟩
    unfold askB at ha
    rw [Bool.and_eq_true] at ha
    unfold okG at h
    rw [ha.1, Bool.true_and] at h
    rw [← mem_has (ringB_true ha.1)]; exact h

set_option maxHeartbeats 1600000 in
theorem OwnerOf_any (b d : Int) (a : Option Addr) (cap : Nat) (zs : List Int) (x : Int) (w : World) (hm : zs.length ≤ maxLen) (hr : RowAt w a zs) :
    Calls Try.prog 18 #[.agg #[.int .i64 b, .int .i64 d], .slice a zs.length cap, .int .i64 x] w fun e w' => e = .returned (.tuple #[.int .i64 (oVal b d zs x (ownI zs x)), .bool (askB b d zs x)]) ∧ Below w.heap.size w w' := by
  have hr1 := hr.alloc (.cells #[.int .i64 b, .int .i64 d] 25)
  unfold oVal askB
  cases hg : ringB b d zs
  · go_enter Try.func18, Try.ntmps18
    go_wp2_with fail
    refine (GoodRing_any b d a cap zs _ hm hr1).mono ?_
    rintro e w1 ⟨rfl, hw1⟩
    go_wp2
    go_ret2
    exact ⟨rfl, bel1 hw1 (by simp)⟩
  · cases hx : numB b d x
    · go_enter Try.func18, Try.ntmps18
      go_wp2_with fail
      refine (GoodRing_any b d a cap zs _ hm hr1).mono ?_
      rintro e w1 ⟨rfl, hw1⟩
      obtain ⟨k10, k11, z1⟩ := keep2 (bk := w.heap.size) (u := .int .i64 b) (v := .int .i64 d) hw1 (by simp; try omega) (by simp) (by simp)
      go_wp2_with fail
      refine (isNumber_any _ _ _ _).mono ?_
      rintro e w2 ⟨rfl, hw2⟩
      go_wp2
      go_ret2
      exact ⟨rfl, belt (bel1 hw1 (by simp)) hw2⟩
    · have R := ringB_true hg
      go_enter Try.func18, Try.ntmps18
      go_wp2_with fail
      refine (GoodRing_any b d a cap zs _ hm hr1).mono ?_
      rintro e w1 ⟨rfl, hw1⟩
      obtain ⟨k10, k11, z1⟩ := keep2 (bk := w.heap.size) (u := .int .i64 b) (v := .int .i64 d) hw1 (by simp; try omega) (by simp) (by simp)
      go_wp2_with fail
      refine (isNumber_any _ _ _ _).mono ?_
      rintro e w2 ⟨rfl, hw2⟩
      go_wp2_with fail
      refine (ownerIn_any a cap zs x _ R.l1 R.l2 (hr.keep (belt (bel1 hw1 (by simp)) hw2))).mono ?_
      rintro e w3 ⟨rfl, rfl⟩
      go_wp2
      go_ret2
      exact ⟨rfl, belt (bel1 hw1 (by simp)) hw2⟩

end Go.Proofs.Ytejajlloipkkhaa
