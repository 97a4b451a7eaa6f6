/- The program's pointers by digits. -/
import Derived.Test.YtgmdbihdnacpjaaV7
namespace Go.Proofs.Ytgmdbihdnacpjaa
open Go.RowKit
set_option linter.unusedVariables false

set_option maxHeartbeats 800000 in
theorem makeRoom_any (b d x : Int) (w : World) (hx : numB b d x = true) :
    Calls Try.prog 66 #[.agg #[.int .i64 b, .int .i64 d], .int .i64 x] w fun e w' => e = .returned (.int .i64 (shf b d x 0)) ∧ Below w.heap.size w w' := by
  obtain ⟨hg, _, _⟩ := numB_true hx
  obtain ⟨hb1, hb2, hd1, hd2, _⟩ := gsB_true hg
  obtain ⟨hs3, hs4⟩ := sz_bd hd1 (by omega)
  have hok : sOk b d x 0 = true := by unfold sOk; rw [hx, digB_yes hg (by omega) (by omega)]; rfl
  have hv : sVal b d x 0 = shf b d x 0 := by unfold sVal; rw [if_pos hok]
  have C := ShiftIn_any b d x 0 (w.alloc (.cells #[.int .i64 b, .int .i64 d] 25))
  rw [hok, hv] at C
  clear hok hv hx
  generalize shf b d x 0 = s at C
  go_enter Try.func66, Try.ntmps66
  go_wp2_with fail
  refine C.mono ?_
  rintro e w1 ⟨rfl, hw1⟩
  go_wp2
  go_ret
  exact ⟨rfl, bel1 hw1 (by simp)⟩

theorem upt_back {b d : Int} {zs : List Int} (R : Ring b d zs) (x : Int) : zs.getD ((uptI zs x + zs.length - 1) % zs.length) 0 = dwnI zs x := by
  unfold dwnI uptI
  rw [← mem_has R]
  cases hm : memI zs x
  · rw [if_neg (by simp)]; rfl
  · rw [if_pos rfl]
    have h := of_decide_eq_true hm
    have e : blw zs x + Bool.toNat true + zs.length - 1 = blw zs x + zs.length := by simp
    rw [e, Nat.add_mod_right, Nat.mod_eq_of_lt h.1]
    exact h.2

set_option maxHeartbeats 800000 in
theorem pointIn_any (b d : Int) (a : Option Addr) (cap : Nat) (zs : List Int) (x : Int) (w : World) (R : Ring b d zs) (hr : RowAt w a zs) (x1 : 0 ≤ x) (x2 : x < sz b) :
    Calls Try.prog 80 #[.agg #[.int .i64 b, .int .i64 d], .slice a zs.length cap, .int .i64 x] w fun e w' => e = .returned (.int .i64 (pntI b d zs x)) ∧ Below w.heap.size w w' := by
  have l1 := R.l1
  have l2 := R.l2
  have HV : Hid (zs.getD ((uptI zs (shf b d x 0) + zs.length - 1) % zs.length) 0 = pntI b d zs x) := upt_back R _
  have hm : zs.length ≤ maxLen := by unfold maxLen; omega
  have hnum : numB b d x = true := numB_yes R.gs x1 x2
  have hle := upt_le zs (shf b d x 0)
  have hlt : (uptI zs (shf b d x 0) + zs.length - 1) % zs.length < zs.length := Nat.mod_lt _ (by omega)
  obtain ⟨bk, off, rfl⟩ := rowAt_form hr (by omega)
  have CU : ∀ w1, Below w.heap.size w w1 → Calls Try.prog 93 #[.slice (some ⟨bk, off, none⟩) zs.length cap, .int .i64 (shf b d x 0)] w1 fun e w' => e = .returned (.int .i64 (uptI zs (shf b d x 0))) ∧ w' = w1 := fun w1 h => upTo_any _ cap zs _ w1 hm (hr.keep h)
  have hcl : Hid (∀ w1, Below w.heap.size w w1 → w1.cell? ⟨bk, off + (uptI zs (shf b d x 0) + zs.length - 1) % zs.length, none⟩ = some (.int .i64 (zs.getD ((uptI zs (shf b d x 0) + zs.length - 1) % zs.length) 0))) := fun w1 h => (rowAt_cell (hr.keep h) (by omega)).2 _ hlt
  have CM := makeRoom_any b d x (w.alloc (.cells #[.int .i64 b, .int .i64 d] 25)) hnum
  clear hr R
  have e0 : (((uptI zs (shf b d x 0) + zs.length - 1 : Nat)) : Int) = (uptI zs (shf b d x 0) : Int) + (zs.length : Int) - 1 := by omega
  have hq := natmod (uptI zs (shf b d x 0) + zs.length - 1) zs.length
  have hq' := nattmod (uptI zs (shf b d x 0) + zs.length - 1) zs.length
  rw [e0] at hq hq'
  clear e0
  generalize zs.getD ((uptI zs (shf b d x 0) + zs.length - 1) % zs.length) 0 = z at hcl HV
  generalize (uptI zs (shf b d x 0) + zs.length - 1) % zs.length = q at *
  generalize uptI zs (shf b d x 0) = p at *
  generalize shf b d x 0 = s at *
  go_enter Try.func80, Try.ntmps80
  go_wp2_with fail
  refine CM.mono ?_
  rintro e w1 ⟨rfl, hw1⟩
  have HB : Hid (Below w.heap.size w w1) := bel1 hw1 (by simp)
  have C2 := CU w1 HB.out
  have hc1 := hcl.out w1 HB.out
  clear CM CU hw1
  go_wp2_with fail
  refine C2.mono ?_
  rintro e w2 ⟨rfl, he2⟩
  subst he2
  go_wp2
  go_ret
  exact ⟨ret_int HV.out, HB.out⟩

set_option maxHeartbeats 1600000 in
theorem PointOf_any (b d : Int) (a : Option Addr) (cap : Nat) (zs : List Int) (x : Int) (w : World) (hm : zs.length ≤ maxLen) (hr : RowAt w a zs) :
    Calls Try.prog 34 #[.agg #[.int .i64 b, .int .i64 d], .slice a zs.length cap, .int .i64 x] w fun e w' => e = .returned (.tuple #[.int .i64 (oVal b d zs x (pntI b d zs x)), .bool (askB b d zs x)]) ∧ Below w.heap.size w w' := by
  have hr1 := hr.alloc (.cells #[.int .i64 b, .int .i64 d] 25)
  unfold oVal askB
  cases hg : ringB b d zs
  · go_enter Try.func34, Try.ntmps34
    go_wp2_with fail
    refine (GoodRing_any b d a cap zs _ hm hr1).mono ?_
    rintro e w1 ⟨rfl, hw1⟩
    go_wp2
    go_ret2
    exact ⟨rfl, bel1 hw1 (by simp)⟩
  · cases hx : numB b d x
    · go_enter Try.func34, Try.ntmps34
      go_wp2_with fail
      refine (GoodRing_any b d a cap zs _ hm hr1).mono ?_
      rintro e w1 ⟨rfl, hw1⟩
      obtain ⟨k10, k11, z1⟩ := keep2 (bk := w.heap.size) (u := .int .i64 b) (v := .int .i64 d) hw1 (by simp; try omega) (by simp) (by simp)
      go_wp2_with fail
      refine (isNumber_any _ _ _ _).mono ?_
      rintro e w2 ⟨rfl, hw2⟩
      go_wp2
      go_ret2
      exact ⟨rfl, belt (bel1 hw1 (by simp)) hw2⟩
    · have R := ringB_true hg
      obtain ⟨_, x1, x2⟩ := numB_true hx
      go_enter Try.func34, Try.ntmps34
      go_wp2_with fail
      refine (GoodRing_any b d a cap zs _ hm hr1).mono ?_
      rintro e w1 ⟨rfl, hw1⟩
      obtain ⟨k10, k11, z1⟩ := keep2 (bk := w.heap.size) (u := .int .i64 b) (v := .int .i64 d) hw1 (by simp; try omega) (by simp) (by simp)
      go_wp2_with fail
      refine (isNumber_any _ _ _ _).mono ?_
      rintro e w2 ⟨rfl, hw2⟩
      obtain ⟨k20, k21, z2⟩ := keep2 hw2 z1 k10 k11
      go_wp2_with fail
      refine (pointIn_any b d a cap zs x _ R (hr.keep (belt (bel1 hw1 (by simp)) hw2)) x1 x2).mono ?_
      rintro e w3 ⟨rfl, hw3⟩
      go_wp2
      go_ret2
      exact ⟨rfl, belt (belt (bel1 hw1 (by simp)) hw2) hw3⟩

set_option maxHeartbeats 1600000 in
theorem lPointOf_any (b d : Int) (a : Option Addr) (cap : Nat) (zs : List Int) (x : Int) (w : World) (hm : zs.length ≤ maxLen) (hr : RowAt w a zs) :
    Calls Try.prog 33 #[.agg #[.int .i64 b, .int .i64 d], .slice a zs.length cap, .int .i64 x] w fun e w' => e = .returned (.tuple #[.int .i64 (oVal b d zs x (pntI b d zs x)), .bool (askB b d zs x)]) ∧ Below w.heap.size w w' := by
  have hr1 := hr.alloc (.cells #[.int .i64 b, .int .i64 d] 25)
  have C := lasked_any b d a cap zs x _ hm hr1
  unfold oVal
  cases hg : askB b d zs x
  · rw [hg] at C
    go_enter Try.func33, Try.ntmps33
    go_wp2_with fail
    refine C.mono ?_
    rintro e w1 ⟨rfl, hw1⟩
    go_wp2
    go_ret2
    exact ⟨rfl, bel1 hw1 (by simp)⟩
  · rw [hg] at C
    have hg2 := hg
    unfold askB at hg2
    rw [Bool.and_eq_true] at hg2
    have R := ringB_true hg2.1
    obtain ⟨_, x1, x2⟩ := numB_true hg2.2
    go_enter Try.func33, Try.ntmps33
    go_wp2_with fail
    refine C.mono ?_
    rintro e w1 ⟨rfl, hw1⟩
    obtain ⟨k10, k11, z1⟩ := keep2 (bk := w.heap.size) (u := .int .i64 b) (v := .int .i64 d) hw1 (by simp; try omega) (by simp) (by simp)
    go_wp2_with fail
    refine (lpoint_any b d a cap zs x _ R (hr.keep (bel1 hw1 (by simp))) x1 x2).mono ?_
    rintro e w2 ⟨rfl, hw2⟩
    go_wp2
    go_ret2
    exact ⟨rfl, belt (bel1 hw1 (by simp)) hw2⟩
end Go.Proofs.Ytgmdbihdnacpjaa
