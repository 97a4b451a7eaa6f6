/- The exported functions of chapter 2 that answer a number, in the program and in its specification. -/
import Derived.Test.YtjolkpfenloobaaR3
namespace Go.Proofs.Ytjolkpfenloobaa
open Go.RowKit
set_option linter.unusedVariables false

def oVal (b d : Int) (zs : List Int) (x v : Int) : Int := if askB b d zs x = true then v else 0
def okG (b d : Int) (zs : List Int) (x : Int) : Bool := ringB b d zs && memI zs x
def gVal (b d : Int) (zs : List Int) (x v : Int) : Int := if okG b d zs x = true then v else 0
theorem okG_ask {b d : Int} {zs : List Int} {x : Int} (h : okG b d zs x = true) : askB b d zs x = true ∧ hasB zs x = true ∧ Ring b d zs ∧ 0 ≤ x ∧ x < sz b := by
  unfold okG at h
  rw [Bool.and_eq_true] at h
  have R := ringB_true h.1
  obtain ⟨j, hj, rfl⟩ := mem_place R h.2
  have r := R.rng j hj
  refine ⟨?_, ?_, R, r.1, r.2⟩
  · unfold askB; rw [h.1, numB_yes R.gs r.1 r.2]; rfl
  · rw [← mem_has R]; exact h.2
theorem okG_no {b d : Int} {zs : List Int} {x : Int} (h : okG b d zs x = false) : askB b d zs x = false ∨ (askB b d zs x = true ∧ hasB zs x = false) := by
  cases ha : askB b d zs x
  · exact .inl rfl
  · refine .inr ⟨rfl, ?_⟩
    unfold askB at ha
    rw [Bool.and_eq_true] at ha
    unfold okG at h
    rw [ha.1, Bool.true_and] at h
    rw [← mem_has (ringB_true ha.1)]; exact h

set_option maxHeartbeats 1600000 in
theorem OwnerOf_any (b d : Int) (a : Option Addr) (cap : Nat) (zs : List Int) (x : Int) (w : World) (hm : zs.length ≤ maxLen) (hr : RowAt w a zs) :
    Calls Try.prog 15 #[.agg #[.int .i64 b, .int .i64 d], .slice a zs.length cap, .int .i64 x] w fun e w' => e = .returned (.tuple #[.int .i64 (oVal b d zs x (ownI zs x)), .bool (askB b d zs x)]) ∧ Below w.heap.size w w' := by
  have hr1 := hr.alloc (.cells #[.int .i64 b, .int .i64 d] 25)
  unfold oVal askB
  cases hg : ringB b d zs
  · go_enter Try.func15, Try.ntmps15
    go_wp2_with fail
    refine (GoodRing_any b d a cap zs _ hm hr1).mono ?_
    rintro e w1 ⟨rfl, hw1⟩
    go_wp2
    go_ret2
    exact ⟨rfl, bel1 hw1 (by simp)⟩
  · cases hx : numB b d x
    · go_enter Try.func15, Try.ntmps15
      go_wp2_with fail
      refine (GoodRing_any b d a cap zs _ hm hr1).mono ?_
      rintro e w1 ⟨rfl, hw1⟩
      obtain ⟨k10, k11, z1⟩ := keep2 (bk := w.heap.size) (u := .int .i64 b) (v := .int .i64 d) hw1 (by simp; try omega) (by simp) (by simp)
      go_wp2_with fail
      refine (isNumber_any _ _ _ _).mono ?_
      rintro e w2 ⟨rfl, hw2⟩
      go_wp2
      go_ret2
      exact ⟨rfl, belt (bel1 hw1 (by simp)) hw2⟩
    · have R := ringB_true hg
      go_enter Try.func15, Try.ntmps15
      go_wp2_with fail
      refine (GoodRing_any b d a cap zs _ hm hr1).mono ?_
      rintro e w1 ⟨rfl, hw1⟩
      obtain ⟨k10, k11, z1⟩ := keep2 (bk := w.heap.size) (u := .int .i64 b) (v := .int .i64 d) hw1 (by simp; try omega) (by simp) (by simp)
      go_wp2_with fail
      refine (isNumber_any _ _ _ _).mono ?_
      rintro e w2 ⟨rfl, hw2⟩
      go_wp2_with fail
      refine (ownerIn_any a cap zs x _ R.l1 R.l2 (hr.keep (belt (bel1 hw1 (by simp)) hw2))).mono ?_
      rintro e w3 ⟨rfl, rfl⟩
      go_wp2
      go_ret2
      exact ⟨rfl, belt (bel1 hw1 (by simp)) hw2⟩

set_option maxHeartbeats 1600000 in
theorem lOwnerOf_any (b d : Int) (a : Option Addr) (cap : Nat) (zs : List Int) (x : Int) (w : World) (hm : zs.length ≤ maxLen) (hr : RowAt w a zs) :
    Calls Try.prog 16 #[.agg #[.int .i64 b, .int .i64 d], .slice a zs.length cap, .int .i64 x] w fun e w' => e = .returned (.tuple #[.int .i64 (oVal b d zs x (ownI zs x)), .bool (askB b d zs x)]) ∧ Below w.heap.size w w' := by
  have hr1 := hr.alloc (.cells #[.int .i64 b, .int .i64 d] 25)
  unfold oVal
  cases hg : askB b d zs x
  · go_enter Try.func16, Try.ntmps16
    go_wp2_with fail
    refine (lasked_any b d a cap zs x _ hm hr1).mono ?_
    rintro e w1 ⟨rfl, hw1⟩
    go_wp2
    go_ret2
    exact ⟨rfl, bel1 hw1 (by simp)⟩
  · have hq := hg
    unfold askB at hq
    rw [Bool.and_eq_true] at hq
    have R := ringB_true hq.1
    obtain ⟨_, x1, x2⟩ := numB_true hq.2
    clear hq
    go_enter Try.func16, Try.ntmps16
    go_wp2_with fail
    refine (lasked_any b d a cap zs x _ hm hr1).mono ?_
    rintro e w1 ⟨rfl, hw1⟩
    obtain ⟨k10, k11, z1⟩ := keep2 (bk := w.heap.size) (u := .int .i64 b) (v := .int .i64 d) hw1 (by simp; try omega) (by simp) (by simp)
    go_wp2_with fail
    refine (lowner_any b d a cap zs x _ R (hr.keep (bel1 hw1 (by simp))) x1 x2).mono ?_
    rintro e w2 ⟨rfl, hw2⟩
    go_wp2
    go_ret2
    exact ⟨rfl, belt (bel1 hw1 (by simp)) hw2⟩

set_option maxHeartbeats 1600000 in
theorem NextOf_any (b d : Int) (a : Option Addr) (cap : Nat) (zs : List Int) (x : Int) (w : World) (hm : zs.length ≤ maxLen) (hr : RowAt w a zs) :
    Calls Try.prog 17 #[.agg #[.int .i64 b, .int .i64 d], .slice a zs.length cap, .int .i64 x] w fun e w' => e = .returned (.tuple #[.int .i64 (oVal b d zs x (nxtI zs x)), .bool (askB b d zs x)]) ∧ Below w.heap.size w w' := by
  have hr1 := hr.alloc (.cells #[.int .i64 b, .int .i64 d] 25)
  unfold oVal askB
  cases hg : ringB b d zs
  · go_enter Try.func17, Try.ntmps17
    go_wp2_with fail
    refine (GoodRing_any b d a cap zs _ hm hr1).mono ?_
    rintro e w1 ⟨rfl, hw1⟩
    go_wp2
    go_ret2
    exact ⟨rfl, bel1 hw1 (by simp)⟩
  · cases hx : numB b d x
    · go_enter Try.func17, Try.ntmps17
      go_wp2_with fail
      refine (GoodRing_any b d a cap zs _ hm hr1).mono ?_
      rintro e w1 ⟨rfl, hw1⟩
      obtain ⟨k10, k11, z1⟩ := keep2 (bk := w.heap.size) (u := .int .i64 b) (v := .int .i64 d) hw1 (by simp; try omega) (by simp) (by simp)
      go_wp2_with fail
      refine (isNumber_any _ _ _ _).mono ?_
      rintro e w2 ⟨rfl, hw2⟩
      go_wp2
      go_ret2
      exact ⟨rfl, belt (bel1 hw1 (by simp)) hw2⟩
    · have R := ringB_true hg
      go_enter Try.func17, Try.ntmps17
      go_wp2_with fail
      refine (GoodRing_any b d a cap zs _ hm hr1).mono ?_
      rintro e w1 ⟨rfl, hw1⟩
      obtain ⟨k10, k11, z1⟩ := keep2 (bk := w.heap.size) (u := .int .i64 b) (v := .int .i64 d) hw1 (by simp; try omega) (by simp) (by simp)
      go_wp2_with fail
      refine (isNumber_any _ _ _ _).mono ?_
      rintro e w2 ⟨rfl, hw2⟩
      go_wp2_with fail
      refine (nextIn_any a cap zs x _ R.l1 R.l2 (hr.keep (belt (bel1 hw1 (by simp)) hw2))).mono ?_
      rintro e w3 ⟨rfl, rfl⟩
      go_wp2
      go_ret2
      exact ⟨rfl, belt (bel1 hw1 (by simp)) hw2⟩

set_option maxHeartbeats 1600000 in
theorem lNextOf_any (b d : Int) (a : Option Addr) (cap : Nat) (zs : List Int) (x : Int) (w : World) (hm : zs.length ≤ maxLen) (hr : RowAt w a zs) :
    Calls Try.prog 18 #[.agg #[.int .i64 b, .int .i64 d], .slice a zs.length cap, .int .i64 x] w fun e w' => e = .returned (.tuple #[.int .i64 (oVal b d zs x (nxtI zs x)), .bool (askB b d zs x)]) ∧ Below w.heap.size w w' := by
  have hr1 := hr.alloc (.cells #[.int .i64 b, .int .i64 d] 25)
  unfold oVal
  cases hg : askB b d zs x
  · go_enter Try.func18, Try.ntmps18
    go_wp2_with fail
    refine (lasked_any b d a cap zs x _ hm hr1).mono ?_
    rintro e w1 ⟨rfl, hw1⟩
    go_wp2
    go_ret2
    exact ⟨rfl, bel1 hw1 (by simp)⟩
  · have hq := hg
    unfold askB at hq
    rw [Bool.and_eq_true] at hq
    have R := ringB_true hq.1
    obtain ⟨_, x1, x2⟩ := numB_true hq.2
    clear hq
    go_enter Try.func18, Try.ntmps18
    go_wp2_with fail
    refine (lasked_any b d a cap zs x _ hm hr1).mono ?_
    rintro e w1 ⟨rfl, hw1⟩
    obtain ⟨k10, k11, z1⟩ := keep2 (bk := w.heap.size) (u := .int .i64 b) (v := .int .i64 d) hw1 (by simp; try omega) (by simp) (by simp)
    go_wp2_with fail
    refine (lnext_any b d a cap zs x _ R (hr.keep (bel1 hw1 (by simp))) x1 x2).mono ?_
    rintro e w2 ⟨rfl, hw2⟩
    go_wp2
    go_ret2
    exact ⟨rfl, belt (bel1 hw1 (by simp)) hw2⟩

set_option maxHeartbeats 1600000 in
theorem PrevOf_any (b d : Int) (a : Option Addr) (cap : Nat) (zs : List Int) (x : Int) (w : World) (hm : zs.length ≤ maxLen) (hr : RowAt w a zs) :
    Calls Try.prog 19 #[.agg #[.int .i64 b, .int .i64 d], .slice a zs.length cap, .int .i64 x] w fun e w' => e = .returned (.tuple #[.int .i64 (oVal b d zs x (prvI zs x)), .bool (askB b d zs x)]) ∧ Below w.heap.size w w' := by
  have hr1 := hr.alloc (.cells #[.int .i64 b, .int .i64 d] 25)
  unfold oVal askB
  cases hg : ringB b d zs
  · go_enter Try.func19, Try.ntmps19
    go_wp2_with fail
    refine (GoodRing_any b d a cap zs _ hm hr1).mono ?_
    rintro e w1 ⟨rfl, hw1⟩
    go_wp2
    go_ret2
    exact ⟨rfl, bel1 hw1 (by simp)⟩
  · cases hx : numB b d x
    · go_enter Try.func19, Try.ntmps19
      go_wp2_with fail
      refine (GoodRing_any b d a cap zs _ hm hr1).mono ?_
      rintro e w1 ⟨rfl, hw1⟩
      obtain ⟨k10, k11, z1⟩ := keep2 (bk := w.heap.size) (u := .int .i64 b) (v := .int .i64 d) hw1 (by simp; try omega) (by simp) (by simp)
      go_wp2_with fail
      refine (isNumber_any _ _ _ _).mono ?_
      rintro e w2 ⟨rfl, hw2⟩
      go_wp2
      go_ret2
      exact ⟨rfl, belt (bel1 hw1 (by simp)) hw2⟩
    · have R := ringB_true hg
      go_enter Try.func19, Try.ntmps19
      go_wp2_with fail
      refine (GoodRing_any b d a cap zs _ hm hr1).mono ?_
      rintro e w1 ⟨rfl, hw1⟩
      obtain ⟨k10, k11, z1⟩ := keep2 (bk := w.heap.size) (u := .int .i64 b) (v := .int .i64 d) hw1 (by simp; try omega) (by simp) (by simp)
      go_wp2_with fail
      refine (isNumber_any _ _ _ _).mono ?_
      rintro e w2 ⟨rfl, hw2⟩
      go_wp2_with fail
      refine (prevIn_any a cap zs x _ R.l1 R.l2 (hr.keep (belt (bel1 hw1 (by simp)) hw2))).mono ?_
      rintro e w3 ⟨rfl, rfl⟩
      go_wp2
      go_ret2
      exact ⟨rfl, belt (bel1 hw1 (by simp)) hw2⟩

set_option maxHeartbeats 1600000 in
theorem lPrevOf_any (b d : Int) (a : Option Addr) (cap : Nat) (zs : List Int) (x : Int) (w : World) (hm : zs.length ≤ maxLen) (hr : RowAt w a zs) :
    Calls Try.prog 20 #[.agg #[.int .i64 b, .int .i64 d], .slice a zs.length cap, .int .i64 x] w fun e w' => e = .returned (.tuple #[.int .i64 (oVal b d zs x (prvI zs x)), .bool (askB b d zs x)]) ∧ Below w.heap.size w w' := by
  have hr1 := hr.alloc (.cells #[.int .i64 b, .int .i64 d] 25)
  unfold oVal
  cases hg : askB b d zs x
  · go_enter Try.func20, Try.ntmps20
    go_wp2_with fail
    refine (lasked_any b d a cap zs x _ hm hr1).mono ?_
    rintro e w1 ⟨rfl, hw1⟩
    go_wp2
    go_ret2
    exact ⟨rfl, bel1 hw1 (by simp)⟩
  · have hq := hg
    unfold askB at hq
    rw [Bool.and_eq_true] at hq
    have R := ringB_true hq.1
    obtain ⟨_, x1, x2⟩ := numB_true hq.2
    clear hq
    go_enter Try.func20, Try.ntmps20
    go_wp2_with fail
    refine (lasked_any b d a cap zs x _ hm hr1).mono ?_
    rintro e w1 ⟨rfl, hw1⟩
    obtain ⟨k10, k11, z1⟩ := keep2 (bk := w.heap.size) (u := .int .i64 b) (v := .int .i64 d) hw1 (by simp; try omega) (by simp) (by simp)
    go_wp2_with fail
    refine (lprev_any b d a cap zs x _ R (hr.keep (bel1 hw1 (by simp))) x1 x2).mono ?_
    rintro e w2 ⟨rfl, hw2⟩
    go_wp2
    go_ret2
    exact ⟨rfl, belt (bel1 hw1 (by simp)) hw2⟩

set_option maxHeartbeats 1600000 in
theorem GapOf_any (b d : Int) (a : Option Addr) (cap : Nat) (zs : List Int) (x : Int) (w : World) (hm : zs.length ≤ maxLen) (hr : RowAt w a zs) :
    Calls Try.prog 26 #[.agg #[.int .i64 b, .int .i64 d], .slice a zs.length cap, .int .i64 x] w fun e w' => e = .returned (.tuple #[.int .i64 (gVal b d zs x (rnd b x (nxtI zs x))), .bool (okG b d zs x)]) ∧ Below w.heap.size w w' := by
  have hr1 := hr.alloc (.cells #[.int .i64 b, .int .i64 d] 25)
  unfold gVal
  have hok : okG b d zs x = (ringB b d zs && memI zs x) := rfl
  cases hg : ringB b d zs
  · rw [hok, hg]
    clear hok
    go_enter Try.func26, Try.ntmps26
    go_wp2_with fail
    refine (GoodRing_any b d a cap zs _ hm hr1).mono ?_
    rintro e w1 ⟨rfl, hw1⟩
    go_wp2
    go_ret2
    exact ⟨rfl, bel1 hw1 (by simp)⟩
  · cases hx : memI zs x
    · rw [hok, hg, hx]
      clear hok
      go_enter Try.func26, Try.ntmps26
      go_wp2_with fail
      refine (GoodRing_any b d a cap zs _ hm hr1).mono ?_
      rintro e w1 ⟨rfl, hw1⟩
      obtain ⟨k10, k11, z1⟩ := keep2 (bk := w.heap.size) (u := .int .i64 b) (v := .int .i64 d) hw1 (by simp; try omega) (by simp) (by simp)
      go_wp2_with fail
      refine (isMember_any a cap zs x _ hm (hr.keep (bel1 hw1 (by simp)))).mono ?_
      rintro e w2 ⟨rfl, rfl⟩
      go_wp2
      go_ret2
      exact ⟨rfl, bel1 hw1 (by simp)⟩
    · rw [hg, hx] at hok
      obtain ⟨_, _, R, x1, x2⟩ := okG_ask hok
      rw [hok]
      clear hok
      obtain ⟨hb1, hb2, _, _, _⟩ := gsB_true R.gs
      obtain ⟨y1, y2⟩ := nxt_rng R x
      have l1 := R.l1
      have l2 := R.l2
      clear R
      go_enter Try.func26, Try.ntmps26
      go_wp2_with fail
      refine (GoodRing_any b d a cap zs _ hm hr1).mono ?_
      rintro e w1 ⟨rfl, hw1⟩
      obtain ⟨k10, k11, z1⟩ := keep2 (bk := w.heap.size) (u := .int .i64 b) (v := .int .i64 d) hw1 (by simp; try omega) (by simp) (by simp)
      go_wp2_with fail
      have HR : Hid (RowAt w1 a zs) := hr.keep (bel1 hw1 (by simp))
      refine (isMember_any a cap zs x _ hm HR.out).mono ?_
      rintro e w2 ⟨rfl, he⟩
      subst he
      go_wp2
      have c0 : ∀ p : Kin w2.heap.size w2, p.v.cell? ⟨w.heap.size, 0, none⟩ = some (.int .i64 b) := kin_cell z1 k10
      have c1 : ∀ p : Kin w2.heap.size w2, p.v.cell? ⟨w.heap.size, 1, none⟩ = some (.int .i64 d) := kin_cell z1 k11
      refine region_kin w2.heap.size (by kernel_rfl) (by kernel_rfl) (fun hne => ?_)
      repeat (go_big_quiet_step (first | (go_at_call 46; exact kin_same (nextIn_any a cap zs x _ l1 l2 (HR.out.keepB (Kin.bel _) (Nat.le_refl _)))) | (go_at_call 53; exact kin_of (Nat.le_refl _) (roundUp_any _ _ _ _ _ hb1 hb2 x1 x2 y1 y2))))
      refine wpQuiet_nil ?_
      intro _ hw'
      obtain ⟨⟨w3, hw3⟩, hw''⟩ := hw'
      obtain rfl : _ = w3 := hw''
      clear c0 c1 hne
      go_wp2
      go_ret2
      exact ⟨rfl, belt (bel1 hw1 (by simp)) hw3⟩

set_option maxHeartbeats 1600000 in
theorem lGapOf_any (b d : Int) (a : Option Addr) (cap : Nat) (zs : List Int) (x : Int) (w : World) (hm : zs.length ≤ maxLen) (hr : RowAt w a zs) :
    Calls Try.prog 29 #[.agg #[.int .i64 b, .int .i64 d], .slice a zs.length cap, .int .i64 x] w fun e w' => e = .returned (.tuple #[.int .i64 (gVal b d zs x (rnd b x (nxtI zs x))), .bool (okG b d zs x)]) ∧ Below w.heap.size w w' := by
  have hr1 := hr.alloc (.cells #[.int .i64 b, .int .i64 d] 25)
  unfold gVal
  cases hg : okG b d zs x
  · rcases okG_no hg with ha | ⟨ha, hh⟩
    · go_enter Try.func29, Try.ntmps29
      go_wp2_with fail
      refine (lasked_any b d a cap zs x _ hm hr1).mono ?_
      rintro e w1 ⟨rfl, hw1⟩
      go_wp2
      go_ret2
      exact ⟨rfl, bel1 hw1 (by simp)⟩
    · go_enter Try.func29, Try.ntmps29
      go_wp2_with fail
      refine (lasked_any b d a cap zs x _ hm hr1).mono ?_
      rintro e w1 ⟨rfl, hw1⟩
      go_wp2_with fail
      refine (lhas_any a cap zs x _ hm (hr.keep (bel1 hw1 (by simp)))).mono ?_
      rintro e w2 ⟨rfl, rfl⟩
      go_wp2
      go_ret2
      exact ⟨rfl, bel1 hw1 (by simp)⟩
  · obtain ⟨ha, hh, R, x1, x2⟩ := okG_ask hg
    have hmem : memI zs x = true := by unfold okG at hg; rw [Bool.and_eq_true] at hg; exact hg.2
    have hval := gap_eq R hmem
    obtain ⟨y1, y2⟩ := prv_rng R x
    rw [← hval]
    clear hval hmem
    go_enter Try.func29, Try.ntmps29
    go_wp2_with fail
    refine (lasked_any b d a cap zs x _ hm hr1).mono ?_
    rintro e w1 ⟨rfl, hw1⟩
    obtain ⟨k10, k11, z1⟩ := keep2 (bk := w.heap.size) (u := .int .i64 b) (v := .int .i64 d) hw1 (by simp; try omega) (by simp) (by simp)
    go_wp2_with fail
    have HR : Hid (RowAt w1 a zs) := hr.keep (bel1 hw1 (by simp))
    refine (lhas_any a cap zs x _ hm HR.out).mono ?_
    rintro e w2 ⟨rfl, he⟩
    subst he
    go_wp2_with fail
    refine (lgap_any b d a cap zs x _ R HR.out x1 x2).mono ?_
    rintro e w3 ⟨rfl, hw3⟩
    go_wp2
    go_ret2
    exact ⟨rfl, belt (bel1 hw1 (by simp)) hw3⟩

set_option maxHeartbeats 1600000 in
theorem KeysOf_any (b d : Int) (a : Option Addr) (cap : Nat) (zs : List Int) (x : Int) (w : World) (hm : zs.length ≤ maxLen) (hr : RowAt w a zs) :
    Calls Try.prog 25 #[.agg #[.int .i64 b, .int .i64 d], .slice a zs.length cap, .int .i64 x] w fun e w' => e = .returned (.tuple #[.int .i64 (gVal b d zs x (rnd b (prvI zs x) x)), .bool (okG b d zs x)]) ∧ Below w.heap.size w w' := by
  have hr1 := hr.alloc (.cells #[.int .i64 b, .int .i64 d] 25)
  unfold gVal
  have hok : okG b d zs x = (ringB b d zs && memI zs x) := rfl
  cases hg : ringB b d zs
  · rw [hok, hg]
    clear hok
    go_enter Try.func25, Try.ntmps25
    go_wp2_with fail
    refine (GoodRing_any b d a cap zs _ hm hr1).mono ?_
    rintro e w1 ⟨rfl, hw1⟩
    go_wp2
    go_ret2
    exact ⟨rfl, bel1 hw1 (by simp)⟩
  · cases hx : memI zs x
    · rw [hok, hg, hx]
      clear hok
      go_enter Try.func25, Try.ntmps25
      go_wp2_with fail
      refine (GoodRing_any b d a cap zs _ hm hr1).mono ?_
      rintro e w1 ⟨rfl, hw1⟩
      obtain ⟨k10, k11, z1⟩ := keep2 (bk := w.heap.size) (u := .int .i64 b) (v := .int .i64 d) hw1 (by simp; try omega) (by simp) (by simp)
      go_wp2_with fail
      refine (isMember_any a cap zs x _ hm (hr.keep (bel1 hw1 (by simp)))).mono ?_
      rintro e w2 ⟨rfl, rfl⟩
      go_wp2
      go_ret2
      exact ⟨rfl, bel1 hw1 (by simp)⟩
    · rw [hg, hx] at hok
      obtain ⟨_, _, R, x1, x2⟩ := okG_ask hok
      rw [hok]
      clear hok
      obtain ⟨hb1, hb2, _, _, _⟩ := gsB_true R.gs
      obtain ⟨y1, y2⟩ := prv_rng R x
      have l1 := R.l1
      have l2 := R.l2
      clear R
      go_enter Try.func25, Try.ntmps25
      go_wp2_with fail
      refine (GoodRing_any b d a cap zs _ hm hr1).mono ?_
      rintro e w1 ⟨rfl, hw1⟩
      obtain ⟨k10, k11, z1⟩ := keep2 (bk := w.heap.size) (u := .int .i64 b) (v := .int .i64 d) hw1 (by simp; try omega) (by simp) (by simp)
      go_wp2_with fail
      have HR : Hid (RowAt w1 a zs) := hr.keep (bel1 hw1 (by simp))
      refine (isMember_any a cap zs x _ hm HR.out).mono ?_
      rintro e w2 ⟨rfl, he⟩
      subst he
      go_wp2
      have c0 : ∀ p : Kin w2.heap.size w2, p.v.cell? ⟨w.heap.size, 0, none⟩ = some (.int .i64 b) := kin_cell z1 k10
      have c1 : ∀ p : Kin w2.heap.size w2, p.v.cell? ⟨w.heap.size, 1, none⟩ = some (.int .i64 d) := kin_cell z1 k11
      refine region_kin w2.heap.size (by kernel_rfl) (by kernel_rfl) (fun hne => ?_)
      repeat (go_big_quiet_step (first | (go_at_call 48; exact kin_same (prevIn_any a cap zs x _ l1 l2 (HR.out.keepB (Kin.bel _) (Nat.le_refl _)))) | (go_at_call 53; exact kin_of (Nat.le_refl _) (roundUp_any _ _ _ _ _ hb1 hb2 y1 y2 x1 x2))))
      refine wpQuiet_nil ?_
      intro _ hw'
      obtain ⟨⟨w3, hw3⟩, hw''⟩ := hw'
      obtain rfl : _ = w3 := hw''
      clear c0 c1 hne
      go_wp2
      go_ret2
      exact ⟨rfl, belt (bel1 hw1 (by simp)) hw3⟩

set_option maxHeartbeats 1600000 in
theorem lKeysOf_any (b d : Int) (a : Option Addr) (cap : Nat) (zs : List Int) (x : Int) (w : World) (hm : zs.length ≤ maxLen) (hr : RowAt w a zs) :
    Calls Try.prog 28 #[.agg #[.int .i64 b, .int .i64 d], .slice a zs.length cap, .int .i64 x] w fun e w' => e = .returned (.tuple #[.int .i64 (gVal b d zs x (rnd b (prvI zs x) x)), .bool (okG b d zs x)]) ∧ Below w.heap.size w w' := by
  have hr1 := hr.alloc (.cells #[.int .i64 b, .int .i64 d] 25)
  unfold gVal
  cases hg : okG b d zs x
  · rcases okG_no hg with ha | ⟨ha, hh⟩
    · go_enter Try.func28, Try.ntmps28
      go_wp2_with fail
      refine (lasked_any b d a cap zs x _ hm hr1).mono ?_
      rintro e w1 ⟨rfl, hw1⟩
      go_wp2
      go_ret2
      exact ⟨rfl, bel1 hw1 (by simp)⟩
    · go_enter Try.func28, Try.ntmps28
      go_wp2_with fail
      refine (lasked_any b d a cap zs x _ hm hr1).mono ?_
      rintro e w1 ⟨rfl, hw1⟩
      go_wp2_with fail
      refine (lhas_any a cap zs x _ hm (hr.keep (bel1 hw1 (by simp)))).mono ?_
      rintro e w2 ⟨rfl, rfl⟩
      go_wp2
      go_ret2
      exact ⟨rfl, bel1 hw1 (by simp)⟩
  · obtain ⟨ha, hh, R, x1, x2⟩ := okG_ask hg
    have hmem : memI zs x = true := by unfold okG at hg; rw [Bool.and_eq_true] at hg; exact hg.2
    have hval := keys_eq R hmem
    obtain ⟨y1, y2⟩ := prv_rng R x
    rw [← hval]
    clear hval hmem
    go_enter Try.func28, Try.ntmps28
    go_wp2_with fail
    refine (lasked_any b d a cap zs x _ hm hr1).mono ?_
    rintro e w1 ⟨rfl, hw1⟩
    obtain ⟨k10, k11, z1⟩ := keep2 (bk := w.heap.size) (u := .int .i64 b) (v := .int .i64 d) hw1 (by simp; try omega) (by simp) (by simp)
    go_wp2_with fail
    have HR : Hid (RowAt w1 a zs) := hr.keep (bel1 hw1 (by simp))
    refine (lhas_any a cap zs x _ hm HR.out).mono ?_
    rintro e w2 ⟨rfl, he⟩
    subst he
    have RR : Hid (Ring b d zs) := R
    clear R
    go_wp2
    have c0 : ∀ p : Kin w2.heap.size w2, p.v.cell? ⟨w.heap.size, 0, none⟩ = some (.int .i64 b) := kin_cell z1 k10
    have c1 : ∀ p : Kin w2.heap.size w2, p.v.cell? ⟨w.heap.size, 1, none⟩ = some (.int .i64 d) := kin_cell z1 k11
    refine region_kin w2.heap.size (by kernel_rfl) (by kernel_rfl) (fun hne => ?_)
    repeat (go_big_quiet_step (first | (go_at_call 49; exact kin_of (Nat.le_refl _) (lprev_any b d a cap zs _ _ RR.out (HR.out.keepB (Kin.bel _) (Nat.le_refl _)) x1 x2)) | (go_at_call 55; exact kin_of (Nat.le_refl _) (lgap_any b d a cap zs _ _ RR.out (HR.out.keepB (Kin.bel _) (Nat.le_refl _)) y1 y2))))
    refine wpQuiet_nil ?_
    intro _ hw'
    obtain ⟨⟨w3, hw3⟩, hw''⟩ := hw'
    obtain rfl : _ = w3 := hw''
    clear c0 c1 hne
    go_wp2
    go_ret2
    exact ⟨rfl, belt (bel1 hw1 (by simp)) hw3⟩

end Go.Proofs.Ytjolkpfenloobaa
