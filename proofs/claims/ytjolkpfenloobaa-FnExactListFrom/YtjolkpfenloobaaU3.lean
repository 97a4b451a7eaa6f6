/- ListFrom, in the program and in its specification. -/
import Derived.Test.YtjolkpfenloobaaU2
import Derived.Test.YtjolkpfenloobaaT0
namespace Go.Proofs.Ytjolkpfenloobaa
open Go.RowKit
set_option linter.unusedVariables false

def okF (b d : Int) (zs : List Int) (x many : Int) : Bool := askB b d zs x && inB many 0 16
theorem up_lst (zs : List Int) (x : Int) (k : Nat) : upL zs (uptI zs x) k = lstL zs x k := rfl
theorem own_lst {w : World} {B j : Nat} {v : Value} {zs : List Int} {x y : Int} (hz : y = zs.getD ((uptI zs x + j) % zs.length) 0) (h : w.ownsRow B 3 1 v ((lstL zs x j).length + 1) ((lstL zs x j).map (Value.int .i64) ++ [Value.int .i64 y])) : OwnM B w v (lstL zs x (j + 1)) := by
  unfold OwnM
  rw [lstL_succ, List.map_append, List.length_append, ← hz]; exact h

set_option maxHeartbeats 3200000 in
theorem llist_any (b d : Int) (a : Option Addr) (cap : Nat) (zs : List Int) (x : Int) (M : Nat) (w : World) (R : Ring b d zs) (hr : RowAt w a zs) (x1 : 0 ≤ x) (x2 : x < sz b) (hM : M ≤ 16) :
    Calls Try.prog 57 #[.agg #[.int .i64 b, .int .i64 d], .slice a zs.length cap, .int .i64 x, .int .i64 (M : Int)] w fun e w' => ∃ v, e = .returned v ∧ OwnM w.heap.size w' v (lstL zs x M) ∧ Below w.heap.size w w' := by
  obtain ⟨i0, hi, hz0, hz1, hz2⟩ := info_parts'
  have RR : Hid (Ring b d zs) := R
  have HR : Hid (RowAt w a zs) := hr
  clear R hr
  go_enter Try.func57, Try.ntmps57
  go_wp2_with fail
  go_loopw [2, 3, 9] (fun vx vm vo wr => ∃ (v0 : Value) (y : Int) (j : Nat), vo = v0 ∧ vx = .int .i64 y ∧ vm = .int .i64 ((M - j : Nat) : Int) ∧ j ≤ M ∧ 0 ≤ y ∧ y < sz b ∧ Hid (nxtI zs y = zs.getD ((uptI zs x + j) % zs.length) 0) ∧ OwnM (w.heap.size + 1) wr v0 (lstL zs x j) ∧ Below (w.heap.size + 1) (w.alloc (.cells #[.int .i64 b, .int .i64 d] 25)) wr) (fun _ vm _ _ => (intOf vm).toNat)
  case atStart => exact ⟨_, x, 0, rfl, rfl, rfl, Nat.zero_le _, x1, x2, rfl, World.ownsRow_nil _ _ _ _, Below.refl _ _⟩
  case round =>
    obtain ⟨v0, y, j, hv0, rfl, rfl, hj, y1, y2, hny, hown, hbel⟩ := hrel
    have hv0 := hv0.symm
    subst hv0
    have q0 : wr.cell? ⟨w.heap.size, 0, none⟩ = some (.int .i64 b) := (hbel.cell (p := ⟨w.heap.size, 0, none⟩) (by simp)).trans (by simp)
    have q1 : wr.cell? ⟨w.heap.size, 1, none⟩ = some (.int .i64 d) := (hbel.cell (p := ⟨w.heap.size, 1, none⟩) (by simp)).trans (by simp)
    have hsz : w.heap.size + 1 ≤ wr.heap.size := by have := hbel.size; simp at this; omega
    have HB : Hid (Below (w.heap.size + 1) (w.alloc (.cells #[.int .i64 b, .int .i64 d] 25)) wr) := hbel
    have HO : Hid (OwnM (w.heap.size + 1) wr v0 (lstL zs x j)) := hown
    clear hbel hown
    by_cases hlt : j < M
    · have e1 : ∃ m : Nat, M - j = m + 1 := ⟨M - j - 1, by omega⟩
      obtain ⟨m, hm⟩ := e1
      have HMJ : Hid (M - j = m + 1) := hm
      have hm16 : m ≤ 16 := by omega
      rw [hm]
      clear hm
      have rn := nxt_rng RR.out y
      obtain ⟨rn1, rn2⟩ := rn
      have hny2 : Hid (nxtI zs (nxtI zs y) = zs.getD ((uptI zs x + (j + 1)) % zs.length) 0) := by
        show nxtI zs (nxtI zs y) = _
        rw [hny.out, nxt_go RR.out]
      go_wp2_with fail
      refine (lnext_any b d a cap zs y _ RR.out (HR.out.keep (bel1 HB.out (by omega))) y1 y2).mono ?_
      rintro e w1 ⟨rfl, hw1⟩
      have HB1 : Hid (Below (w.heap.size + 1) (w.alloc (.cells #[.int .i64 b, .int .i64 d] 25)) w1) := HB.out.trans (hw1.mono hsz)
      have HO1 : Hid (OwnM (w.heap.size + 1) w1 v0 (lstL zs x j)) := HO.out.keep hw1
      have hs1 : w.heap.size + 1 ≤ w1.heap.size := Nat.le_trans hsz hw1.size
      have hll := lstL_len zs x j
      have HLL : Hid ((lstL zs x j).length = j) := hll
      clear hll
      generalize hY : nxtI zs y = Y at *
      have HY : Hid (Y = zs.getD ((uptI zs x + j) % zs.length) 0) := by
        show Y = _
        exact hny.out
      clear hY
      go_wp2_with (at_builtin; refine wpList_append_own _ rfl (.tmp 18) (.tmp 20) 26 rfl (w.heap.size + 1) 3 i0 (.int .i64 0) 1 8 Try.underlying26 hi hz0 hz1 hz2 rfl (by decide) _ _ _ rfl (HO1.out.alloc _) ⟨w1.heap.size, 0, none⟩ 1 1 [.int .i64 Y] rfl rfl (cell_one_new _ _ _) (by simp [Value.oneCell']) (by rw [HLL.out]; unfold maxLen; omega) (by rw [HLL.out]; omega) (by simp; omega) ?_; intro v5 w5 hown5 hgrow5 _; have HO5 : Hid (OwnM (w.heap.size + 1) w5 v5 (lstL zs x (j + 1))) := own_lst HY.out hown5; have HB5 : Hid (Below (w.heap.size + 1) (w.alloc (.cells #[.int .i64 b, .int .i64 d] 25)) w5) := grown_bel (HB1.out.alloc hs1 _) hgrow5 (by simp; omega) (fun k hk => (HO1.out.lt k hk).1); clear hown5 hgrow5)
      go_roundw
      case rel => exact ⟨v5, Y, j + 1, rfl, rfl, by have := HMJ.out; go_num, by omega, rn1, rn2, hny2, HO5.out, HB5.out⟩
      case measure => have := HMJ.out; simp [intOf]; try omega
    · have hje : j = M := by omega
      subst hje
      go_wp2
      go_ret
      exact ⟨_, rfl, HO.out.mono (Nat.le_succ _), bel1 HB.out (by omega)⟩

set_option maxHeartbeats 1600000 in
theorem lListFrom_row (b d : Int) (a : Option Addr) (cap : Nat) (zs : List Int) (x many : Int) (w : World) (hm : zs.length ≤ maxLen) (hcap : zs.length ≤ cap) (hr : RowAt w a zs) :
    Calls Try.prog 33 #[.agg #[.int .i64 b, .int .i64 d], .slice a zs.length cap, .int .i64 x, .int .i64 many] w fun e w' => ∃ v, e = .returned v ∧ Below w.heap.size w w' ∧
      ((okF b d zs x many = false ∧ v = .tuple #[.slice none 0 0, .bool false]) ∨ (okF b d zs x many = true ∧ ∃ a0 cp, v = .tuple #[.slice a0 many.toNat cp, .bool true] ∧ RowAt w' a0 (lstL zs x many.toNat))) := by
  have hr1 := hr.alloc (.cells #[.int .i64 b, .int .i64 d] 25)
  have hok : okF b d zs x many = (askB b d zs x && inB many 0 16) := rfl
  cases hg : askB b d zs x
  · rw [hg] at hok
    go_enter Try.func33, Try.ntmps33
    go_wp2_with fail
    refine (lasked_any b d a cap zs x _ hm hr1).mono ?_
    rintro e w1 ⟨rfl, hw1⟩
    go_wp2
    go_ret2
    exact ⟨_, rfl, bel1 hw1 (by simp), .inl ⟨hok, rfl⟩⟩
  · cases hi : inB many 0 16
    · rw [hg, hi] at hok
      go_enter Try.func33, Try.ntmps33
      go_wp2_with fail
      refine (lasked_any b d a cap zs x _ hm hr1).mono ?_
      rintro e w1 ⟨rfl, hw1⟩
      go_wp2_with fail
      refine (lin_any _ _ _ _).mono ?_
      rintro e w2 ⟨rfl, rfl⟩
      go_wp2
      go_ret2
      exact ⟨_, rfl, bel1 hw1 (by simp), .inl ⟨hok, rfl⟩⟩
    · rw [hg, hi] at hok
      have hq := hg
      unfold askB at hq
      rw [Bool.and_eq_true] at hq
      have R := ringB_true hq.1
      obtain ⟨_, x1, x2⟩ := numB_true hq.2
      clear hq
      obtain ⟨m1, m2⟩ := inB_true hi
      obtain ⟨M, rfl⟩ := Int.eq_ofNat_of_zero_le m1
      have hM : M ≤ 16 := by omega
      go_enter Try.func33, Try.ntmps33
      go_wp2_with fail
      refine (lasked_any b d a cap zs x _ hm hr1).mono ?_
      rintro e w1 ⟨rfl, hw1⟩
      obtain ⟨k10, k11, z1⟩ := keep2 (bk := w.heap.size) (u := .int .i64 b) (v := .int .i64 d) hw1 (by simp; try omega) (by simp) (by simp)
      have HB1 : Hid (Below w.heap.size w w1) := bel1 hw1 (by simp)
      go_wp2_with fail
      refine (lin_any _ _ _ _).mono ?_
      rintro e w2 ⟨rfl, he2⟩
      subst he2
      go_wp2_with fail
      refine (llist_any b d a cap zs x M _ R (hr.keep HB1.out) x1 x2 hM).mono ?_
      rintro e w3 ⟨v3, rfl, om3, hw3⟩
      have HB3 : Hid (Below w.heap.size w w3) := belt HB1.out hw3
      have hll := lstL_len zs x M
      rcases om3.form with ⟨rfl, hnl⟩ | ⟨g3, cp3, rfl, hcp3, os3⟩
      · rw [hnl] at hll
        simp at hll
        subst hll
        clear om3
        go_wp2
        go_ret2
        exact ⟨_, rfl, HB3.out, .inr ⟨hok, none, 0, rfl, .inl hnl⟩⟩
      · have hR3 : Hid (RowAt w3 (some ⟨g3, 0, none⟩) (lstL zs x M)) := os3.rowAt
        clear om3 os3
        rw [hll]
        clear hll
        go_wp2
        go_ret2
        exact ⟨_, rfl, HB3.out, .inr ⟨hok, _, cp3, rfl, hR3.out⟩⟩

set_option maxHeartbeats 3200000 in
theorem ListFrom_row (b d : Int) (a : Option Addr) (cap : Nat) (zs : List Int) (x many : Int) (w : World) (hm : zs.length ≤ maxLen) (hcap : zs.length ≤ cap) (hr : RowAt w a zs) :
    Calls Try.prog 34 #[.agg #[.int .i64 b, .int .i64 d], .slice a zs.length cap, .int .i64 x, .int .i64 many] w fun e w' => ∃ v, e = .returned v ∧ Below w.heap.size w w' ∧
      ((okF b d zs x many = false ∧ v = .tuple #[.slice none 0 0, .bool false]) ∨ (okF b d zs x many = true ∧ ∃ g cp, v = .tuple #[.slice (some ⟨g, 0, none⟩) many.toNat cp, .bool true] ∧ OwnS w.heap.size w' g (lstL zs x many.toNat))) := by
  have hr1 := hr.alloc (.cells #[.int .i64 b, .int .i64 d] 25)
  have hok : okF b d zs x many = (ringB b d zs && numB b d x && inB many 0 16) := rfl
  cases hg : ringB b d zs
  · rw [hg] at hok
    go_enter Try.func34, Try.ntmps34
    go_wp2_with fail
    refine (GoodRing_any b d _ cap zs _ hm hr1).mono ?_
    rintro e w1 ⟨rfl, hw1⟩
    go_wp2
    go_ret2
    exact ⟨_, rfl, bel1 hw1 (by simp), .inl ⟨hok, rfl⟩⟩
  · cases hx : numB b d x
    · rw [hg, hx] at hok
      go_enter Try.func34, Try.ntmps34
      go_wp2_with fail
      refine (GoodRing_any b d _ cap zs _ hm hr1).mono ?_
      rintro e w1 ⟨rfl, hw1⟩
      obtain ⟨k10, k11, z1⟩ := keep2 (bk := w.heap.size) (u := .int .i64 b) (v := .int .i64 d) hw1 (by simp; try omega) (by simp) (by simp)
      go_wp2_with fail
      refine (isNumber_any _ _ _ _).mono ?_
      rintro e w2 ⟨rfl, hw2⟩
      go_wp2
      go_ret2
      exact ⟨_, rfl, belt (bel1 hw1 (by simp)) hw2, .inl ⟨hok, rfl⟩⟩
    · by_cases hlo : many < 0
      · rw [hg, hx, inB_no (by omega)] at hok
        go_enter Try.func34, Try.ntmps34
        go_wp2_with fail
        refine (GoodRing_any b d _ cap zs _ hm hr1).mono ?_
        rintro e w1 ⟨rfl, hw1⟩
        obtain ⟨k10, k11, z1⟩ := keep2 (bk := w.heap.size) (u := .int .i64 b) (v := .int .i64 d) hw1 (by simp; try omega) (by simp) (by simp)
        go_wp2_with fail
        refine (isNumber_any _ _ _ _).mono ?_
        rintro e w2 ⟨rfl, hw2⟩
        go_wp2
        go_ret2
        exact ⟨_, rfl, belt (bel1 hw1 (by simp)) hw2, .inl ⟨hok, rfl⟩⟩
      · by_cases hhi : 16 < many
        · rw [hg, hx, inB_no (by omega)] at hok
          go_enter Try.func34, Try.ntmps34
          go_wp2_with fail
          refine (GoodRing_any b d _ cap zs _ hm hr1).mono ?_
          rintro e w1 ⟨rfl, hw1⟩
          obtain ⟨k10, k11, z1⟩ := keep2 (bk := w.heap.size) (u := .int .i64 b) (v := .int .i64 d) hw1 (by simp; try omega) (by simp) (by simp)
          go_wp2_with fail
          refine (isNumber_any _ _ _ _).mono ?_
          rintro e w2 ⟨rfl, hw2⟩
          go_wp2
          go_ret2
          exact ⟨_, rfl, belt (bel1 hw1 (by simp)) hw2, .inl ⟨hok, rfl⟩⟩
        · rw [hg, hx, inB_yes (by omega) (by omega)] at hok
          have R := ringB_true hg
          have l1 := R.l1
          have l2 := R.l2
          have hup := upt_le zs x
          clear R
          obtain ⟨M, rfl⟩ := Int.eq_ofNat_of_zero_le (show 0 ≤ many by omega)
          have hM : M ≤ 16 := by omega
          go_enter Try.func34, Try.ntmps34
          go_wp2_with fail
          refine (GoodRing_any b d _ cap zs _ hm hr1).mono ?_
          rintro e w1 ⟨rfl, hw1⟩
          obtain ⟨k10, k11, z1⟩ := keep2 (bk := w.heap.size) (u := .int .i64 b) (v := .int .i64 d) hw1 (by simp; try omega) (by simp) (by simp)
          go_wp2_with fail
          refine (isNumber_any _ _ _ _).mono ?_
          rintro e w2 ⟨rfl, hw2⟩
          have HB2 : Hid (Below w.heap.size w w2) := belt (bel1 hw1 (by simp)) hw2
          go_wp2_with fail
          refine (upTo_any a cap zs x _ hm (hr.keep HB2.out)).mono ?_
          rintro e w3 ⟨rfl, he3⟩
          have he3 := he3.symm
          subst he3
          have HU : Hid (upL zs (uptI zs x) M = lstL zs x M) := up_lst zs x M
          generalize uptI zs x = u at *
          go_wp2_with fail
          refine (goingUp_any a zs.length cap (u : Int) _).mono ?_
          rintro e w4 ⟨rfl, hw4⟩
          have hs4 : w4.heap.size = w2.heap.size + 1 + 1 := by rw [hw4]; simp
          have HB4 : Hid (Below w2.heap.size w2 w4) := by rw [hw4]; exact ((Below.refl _ _).alloc (Nat.le_refl _) _).alloc (by simp) _
          have c4 : Hid (w4.cell? ⟨w2.heap.size + 1, 0, none⟩ = some (.int .i64 (u : Int))) := by rw [hw4]; simp [Hid]
          have d4 : Hid (w4.cell? ⟨w2.heap.size, 0, none⟩ = some (.slice a zs.length cap)) := by rw [hw4]; simp [Hid]
          clear hw4
          go_wp2_with fail
          refine (firstOf_any (w2.heap.size + 1) w2.heap.size a cap zs u M _ l1 l2 (by omega) hM (by omega) (by omega) c4.out d4.out (hr.keep (belt HB2.out HB4.out))).mono ?_
          rintro e w5 ⟨g5, cp5, rfl, os5, hw5⟩
          rw [HU.out] at os5
          have OS5 : Hid (OwnS w4.heap.size w5 g5 (lstL zs x M)) := os5
          have HB5 : Hid (Below w.heap.size w w5) := belt (belt HB2.out HB4.out) hw5
          have hge : w.heap.size ≤ w4.heap.size := (belt HB2.out HB4.out).size
          clear os5
          go_wp2
          go_ret2
          exact ⟨_, rfl, HB5.out, .inr ⟨hok, g5, cp5, rfl, OS5.out.mono hge⟩⟩
end Go.Proofs.Ytjolkpfenloobaa
