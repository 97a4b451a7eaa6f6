/- FromDigits on both sides: of so many digits the number. -/
import Derived.Test.YtbnjloepfmiidaaA5
import Derived.Test.YtbnjloepfmiidaaL1
namespace Go.Proofs.Ytbnjloepfmiidaa
open Go.RowKit
set_option linter.unusedVariables false

def fOk (b d : Int) (zs : List Int) : Bool := gsB b d && (zs.length == cnt b d) && allB zs 0 (sz d - 1)
def fVal (b d : Int) (zs : List Int) : Int := if fOk b d zs = true then ofD (sz d) zs else 0

/-- the boxed space is there, and nothing old has turned -/
structure BoxAt (w wr : World) (b d : Int) : Prop where
  bel : Below w.heap.size w wr
  c0 : wr.cell? ⟨w.heap.size, 0, none⟩ = some (.int .i64 b)
  c1 : wr.cell? ⟨w.heap.size, 1, none⟩ = some (.int .i64 d)
  lt : w.heap.size < wr.heap.size
theorem BoxAt.keep {w wr w1 : World} {b d : Int} (h : BoxAt w wr b d) (hb : Below wr.heap.size wr w1) : BoxAt w w1 b d :=
  ⟨h.bel.trans (hb.mono h.bel.size), (hb.cell (p := ⟨w.heap.size, 0, none⟩) h.lt).trans h.c0, (hb.cell (p := ⟨w.heap.size, 1, none⟩) h.lt).trans h.c1, Nat.lt_of_lt_of_le h.lt hb.size⟩
theorem boxAt1 {w w1 : World} {b d : Int} {T : TypeId} {N : Nat} (hb : Below N (w.alloc (.cells #[.int .i64 b, .int .i64 d] T)) w1) (hN : w.heap.size + 1 ≤ N) : BoxAt w w1 b d := by
  refine ⟨bel1 hb (by omega), ?_, ?_, ?_⟩
  · rw [hb.cell (p := ⟨w.heap.size, 0, none⟩) (by show w.heap.size < N; omega)]; simp
  · rw [hb.cell (p := ⟨w.heap.size, 1, none⟩) (by show w.heap.size < N; omega)]; simp
  · have := hb.size; simp at this; omega
theorem digs_bd {d : Int} {zs : List Int} {k : Nat} (hk : k ≤ zs.length) (h : allB (zs.take k) 0 (sz d - 1) = true) : ∀ i, i < k → 0 ≤ zs.getD i 0 ∧ zs.getD i 0 < sz d := by
  intro i hi
  unfold allB at h
  rw [List.all_eq_true] at h
  have hm : zs.getD i 0 ∈ zs.take k := by
    rw [List.getD_eq_getElem?_getD, List.getElem?_eq_getElem (by omega)]
    exact List.mem_take_iff_getElem.2 ⟨i, by omega, rfl⟩
  have := inB_true (h _ hm)
  omega
/-- a part's number is small -/
theorem part_bd {b d : Int} {zs : List Int} {k : Nat} (hb1 : 1 ≤ b) (hb2 : b ≤ 12) (hd1 : 1 ≤ d) (hd2 : d ≤ b) (h5 : b % d = 0) (hl : zs.length = cnt b d) (hk : k ≤ zs.length) (h : allB (zs.take k) 0 (sz d - 1) = true) :
    0 ≤ ofD (sz d) (zs.take k) ∧ ofD (sz d) (zs.take k) < sz b := by
  obtain ⟨s1, s2⟩ := sz_bd hd1 (by omega : d ≤ 12)
  obtain ⟨p1, p2⟩ := ofD_bd (by omega : 0 < sz d) zs k hk (digs_bd hk h)
  have := pow_le (by omega : 1 ≤ sz d) (by omega : k ≤ cnt b d)
  rw [pow_cnt hb1 hd1 hd2 h5] at this
  exact ⟨p1, by omega⟩

set_option maxHeartbeats 800000 in
theorem FromDigits_any (b d : Int) (a : Option Addr) (cap : Nat) (zs : List Int) (w : World) (hm : zs.length ≤ maxLen) (hr : RowAt w a zs) :
    Calls Try.prog 30 #[.agg #[.int .i64 b, .int .i64 d], .slice a zs.length cap] w fun e w' => e = .returned (.tuple #[.int .i64 (fVal b d zs), .bool (fOk b d zs)]) ∧ Below w.heap.size w w' := by
  unfold maxLen at hm
  cases hg : gsB b d
  · have hv : fOk b d zs = false := by unfold fOk; rw [hg]; rfl
    unfold fVal
    rw [hv]
    clear hv hr
    go_enter Try.func30, Try.ntmps30
    go_wp2_with fail
    refine (good_any _ _ _).mono ?_
    rintro e w1 ⟨rfl, hw1⟩
    obtain ⟨k10, k11, z1⟩ := keep2 (bk := w.heap.size) (u := .int .i64 b) (v := .int .i64 d) hw1 (by simp; try omega) (by simp) (by simp)
    go_wp2
    go_ret2
    exact ⟨rfl, bel1 hw1 (by simp; try omega)⟩

  · obtain ⟨hb1, hb2, hd1, hd2, h5⟩ := gsB_true hg
    have H5 : Hid (b % d = 0) := h5
    clear h5
    have hd3 : d ≤ 12 := by omega
    obtain ⟨hq, q1, q2⟩ := cnt_bd hb1 hb2 hd1 hd2
    obtain ⟨hs1, hs2⟩ := sz_bd hb1 hb2
    obtain ⟨hs3, hs4⟩ := sz_bd hd1 hd3
    by_cases hl : zs.length = cnt b d
    · have HL : Hid (zs.length = cnt b d) := hl
      obtain ⟨bk, off, rfl⟩ := rowAt_form hr (by omega)
      obtain ⟨hbk, hc⟩ := rowAt_cell hr (by omega)
      have HC : Hid (∀ i, i < zs.length → w.cell? ⟨bk, off + i, none⟩ = some (.int .i64 (zs.getD i 0))) := hc
      have hll : ((zs.length : Int) != (cnt b d : Int)) = false := by simp [hl]
      have hlz : 1 ≤ zs.length := by omega
      have hlz2 : zs.length ≤ 12 := by omega
      clear hl hc hr
      go_enter Try.func30, Try.ntmps30
      go_wp2_with fail
      refine (good_any _ _ _).mono ?_
      rintro e w1 ⟨rfl, hw1⟩
      obtain ⟨k10, k11, z1⟩ := keep2 (bk := w.heap.size) (u := .int .i64 b) (v := .int .i64 d) hw1 (by simp; try omega) (by simp) (by simp)
      go_wp2_with fail
      refine (count_any _ _ _ hb1 hb2 hd1 hd2).mono ?_
      rintro e w2 ⟨rfl, hw2⟩
      obtain ⟨k20, k21, z2⟩ := keep2 hw2 z1 k10 k11
      have st0 : BoxAt w w2 b d := (boxAt1 hw1 (by simp)).keep hw2
      clear hw1 hw2 k10 k11 k20 k21
      go_wp2_with fail
      go_loopw [6, 21] (fun vx vi wr => ∃ k : Nat, k ≤ zs.length ∧ vi = .int .i64 k ∧ vx = .int .i64 (ofD (sz d) (zs.take k)) ∧ allB (zs.take k) 0 (sz d - 1) = true ∧ BoxAt w wr b d) (fun _ vi _ => zs.length - (intOf vi).toNat)
      case atStart => exact ⟨0, Nat.zero_le _, rfl, rfl, rfl, st0⟩
      case round =>
        obtain ⟨k, hk, rfl, rfl, hal, st⟩ := hrel
        have HA : Hid (allB (zs.take k) 0 (sz d - 1) = true) := hal
        obtain ⟨p1, p2⟩ := part_bd hb1 hb2 hd1 hd2 H5.out HL.out hk hal
        clear hal st0 hq
        by_cases hlt : k < zs.length
        · have hcell : wr.cell? ⟨bk, off + k, none⟩ = some (.int .i64 (zs.getD k 0)) := (st.bel.cell (p := ⟨bk, off + k, none⟩) hbk).trans (HC.out k hlt)
          have k10 := st.c0
          have k11 := st.c1
          cases hin : digB b d (zs.getD k 0)
          · have hv : Hid (fOk b d zs = false) := by
              have hi : inB (zs.getD k 0) 0 (sz d - 1) = false := by unfold digB at hin; rw [hg] at hin; simpa using hin
              show fOk b d zs = false
              unfold fOk; rw [allB_false hlt hi]; simp
            generalize zs.getD k 0 = z at hcell hin
            go_wp2_with fail
            refine (isDigit_any _ _ _ _).mono ?_
            rintro e w3 ⟨rfl, hw3⟩
            go_wp2
            go_ret2
            refine ⟨?_, (st.keep hw3).bel⟩
            unfold fVal; rw [hv.out]; rfl
          · obtain ⟨_, z1, z2⟩ := digB_true hin
            have hv : Hid (allB (zs.take (k + 1)) 0 (sz d - 1) = true) := allB_take hlt HA.out (inB_yes (by omega) (by omega))
            have ht : Hid (ofD (sz d) (zs.take (k + 1)) = ofD (sz d) (zs.take k) * sz d + zs.getD k 0) := ofD_take hlt
            obtain ⟨m1, m2⟩ := mul_bd p1 (by omega) (by omega : 0 ≤ sz d) hs4
            generalize zs.getD k 0 = z at hcell hin z1 z2 ht
            generalize ofD (sz d) (zs.take k) = y at *
            go_wp2_with fail
            refine (isDigit_any _ _ _ _).mono ?_
            rintro e w3 ⟨rfl, hw3⟩
            have st3 := st.keep hw3
            have k30 := st3.c0
            have k31 := st3.c1
            go_wp2_with fail
            refine (base_any _ _ _ hd1 hd3).mono ?_
            rintro e w4 ⟨rfl, hw4⟩
            have st4 := st3.keep hw4
            clear st st3 k10 k11 k30 k31 hw3 hw4
            go_wp2
            go_roundw
            case rel => exact ⟨k + 1, by omega, by go_num, by rw [ht.out], hv.out, st4⟩
            case measure => simp [intOf]; omega
        · have hkl : k = zs.length := by omega
          subst hkl
          rw [List.take_of_length_le (Nat.le_refl _)] at *
          have hv : Hid (fOk b d zs = true) := by
            show fOk b d zs = true
            unfold fOk; rw [hg, HA.out, HL.out]; simp
          go_wp2
          go_ret2
          refine ⟨?_, st.bel⟩
          unfold fVal; rw [hv.out]; rfl

    · have hv : fOk b d zs = false := by unfold fOk; rw [hg]; simp [hl]
      have hll : ((zs.length : Int) != (cnt b d : Int)) = true := by simp; omega
      unfold fVal
      rw [hv]
      clear hv hl hr
      go_enter Try.func30, Try.ntmps30
      go_wp2_with fail
      refine (good_any _ _ _).mono ?_
      rintro e w1 ⟨rfl, hw1⟩
      obtain ⟨k10, k11, z1⟩ := keep2 (bk := w.heap.size) (u := .int .i64 b) (v := .int .i64 d) hw1 (by simp; try omega) (by simp) (by simp)
      go_wp2_with fail
      refine (count_any _ _ _ hb1 hb2 hd1 hd2).mono ?_
      rintro e w2 ⟨rfl, hw2⟩
      obtain ⟨k20, k21, z2⟩ := keep2 hw2 z1 k10 k11
      go_wp2
      go_ret2
      exact ⟨rfl, belt (bel1 hw1 (by simp; try omega)) hw2⟩


theorem allB_part {zs : List Int} {lo hi : Int} {k : Nat} (h : allB zs lo hi = true) : allB (zs.take k) lo hi = true := by
  unfold allB at *
  rw [List.all_eq_true] at *
  exact fun x hx => h x (List.mem_of_mem_take hx)

set_option maxHeartbeats 800000 in
theorem lFromDigits_any (b d : Int) (a : Option Addr) (cap : Nat) (zs : List Int) (w : World) (hm : zs.length ≤ maxLen) (hr : RowAt w a zs) :
    Calls Try.prog 35 #[.agg #[.int .i64 b, .int .i64 d], .slice a zs.length cap] w fun e w' => e = .returned (.tuple #[.int .i64 (fVal b d zs), .bool (fOk b d zs)]) ∧ Below w.heap.size w w' := by
  unfold maxLen at hm
  cases hg : gsB b d
  · have hv : fOk b d zs = false := by unfold fOk; rw [hg]; rfl
    unfold fVal
    rw [hv]
    clear hv hr
    go_enter Try.func35, Try.ntmps35
    go_wp2_with fail
    refine (lspace_any _ _ _).mono ?_
    rintro e w1 ⟨rfl, hw1⟩
    obtain ⟨k10, k11, z1⟩ := keep2 (bk := w.heap.size) (u := .int .i64 b) (v := .int .i64 d) hw1 (by simp; try omega) (by simp) (by simp)
    go_wp2
    go_ret2
    exact ⟨rfl, bel1 hw1 (by simp; try omega)⟩

  · obtain ⟨hb1, hb2, hd1, hd2, h5⟩ := gsB_true hg
    have H5 : Hid (b % d = 0) := h5
    clear h5
    have hd3 : d ≤ 12 := by omega
    obtain ⟨hq, q1, q2⟩ := cnt_bd hb1 hb2 hd1 hd2
    obtain ⟨hs1, hs2⟩ := sz_bd hb1 hb2
    obtain ⟨hs3, hs4⟩ := sz_bd hd1 hd3
    by_cases hl : zs.length = cnt b d
    · have HL : Hid (zs.length = cnt b d) := hl
      obtain ⟨bk, off, rfl⟩ := rowAt_form hr (by omega)
      obtain ⟨hbk, hc⟩ := rowAt_cell hr (by omega)
      have HC : Hid (∀ i, i < zs.length → w.cell? ⟨bk, off + i, none⟩ = some (.int .i64 (zs.getD i 0))) := hc
      have hll : ((zs.length : Int) != (cnt b d : Int)) = false := by simp [hl]
      have hlz : 1 ≤ zs.length := by omega
      have hlz2 : zs.length ≤ 12 := by omega
      clear hl hc hr
      have hm0 : zs.length ≤ maxLen := by unfold maxLen; omega
      cases hal : allB zs 0 (sz d - 1)
      ·
        have hv : Hid (fOk b d zs = false) := by
          show fOk b d zs = false
          unfold fOk; rw [hal]; simp
        go_enter Try.func35, Try.ntmps35
        go_wp2_with fail
        refine (lspace_any _ _ _).mono ?_
        rintro e w1 ⟨rfl, hw1⟩
        obtain ⟨k10, k11, z1⟩ := keep2 (bk := w.heap.size) (u := .int .i64 b) (v := .int .i64 d) hw1 (by simp; try omega) (by simp) (by simp)
        go_wp2_with fail
        refine (lbase_any _ _ _ hd1 hd3).mono ?_
        rintro e w2 ⟨rfl, hw2⟩
        obtain ⟨k20, k21, z2⟩ := keep2 hw2 z1 k10 k11
        go_wp2_with fail
        refine (lall_some bk off cap zs _ _ _ hm0 ?hcells).mono ?_
        case hcells => exact fun i hi => ((((boxAt1 hw1 (by simp)).keep hw2).bel).cell (p := ⟨bk, off + i, none⟩) hbk).trans (HC.out i hi)
        rintro e w3 ⟨rfl, rfl⟩
        go_wp2
        go_ret2
        refine ⟨?_, belt (bel1 hw1 (by simp; try omega)) hw2⟩
        unfold fVal; rw [hv.out]; rfl
      ·
        have hv : Hid (fOk b d zs = true) := by
          show fOk b d zs = true
          unfold fOk; rw [hg, hal, HL.out]; simp
        have HA : Hid (allB zs 0 (sz d - 1) = true) := hal
        go_enter Try.func35, Try.ntmps35
        go_wp2_with fail
        refine (lspace_any _ _ _).mono ?_
        rintro e w1 ⟨rfl, hw1⟩
        obtain ⟨k10, k11, z1⟩ := keep2 (bk := w.heap.size) (u := .int .i64 b) (v := .int .i64 d) hw1 (by simp; try omega) (by simp) (by simp)
        go_wp2_with fail
        refine (lbase_any _ _ _ hd1 hd3).mono ?_
        rintro e w2 ⟨rfl, hw2⟩
        obtain ⟨k20, k21, z2⟩ := keep2 hw2 z1 k10 k11
        go_wp2_with fail
        refine (lall_some bk off cap zs _ _ _ hm0 ?hcells).mono ?_
        case hcells => exact fun i hi => ((((boxAt1 hw1 (by simp)).keep hw2).bel).cell (p := ⟨bk, off + i, none⟩) hbk).trans (HC.out i hi)
        rintro e w3 ⟨rfl, rfl⟩
        have st0 : BoxAt w w3 b d := (boxAt1 hw1 (by simp)).keep hw2
        clear hw1 hw2 k10 k11 k20 k21
        go_wp2_with fail
        go_loopw [6, 32] (fun vx vi wr => ∃ k : Nat, k ≤ zs.length ∧ vi = .int .i64 k ∧ vx = .int .i64 (ofD (sz d) (zs.take k)) ∧ BoxAt w wr b d) (fun _ vi _ => zs.length - (intOf vi).toNat)
        case atStart => exact ⟨0, Nat.zero_le _, rfl, rfl, st0⟩
        case round =>
          obtain ⟨k, hk, rfl, rfl, st⟩ := hrel
          obtain ⟨p1, p2⟩ := part_bd hb1 hb2 hd1 hd2 H5.out HL.out hk (allB_part HA.out)
          clear hal st0 hq
          by_cases hlt : k < zs.length
          · have hcell : wr.cell? ⟨bk, off + k, none⟩ = some (.int .i64 (zs.getD k 0)) := (st.bel.cell (p := ⟨bk, off + k, none⟩) hbk).trans (HC.out k hlt)
            have k10 := st.c0
            have k11 := st.c1
            have hzk := digs_bd (Nat.le_refl _) (allB_part (k := zs.length) HA.out) k hlt
            obtain ⟨z1, z2⟩ := hzk
            obtain ⟨n1, n2⟩ := part_bd hb1 hb2 hd1 hd2 H5.out HL.out (by omega : k + 1 ≤ zs.length) (allB_part HA.out)
            have ht : Hid (ofD (sz d) (zs.take (k + 1)) = shf b d (ofD (sz d) (zs.take k)) (zs.getD k 0)) := by
              show ofD (sz d) (zs.take (k + 1)) = (ofD (sz d) (zs.take k) * sz d + zs.getD k 0) % sz b
              rw [ofD_take hlt] at n1 n2 ⊢
              exact (Int.emod_eq_of_lt n1 n2).symm
            clear n1 n2
            generalize zs.getD k 0 = z at hcell z1 z2 ht
            generalize ofD (sz d) (zs.take k) = y at *
            go_wp2_with fail
            refine (lshift_any _ _ _ _ _ hb1 hb2 hd1 hd3 p1 p2 z1 z2).mono ?_
            rintro e w4 ⟨rfl, hw4⟩
            have st4 := st.keep hw4
            clear st k10 k11 hw4
            go_wp2
            go_roundw
            case rel => exact ⟨k + 1, by omega, by go_num, by rw [ht.out], st4⟩
            case measure => simp [intOf]; omega
          · have hkl : k = zs.length := by omega
            subst hkl
            rw [List.take_of_length_le (Nat.le_refl _)] at *
            go_wp2
            go_ret2
            refine ⟨?_, st.bel⟩
            unfold fVal; rw [hv.out]; rfl

    · have hv : fOk b d zs = false := by unfold fOk; rw [hg]; simp [hl]
      have hll : ((zs.length : Int) != (cnt b d : Int)) = true := by simp; omega
      unfold fVal
      rw [hv]
      clear hv hl hr
      go_enter Try.func35, Try.ntmps35
      go_wp2_with fail
      refine (lspace_any _ _ _).mono ?_
      rintro e w1 ⟨rfl, hw1⟩
      obtain ⟨k10, k11, z1⟩ := keep2 (bk := w.heap.size) (u := .int .i64 b) (v := .int .i64 d) hw1 (by simp; try omega) (by simp) (by simp)
      go_wp2
      go_ret2
      exact ⟨rfl, bel1 hw1 (by simp; try omega)⟩

end Go.Proofs.Ytbnjloepfmiidaa
