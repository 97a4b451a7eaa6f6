/- The laws' own sameness of lists and of peers; SetPoint of the specification over any list. -/
import Derived.Test.YtgmdbihdnacpjaaY5
import Derived.Test.YtgmdbihdnacpjaaT3
import Derived.Test.YtgmdbihdnacpjaaQ3
import Derived.Test.YtgmdbihdnacpjaaQ4
namespace Go.Proofs.Ytgmdbihdnacpjaa
open Go.RowKit
set_option linter.unusedVariables false
set_option maxHeartbeats 800000 in
theorem sameInts_any (a a' : Option Addr) (cap cap' : Nat) (xs ys : List Int) (w : World) (hm : xs.length ≤ maxLen) (hx : RowAt w a xs) (hy : RowAt w a' ys) :
    Calls Try.prog 17 #[.slice a xs.length cap, .slice a' ys.length cap'] w fun e w' => e = .returned (.bool (sameB xs ys)) ∧ Below w.heap.size w w' := by
  unfold maxLen at hm
  have HX : Hid (RowAt w a xs) := hx
  have HY : Hid (RowAt w a' ys) := hy
  clear hx hy
  by_cases hl : xs.length = ys.length
  · have HL : Hid (xs.length = ys.length) := hl
    have hle : ((xs.length : Int) != (ys.length : Int)) = false := by simp [hl]
    clear hl
    go_enter Try.func17, Try.ntmps17
    go_wp2_with fail
    go_loopw [13] (fun vi wr => ∃ k : Nat, k ≤ xs.length ∧ vi = .int .i64 k ∧ xs.take k = ys.take k ∧ ∃ n, wr = w.drewN n) (fun vi _ => xs.length - (intOf vi).toNat)
    case atStart => exact ⟨0, Nat.zero_le _, rfl, rfl, 0, rfl⟩
    case round =>
      obtain ⟨k, hk, rfl, hs, n, rfl⟩ := hrel
      have HS : Hid (xs.take k = ys.take k) := hs
      clear hs
      by_cases hlt : k < xs.length
      · have hlt2 : k < ys.length := by have := HL.out; omega
        obtain ⟨bk, off, rfl⟩ := rowAt_form HX.out (by omega)
        obtain ⟨bk2, off2, rfl⟩ := rowAt_form HY.out (by omega)
        have hc1 := (rowAt_cell HX.out (by omega)).2 k hlt
        have hc2 := (rowAt_cell HY.out (by omega)).2 k hlt2
        by_cases he : xs.getD k 0 = ys.getD k 0
        · have ht : Hid (xs.take (k + 1) = ys.take (k + 1)) := same_take hlt hlt2 HS.out he
          have he' : (xs.getD k 0 != ys.getD k 0) = false := by rw [he]; simp
          generalize xs.getD k 0 = x at hc1 he'
          generalize ys.getD k 0 = y at hc2 he'
          clear he
          go_wp2
          go_quiet (fail)
          go_wp2
          go_roundw
          case rel => exact ⟨k + 1, by omega, by go_num, ht.out, _, rfl⟩
          case measure => simp [intOf]; omega
        · have hv : Hid (sameB xs ys = false) := sameB_no he
          have he' : (xs.getD k 0 != ys.getD k 0) = true := by simpa using he
          generalize xs.getD k 0 = x at hc1 he'
          generalize ys.getD k 0 = y at hc2 he'
          clear he
          go_wp2
          go_quiet (fail)
          go_wp2
          go_ret
          exact ⟨ret_bool hv.out.symm, by first | exact below_drewN (below_drewN (Below.refl _ _) _) _ | exact below_drewN (Below.refl _ _) _⟩
      · have hv : Hid (sameB xs ys = true) := sameB_yes HL.out hlt HS.out
        go_wp2
        go_ret
        exact ⟨ret_bool hv.out.symm, below_drewN (Below.refl _ _) _⟩
  · have hv : sameB xs ys = false := decide_eq_false (fun h => hl (by rw [h]))
    rw [hv]
    have hle : ((xs.length : Int) != (ys.length : Int)) = true := by simp; omega
    clear hl hv
    go_enter Try.func17, Try.ntmps17
    go_wp2
    go_ret
    exact ⟨rfl, Below.refl _ _⟩

set_option maxHeartbeats 6400000 in
theorem samePeers_any (b d : Int) (a a' : Option Addr) (cap cap' : Nat) (ps qs : List Pr) (w : World) (hm : ps.length ≤ maxLen) (hx : PeersAt w a ps) (hy : PeersAt w a' qs) :
    Calls Try.prog 15 #[.agg #[.int .i64 b, .int .i64 d, .slice a ps.length cap], .agg #[.int .i64 b, .int .i64 d, .slice a' qs.length cap']] w fun e w' => e = .returned (.bool (sameP ps qs)) ∧ Below w.heap.size w w' := by
  unfold maxLen at hm
  have HX : Hid (PeersAt w a ps) := hx
  have HY : Hid (PeersAt w a' qs) := hy
  clear hx hy
  by_cases hl : ps.length = qs.length
  · have HL : Hid (ps.length = qs.length) := hl
    have hle : ((ps.length : Int) != (qs.length : Int)) = false := by simp [hl]
    clear hl
    have HB0 : Hid (Below w.heap.size w ((w.alloc (.cells #[.int .i64 b, .int .i64 d, .slice a ps.length cap] 28)).alloc (.cells #[.int .i64 b, .int .i64 d, .slice a' qs.length cap'] 28))) := (((Below.refl _ _).alloc (Nat.le_refl _) _).alloc (by simp) _)
    have HC0 : Hid (((w.alloc (.cells #[.int .i64 b, .int .i64 d, .slice a ps.length cap] 28)).alloc (.cells #[.int .i64 b, .int .i64 d, .slice a' qs.length cap'] 28)).cell? ⟨w.heap.size + 1, 2, none⟩ = some (.slice a' qs.length cap')) := by unfold Hid; go_simp
    go_enter Try.func15, Try.ntmps15
    go_wp2_with fail
    go_loopw [25] (fun vi wr => ∃ k : Nat, k ≤ ps.length ∧ vi = .int .i64 k ∧ Hid (Below w.heap.size w wr) ∧ w.heap.size + 1 < wr.heap.size ∧ Hid (wr.cell? ⟨w.heap.size + 1, 2, none⟩ = some (.slice a' qs.length cap')) ∧ Hid (∀ i, i < k → smP (ps.getD i pr0) (qs.getD i pr0) = true)) (fun vi _ => ps.length - (intOf vi).toNat)
    case atStart => exact ⟨0, Nat.zero_le _, rfl, HB0, by simp, HC0, fun i hi => by omega⟩
    case round =>
      obtain ⟨k, hk, rfl, HB, hsz, HC, HS⟩ := hrel
      clear HB0 HC0
      by_cases hlt : k < ps.length
      · have hlt2 : k < qs.length := by have := HL.out; omega
        obtain ⟨bk, off, rfl⟩ := peersAt_form HX.out (by omega)
        obtain ⟨bk2, off2, rfl⟩ := peersAt_form HY.out (by omega)
        have fx := peersAt_cell (HX.out.keep HB.out) (by omega)
        have fy := peersAt_cell (HY.out.keep HB.out) (by omega)
        have fx1 := fx.1
        have fy1 := fy.1
        obtain ⟨c0, c1, c2, ab, cb, c3, hrx, hnx, _⟩ := fx.2 k hlt
        obtain ⟨e0, e1, e2, ab2, cb2, e3, hry, hny, _⟩ := fy.2 k hlt2
        clear fx fy
        have hN := sameP_no (qs := qs) hlt
        have hY : smP (ps.getD k pr0) (qs.getD k pr0) = true → ∀ i, i < k + 1 → smP (ps.getD i pr0) (qs.getD i pr0) = true := fun hp i hi => by
          by_cases he : i = k
          · subst he; exact hp
          · exact HS.out i (by omega)
        rw [smP_parts] at hN hY
        have HN : Hid _ := hN
        have HYY : Hid _ := hY
        clear hN hY HS
        generalize (ps.getD k pr0).id = x0 at c0 HN HYY
        generalize (ps.getD k pr0).succ = x1 at c1 HN HYY
        generalize (ps.getD k pr0).point = x2 at c2 HN HYY
        generalize (ps.getD k pr0).backs = xs at c3 hrx hnx HN HYY
        generalize (qs.getD k pr0).id = y0 at e0 HN HYY
        generalize (qs.getD k pr0).succ = y1 at e1 HN HYY
        generalize (qs.getD k pr0).point = y2 at e2 HN HYY
        generalize (qs.getD k pr0).backs = ys at e3 hry hny HN HYY
        have hc2 : wr.cell? ⟨w.heap.size + 1, 2, none⟩ = some (.slice (some ⟨bk2, off2, none⟩) qs.length cap') := HC.out
        have HW : Hid (Below wr.heap.size wr ((wr.alloc (.cells #[.int .i64 x0, .int .i64 x1, .int .i64 x2, .slice ab xs.length cb] 37)).alloc (.cells #[.int .i64 y0, .int .i64 y1, .int .i64 y2, .slice ab2 ys.length cb2] 37))) := ((Below.refl _ _).alloc (Nat.le_refl _) _).alloc (by simp) _
        have HB2 : Hid (Below w.heap.size w ((wr.alloc (.cells #[.int .i64 x0, .int .i64 x1, .int .i64 x2, .slice ab xs.length cb] 37)).alloc (.cells #[.int .i64 y0, .int .i64 y1, .int .i64 y2, .slice ab2 ys.length cb2] 37))) := belt HB.out HW.out
        have CS := sameInts_any ab ab2 cb cb2 xs ys _ hnx (hrx.keep HW.out) (hry.keep HW.out)
        clear hrx hry
        by_cases h0 : x0 = y0
        · have d0' : (x0 != y0) = false := by rw [h0]; simp
          by_cases h1 : x1 = y1
          · have d1' : (x1 != y1) = false := by rw [h1]; simp
            by_cases h2 : x2 = y2
            · have d2' : (x2 != y2) = false := by rw [h2]; simp
              cases h3 : sameB xs ys
              · have hv : Hid (sameP ps qs = false) := HN.out (fun ⟨_, _, _, hh⟩ => by rw [h3] at hh; cases hh)
                rw [h3] at CS
                clear h0 h1 h2
                go_wp2_with fail
                refine CS.mono ?_
                rintro e w5 ⟨rfl, hw5⟩
                go_wp2
                go_ret
                exact ⟨ret_bool hv.out.symm, belt HB2.out hw5⟩
              · have HS2 : Hid (∀ i, i < k + 1 → smP (ps.getD i pr0) (qs.getD i pr0) = true) := HYY.out ⟨h0, h1, h2, h3⟩
                rw [h3] at CS
                clear h0 h1 h2
                go_wp2_with fail
                refine CS.mono ?_
                rintro e w5 ⟨rfl, hw5⟩
                have HW5 : Hid (Below wr.heap.size wr w5) := belt HW.out hw5
                go_wp2_with fail
                go_roundw
                case rel => exact ⟨k + 1, by omega, by go_num, belt HB.out HW5.out, Nat.lt_of_lt_of_le hsz HW5.out.size, (HW5.out.cell (p := ⟨w.heap.size + 1, 2, none⟩) hsz).trans hc2, HS2⟩
                case measure => simp [intOf]; omega
            · have d2' : (x2 != y2) = true := by simpa using h2
              have hv : Hid (sameP ps qs = false) := HN.out (fun ⟨_, _, hh, _⟩ => h2 hh)
              clear h0 h1 h2
              go_wp2
              go_ret
              exact ⟨ret_bool hv.out.symm, HB2.out⟩
          · have d1' : (x1 != y1) = true := by simpa using h1
            have hv : Hid (sameP ps qs = false) := HN.out (fun ⟨_, hh, _⟩ => h1 hh)
            clear h0 h1
            go_wp2
            go_ret
            exact ⟨ret_bool hv.out.symm, HB2.out⟩
        · have d0' : (x0 != y0) = true := by simpa using h0
          have hv : Hid (sameP ps qs = false) := HN.out (fun ⟨hh, _⟩ => h0 hh)
          clear h0
          go_wp2
          go_ret
          exact ⟨ret_bool hv.out.symm, HB2.out⟩
      · have hv : Hid (sameP ps qs = true) := sameP_yes HL.out (fun i hi => HS.out i (by omega))
        go_wp2
        go_ret
        exact ⟨ret_bool hv.out.symm, HB.out⟩
  · have hv : Hid (sameP ps qs = false) := by unfold Hid sameP; rw [decide_eq_false hl]; rfl
    have hle : ((ps.length : Int) != (qs.length : Int)) = true := by simp; omega
    clear hl
    go_enter Try.func15, Try.ntmps15
    go_wp2
    go_ret
    exact ⟨ret_bool hv.out.symm, (((Below.refl _ _).alloc (Nat.le_refl _) _).alloc (by simp) _)⟩

theorem sameP_self (ps : List Pr) : sameP ps ps = true := sameP_yes rfl (fun i _ => smP_parts.2 ⟨rfl, rfl, rfl, decide_eq_true rfl⟩)
theorem lSetPoint_own2 (b d : Int) (a : Option Addr) (cap : Nat) (ps : List Pr) (x pt : Int) (ab : Option Addr) (cb : Nat) (bs : List Int) (w : World) (hm : ps.length ≤ 1048576) (hr : PeersAt w a ps) (hmb : bs.length ≤ 1048576) (hrb : RowAt w ab bs) (hnb : ab = none → cb = 0) :
    Calls Try.prog 14 #[.agg #[.int .i64 b, .int .i64 d, .slice a ps.length cap], .int .i64 x, .int .i64 pt, .slice ab bs.length cb] w fun e w' => ∃ b' d' a' n' c, e = .returned (.tuple #[.agg #[.int .i64 b', .int .i64 d', .slice a' n' c], .bool (spOk b d ps x pt bs)]) ∧ (spR b d ps x pt bs).length = n' ∧ (b', d') = spcOf (spOk b d ps x pt bs) b d ∧ PeersAt w' a' (spR b d ps x pt bs) ∧ Below w.heap.size w w' := by
  refine (lSetPoint_any b d a cap ps x pt ab cb bs w hm hr hmb hrb hnb).mono ?_
  rintro e w1 ⟨v, rfl, hw, ⟨hg, rfl⟩ | ⟨hg, a0, cp, rfl, os⟩⟩
  · rw [hg]
    have e0 : spR b d ps x pt bs = [] := by unfold spR; rw [hg]; rfl
    rw [e0]
    exact ⟨_, _, _, _, _, rfl, rfl, rfl, .inl rfl, hw⟩
  · rw [hg]
    have e0 : spR b d ps x pt bs = spL ps x pt bs := by unfold spR; rw [hg]; rfl
    rw [e0]
    exact ⟨_, _, _, _, _, rfl, spL_len _ _ _ _, rfl, os, hw⟩
theorem samePeers_self (b d : Int) (a a' : Option Addr) (cap cap' n : Nat) (ps : List Pr) (w : World) (hn : ps.length = n) (hm : n ≤ maxLen) (hx : PeersAt w a ps) (hy : PeersAt w a' ps) :
    Calls Try.prog 15 #[.agg #[.int .i64 b, .int .i64 d, .slice a n cap], .agg #[.int .i64 b, .int .i64 d, .slice a' n cap']] w fun e w' => e = .returned (.bool true) ∧ Below w.heap.size w w' := by
  subst hn
  have := samePeers_any b d a a' cap cap' ps ps w hm hx hy
  rwa [sameP_self] at this
end Go.Proofs.Ytgmdbihdnacpjaa
