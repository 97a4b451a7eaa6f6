/- Two tables are the same just where all their rows are. -/
import Derived.Test.YtpgngfdhnoonjaaTr0
import Derived.Laws.StructEq
namespace Go.Proofs.Ytpgngfdhnoonjaa.Tb
open Go.RowKit Wire
set_option linter.unusedVariables false
set_option linter.unusedSimpArgs false
def rwE (p q : Rw) : Bool := p.x0 == q.x0 && (p.x1 == q.x1 && (p.x2 == q.x2 && p.b == q.b))
theorem rwE_self (p : Rw) : rwE p p = true := by simp [rwE]
theorem rwE_eq {p q : Rw} (h : rwE p q = true) : p = q := by
  obtain ⟨a0, a1, a2, a3⟩ := p
  obtain ⟨b0, b1, b2, b3⟩ := q
  simp [rwE] at h
  obtain ⟨rfl, rfl, rfl, rfl⟩ := h
  rfl
theorem rwE_ne {p q : Rw} (h : ¬ p = q) : rwE p q = false := by
  cases e : rwE p q
  · rfl
  · exact absurd (rwE_eq e) h
theorem eqRw_run (x0 x1 x2 y0 y1 y2 : Int) (b c : Bool) (w : World) : (Op.equalIn 10000 37 (.agg #[.int .i64 x0, .int .i64 x1, .int .i64 x2, .bool b]) (.agg #[.int .i64 y0, .int .i64 y1, .int .i64 y2, .bool c])).run Try.prog w = .ok (rwE ⟨x0, x1, x2, b⟩ ⟨y0, y1, y2, c⟩) w := by
  have hS : Try.prog.underlying 37 = some (.struct (Try.prog.fieldsOf 37)) := by kernel_rfl
  rw [show (10000 : Nat) = 9999 + 1 from rfl, run_equalIn_struct w 9999 37 _ _ hS (by kernel_rfl)]
  simp only [Program.fieldsOf, Try.underlying37]
  have u3 := Try.underlying3
  have u4 := Try.underlying4
  by_cases h0 : x0 = y0
  · subst h0
    by_cases h1 : x1 = y1
    · subst h1
      by_cases h2 : x2 = y2
      · subst h2
        cases b <;> cases c <;> go_simp <;> simp [rwE]
      · have h2' : (x2 == y2) = false := by simpa using h2
        clear h2
        go_simp
        simp [rwE, h2']
    · have h1' : (x1 == y1) = false := by simpa using h1
      clear h1
      go_simp
      simp [rwE, h1']
  · have h0' : (x0 == y0) = false := by simpa using h0
    clear h0
    go_simp
    simp [rwE, h0']
theorem neqRw_run (x0 x1 x2 y0 y1 y2 : Int) (b c : Bool) (w : World) : (binOp .neq 37 (.agg #[.int .i64 x0, .int .i64 x1, .int .i64 x2, .bool b]) (.agg #[.int .i64 y0, .int .i64 y1, .int .i64 y2, .bool c])).run Try.prog w = .ok (.bool (!rwE ⟨x0, x1, x2, b⟩ ⟨y0, y1, y2, c⟩)) w := by
  rw [run_neq_struct, eqRw_run]
  rfl
def sameT (xs ys : List Rw) : Bool := xs.length == ys.length && (List.zip xs ys).all (fun p => rwE p.1 p.2)
theorem sameT_iff {xs ys : List Rw} : sameT xs ys = true ↔ xs = ys := by
  constructor
  · intro h
    simp only [sameT, Bool.and_eq_true, beq_iff_eq, List.all_eq_true] at h
    refine List.ext_getElem h.1 (fun i h1 h2 => ?_)
    have := h.2 (xs[i], ys[i]) (by
      refine List.mem_iff_getElem.2 ⟨i, by simp; omega, by simp⟩)
    exact rwE_eq this
  · intro h
    subst h
    simp only [sameT, beq_self_eq_true, Bool.true_and, List.all_eq_true]
    intro p hp
    obtain ⟨i, hi, rfl⟩ := List.getElem_of_mem hp
    simp [rwE_self]
theorem sameT_no {xs ys : List Rw} (h : ¬ xs = ys) : sameT xs ys = false := by
  cases e : sameT xs ys
  · rfl
  · exact absurd (sameT_iff.1 e) h
theorem sameT_self (xs : List Rw) : sameT xs xs = true := sameT_iff.2 rfl
theorem rw_take {xs ys : List Rw} {k : Nat} (h1 : k < xs.length) (h2 : k < ys.length) (h : xs.take k = ys.take k) (e : xs.getD k rw0 = ys.getD k rw0) : xs.take (k + 1) = ys.take (k + 1) := by
  rw [List.take_succ_eq_append_getElem h1, List.take_succ_eq_append_getElem h2, h]
  simp [List.getD_eq_getElem?_getD, List.getElem?_eq_getElem h1, List.getElem?_eq_getElem h2] at e
  rw [e]
set_option maxRecDepth 100000 in
set_option maxHeartbeats 3200000 in
theorem rowEqual_any (a a' : Option Addr) (cap cap' : Nat) (xs ys : List Rw) (w : World) (hm : xs.length ≤ maxLen) (hm2 : ys.length ≤ maxLen) (hx : LsAt tyRw w a xs) (hy : LsAt tyRw w a' ys) :
    Calls Try.prog 60 #[.slice a xs.length cap, .slice a' ys.length cap'] w fun e w' => e = .returned (.bool (sameT xs ys)) ∧ Below w.heap.size w w' := by
  unfold maxLen at hm hm2
  have HX : Hid (LsAt tyRw w a xs) := hx
  have HY : Hid (LsAt tyRw w a' ys) := hy
  clear hx hy
  by_cases hl : xs.length = ys.length
  · have HL : Hid (xs.length = ys.length) := hl
    have hle : ((xs.length : Int) != (ys.length : Int)) = false := by simp [hl]
    clear hl
    go_enter Try.func60, Try.ntmps60
    go_wp2_with fail
    go_loopw [13] (fun vi wr => ∃ k : Nat, k ≤ xs.length ∧ vi = .int .i64 k ∧ Hid (xs.take k = ys.take k) ∧ Below w.heap.size w wr) (fun vi _ => xs.length - (intOf vi).toNat)
    case atStart => exact ⟨0, Nat.zero_le _, rfl, rfl, Below.refl _ _⟩
    case round =>
      obtain ⟨k, hk, rfl, HS, hbel⟩ := hrel
      by_cases hlt : k < xs.length
      · have hlt2 : k < ys.length := by have := HL.out; omega
        obtain ⟨bk, off, rfl⟩ := lsAt_form HX.out (by show 0 < xs.length; omega)
        obtain ⟨bk2, off2, rfl⟩ := lsAt_form HY.out (by show 0 < ys.length; omega)
        obtain ⟨hb1, hc⟩ := rwAt_cell (HX.out.keep hbel) hlt
        obtain ⟨hb2, hc2⟩ := rwAt_cell (HY.out.keep hbel) hlt2
        obtain ⟨c0, c1, c2, c3⟩ := CellsAt.rw hc
        obtain ⟨d0, d1, d2, d3⟩ := CellsAt.rw hc2
        clear hc hc2
        have HB : Hid (Below w.heap.size w wr) := hbel
        clear hbel
        by_cases he : xs.getD k rw0 = ys.getD k rw0
        · have HT : Hid (xs.take (k + 1) = ys.take (k + 1)) := rw_take hlt hlt2 HS.out he
          rw [← he] at d0 d1 d2 d3
          clear he
          generalize xs.getD k rw0 = p at c0 c1 c2 c3 d0 d1 d2 d3
          obtain ⟨x0, x1, x2, b⟩ := p
          have hrun := fun w => neqRw_run x0 x1 x2 x0 x1 x2 b b w
          rw [rwE_self] at hrun
          go_wp2
          go_quiet (fail)
          go_wp2
          go_roundw
          case rel => exact ⟨k + 1, by omega, by go_num, HT, below_drewN HB.out _⟩
          case measure => simp [intOf]; omega
        · have HV : Hid (sameT xs ys = false) := sameT_no (fun hh => he (by rw [hh]))
          have hne := rwE_ne he
          clear he
          generalize xs.getD k rw0 = p at c0 c1 c2 c3 hne
          generalize ys.getD k rw0 = q at d0 d1 d2 d3 hne
          obtain ⟨x0, x1, x2, b⟩ := p
          obtain ⟨y0, y1, y2, c⟩ := q
          have hrun := fun w => neqRw_run x0 x1 x2 y0 y1 y2 b c w
          rw [hne] at hrun
          clear hne
          go_wp2
          go_quiet (fail)
          go_wp2
          go_ret
          exact ⟨ret_bool HV.out.symm, below_drewN HB.out _⟩
      · have HV : Hid (sameT xs ys = true) := sameT_iff.2 (by
          have h := HS.out
          have hl := HL.out
          rw [List.take_of_length_le (by omega), List.take_of_length_le (by omega)] at h
          exact h)
        go_wp2
        go_ret
        exact ⟨ret_bool HV.out.symm, hbel⟩
  · have hv : sameT xs ys = false := sameT_no (fun h => hl (by rw [h]))
    rw [hv]
    have hle : ((xs.length : Int) != (ys.length : Int)) = true := by simp; omega
    clear hl hv
    go_enter Try.func60, Try.ntmps60
    go_wp2
    go_ret
    exact ⟨rfl, Below.refl _ _⟩
set_option maxRecDepth 100000 in
set_option maxHeartbeats 3200000 in
theorem lSameTable_any (a a' : Option Addr) (cap cap' : Nat) (xs ys : List Rw) (w : World) (hm : xs.length ≤ maxLen) (hm2 : ys.length ≤ maxLen) (hx : LsAt tyRw w a xs) (hy : LsAt tyRw w a' ys) :
    Calls Try.prog 29 #[.slice a xs.length cap, .slice a' ys.length cap'] w fun e w' => e = .returned (.bool (sameT xs ys)) ∧ Below w.heap.size w w' := by
  unfold maxLen at hm hm2
  have HX : Hid (LsAt tyRw w a xs) := hx
  have HY : Hid (LsAt tyRw w a' ys) := hy
  clear hx hy
  by_cases hl : xs.length = ys.length
  · have HL : Hid (xs.length = ys.length) := hl
    have hle : ((xs.length : Int) != (ys.length : Int)) = false := by simp [hl]
    clear hl
    go_enter Try.func29, Try.ntmps29
    go_wp2_with fail
    go_loopw [13] (fun vi wr => ∃ k : Nat, k ≤ xs.length ∧ vi = .int .i64 k ∧ Hid (xs.take k = ys.take k) ∧ Below w.heap.size w wr) (fun vi _ => xs.length - (intOf vi).toNat)
    case atStart => exact ⟨0, Nat.zero_le _, rfl, rfl, Below.refl _ _⟩
    case round =>
      obtain ⟨k, hk, rfl, HS, hbel⟩ := hrel
      by_cases hlt : k < xs.length
      · have hlt2 : k < ys.length := by have := HL.out; omega
        obtain ⟨bk, off, rfl⟩ := lsAt_form HX.out (by show 0 < xs.length; omega)
        obtain ⟨bk2, off2, rfl⟩ := lsAt_form HY.out (by show 0 < ys.length; omega)
        obtain ⟨hb1, hc⟩ := rwAt_cell (HX.out.keep hbel) hlt
        obtain ⟨hb2, hc2⟩ := rwAt_cell (HY.out.keep hbel) hlt2
        obtain ⟨c0, c1, c2, c3⟩ := CellsAt.rw hc
        obtain ⟨d0, d1, d2, d3⟩ := CellsAt.rw hc2
        clear hc hc2
        have HB : Hid (Below w.heap.size w wr) := hbel
        clear hbel
        by_cases he : xs.getD k rw0 = ys.getD k rw0
        · have HT : Hid (xs.take (k + 1) = ys.take (k + 1)) := rw_take hlt hlt2 HS.out he
          rw [← he] at d0 d1 d2 d3
          clear he
          generalize xs.getD k rw0 = p at c0 c1 c2 c3 d0 d1 d2 d3
          obtain ⟨x0, x1, x2, b⟩ := p
          have hrun := fun w => neqRw_run x0 x1 x2 x0 x1 x2 b b w
          rw [rwE_self] at hrun
          go_wp2
          go_quiet (fail)
          go_wp2
          go_roundw
          case rel => exact ⟨k + 1, by omega, by go_num, HT, below_drewN HB.out _⟩
          case measure => simp [intOf]; omega
        · have HV : Hid (sameT xs ys = false) := sameT_no (fun hh => he (by rw [hh]))
          have hne := rwE_ne he
          clear he
          generalize xs.getD k rw0 = p at c0 c1 c2 c3 hne
          generalize ys.getD k rw0 = q at d0 d1 d2 d3 hne
          obtain ⟨x0, x1, x2, b⟩ := p
          obtain ⟨y0, y1, y2, c⟩ := q
          have hrun := fun w => neqRw_run x0 x1 x2 y0 y1 y2 b c w
          rw [hne] at hrun
          clear hne
          go_wp2
          go_quiet (fail)
          go_wp2
          go_ret
          exact ⟨ret_bool HV.out.symm, below_drewN HB.out _⟩
      · have HV : Hid (sameT xs ys = true) := sameT_iff.2 (by
          have h := HS.out
          have hl := HL.out
          rw [List.take_of_length_le (by omega), List.take_of_length_le (by omega)] at h
          exact h)
        go_wp2
        go_ret
        exact ⟨ret_bool HV.out.symm, hbel⟩
  · have hv : sameT xs ys = false := sameT_no (fun h => hl (by rw [h]))
    rw [hv]
    have hle : ((xs.length : Int) != (ys.length : Int)) = true := by simp; omega
    clear hl hv
    go_enter Try.func29, Try.ntmps29
    go_wp2
    go_ret
    exact ⟨rfl, Below.refl _ _⟩
set_option maxRecDepth 100000 in
set_option maxHeartbeats 3200000 in
theorem sameRows_any (a a' : Option Addr) (cap cap' : Nat) (xs ys : List Rw) (w : World) (hm : xs.length ≤ maxLen) (hm2 : ys.length ≤ maxLen) (hx : LsAt tyRw w a xs) (hy : LsAt tyRw w a' ys) :
    Calls Try.prog 17 #[.slice a xs.length cap, .slice a' ys.length cap'] w fun e w' => e = .returned (.bool (sameT xs ys)) ∧ Below w.heap.size w w' := by
  unfold maxLen at hm hm2
  have HX : Hid (LsAt tyRw w a xs) := hx
  have HY : Hid (LsAt tyRw w a' ys) := hy
  clear hx hy
  by_cases hl : xs.length = ys.length
  · have HL : Hid (xs.length = ys.length) := hl
    have hle : ((xs.length : Int) != (ys.length : Int)) = false := by simp [hl]
    clear hl
    go_enter Try.func17, Try.ntmps17
    go_wp2_with fail
    go_loopw [13] (fun vi wr => ∃ k : Nat, k ≤ xs.length ∧ vi = .int .i64 k ∧ Hid (xs.take k = ys.take k) ∧ Below w.heap.size w wr) (fun vi _ => xs.length - (intOf vi).toNat)
    case atStart => exact ⟨0, Nat.zero_le _, rfl, rfl, Below.refl _ _⟩
    case round =>
      obtain ⟨k, hk, rfl, HS, hbel⟩ := hrel
      by_cases hlt : k < xs.length
      · have hlt2 : k < ys.length := by have := HL.out; omega
        obtain ⟨bk, off, rfl⟩ := lsAt_form HX.out (by show 0 < xs.length; omega)
        obtain ⟨bk2, off2, rfl⟩ := lsAt_form HY.out (by show 0 < ys.length; omega)
        obtain ⟨hb1, hc⟩ := rwAt_cell (HX.out.keep hbel) hlt
        obtain ⟨hb2, hc2⟩ := rwAt_cell (HY.out.keep hbel) hlt2
        obtain ⟨c0, c1, c2, c3⟩ := CellsAt.rw hc
        obtain ⟨d0, d1, d2, d3⟩ := CellsAt.rw hc2
        clear hc hc2
        have HB : Hid (Below w.heap.size w wr) := hbel
        clear hbel
        by_cases he : xs.getD k rw0 = ys.getD k rw0
        · have HT : Hid (xs.take (k + 1) = ys.take (k + 1)) := rw_take hlt hlt2 HS.out he
          rw [← he] at d0 d1 d2 d3
          clear he
          generalize xs.getD k rw0 = p at c0 c1 c2 c3 d0 d1 d2 d3
          obtain ⟨x0, x1, x2, b⟩ := p
          have hrun := fun w => neqRw_run x0 x1 x2 x0 x1 x2 b b w
          rw [rwE_self] at hrun
          go_wp2
          go_quiet (fail)
          go_wp2
          go_roundw
          case rel => exact ⟨k + 1, by omega, by go_num, HT, below_drewN HB.out _⟩
          case measure => simp [intOf]; omega
        · have HV : Hid (sameT xs ys = false) := sameT_no (fun hh => he (by rw [hh]))
          have hne := rwE_ne he
          clear he
          generalize xs.getD k rw0 = p at c0 c1 c2 c3 hne
          generalize ys.getD k rw0 = q at d0 d1 d2 d3 hne
          obtain ⟨x0, x1, x2, b⟩ := p
          obtain ⟨y0, y1, y2, c⟩ := q
          have hrun := fun w => neqRw_run x0 x1 x2 y0 y1 y2 b c w
          rw [hne] at hrun
          clear hne
          go_wp2
          go_quiet (fail)
          go_wp2
          go_ret
          exact ⟨ret_bool HV.out.symm, below_drewN HB.out _⟩
      · have HV : Hid (sameT xs ys = true) := sameT_iff.2 (by
          have h := HS.out
          have hl := HL.out
          rw [List.take_of_length_le (by omega), List.take_of_length_le (by omega)] at h
          exact h)
        go_wp2
        go_ret
        exact ⟨ret_bool HV.out.symm, hbel⟩
  · have hv : sameT xs ys = false := sameT_no (fun h => hl (by rw [h]))
    rw [hv]
    have hle : ((xs.length : Int) != (ys.length : Int)) = true := by simp; omega
    clear hl hv
    go_enter Try.func17, Try.ntmps17
    go_wp2
    go_ret
    exact ⟨rfl, Below.refl _ _⟩
set_option maxHeartbeats 1600000 in
theorem SameTable_any (a a' : Option Addr) (cap cap' : Nat) (xs ys : List Rw) (w : World) (hm : xs.length ≤ maxLen) (hm2 : ys.length ≤ maxLen) (hx : LsAt tyRw w a xs) (hy : LsAt tyRw w a' ys) :
    Calls Try.prog 28 #[.slice a xs.length cap, .slice a' ys.length cap'] w fun e w' => e = .returned (.bool (sameT xs ys)) ∧ Below w.heap.size w w' := by
  go_enter Try.func28, Try.ntmps28
  go_wp2_with fail
  refine (rowEqual_any a a' cap cap' xs ys _ hm hm2 hx hy).mono ?_
  rintro e w1 ⟨rfl, hw⟩
  go_wp2
  go_ret
  exact ⟨rfl, hw⟩
theorem lSameTable_two (a : Option Addr) (cap n : Nat) (xs : List Rw) (a' : Option Addr) (cap' n' : Nat) (ys : List Rw) (w : World) (hn : xs.length = n) (hm : n ≤ 1048576) (hx : LsAt tyRw w a xs) (hn' : ys.length = n') (hm' : n' ≤ 1048576) (hy : LsAt tyRw w a' ys) :
    Calls Try.prog 29 #[.slice a n cap, .slice a' n' cap'] w fun e w' => e = .returned (.bool (sameT xs ys)) ∧ Below w.heap.size w w' := by
  subst hn hn'
  exact lSameTable_any a a' cap cap' xs ys w (by unfold maxLen; omega) (by unfold maxLen; omega) hx hy
theorem SameTable_two (a : Option Addr) (cap n : Nat) (xs : List Rw) (a' : Option Addr) (cap' n' : Nat) (ys : List Rw) (w : World) (hn : xs.length = n) (hm : n ≤ 1048576) (hx : LsAt tyRw w a xs) (hn' : ys.length = n') (hm' : n' ≤ 1048576) (hy : LsAt tyRw w a' ys) :
    Calls Try.prog 28 #[.slice a n cap, .slice a' n' cap'] w fun e w' => e = .returned (.bool (sameT xs ys)) ∧ Below w.heap.size w w' := by
  subst hn hn'
  exact SameTable_any a a' cap cap' xs ys w (by unfold maxLen; omega) (by unfold maxLen; omega) hx hy
theorem sameRows_two (a : Option Addr) (cap n : Nat) (xs : List Rw) (a' : Option Addr) (cap' n' : Nat) (ys : List Rw) (w : World) (hn : xs.length = n) (hm : n ≤ 1048576) (hx : LsAt tyRw w a xs) (hn' : ys.length = n') (hm' : n' ≤ 1048576) (hy : LsAt tyRw w a' ys) :
    Calls Try.prog 17 #[.slice a n cap, .slice a' n' cap'] w fun e w' => e = .returned (.bool (sameT xs ys)) ∧ Below w.heap.size w w' := by
  subst hn hn'
  exact sameRows_any a a' cap cap' xs ys w (by unfold maxLen; omega) (by unfold maxLen; omega) hx hy
end Go.Proofs.Ytpgngfdhnoonjaa.Tb
