/- FnArcs: for all bytes that are drawn from, how far there and how far back make one way round or none, and of two other numbers one is ahead of the other: no condition. -/
import Derived.Test.YtbnjloepfmiidaaK0
import Derived.Test.YtbnjloepfmiidaaC3
import Derived.Deep.DeepCutAuto
namespace Go.Proofs.Ytbnjloepfmiidaa
open Go.ChangeShapes Go.WideShapes Go.ChangeAt Go.RowKit
set_option linter.unusedVariables false

def IsRowU (w : World) (a : Option Addr) (len cap : Nat) (zs : List Int) : Prop :=
  (a = none ∧ len = 0 ∧ cap = 0 ∧ zs = []) ∨
  ∃ x, a = some x ∧ len ≤ cap ∧ cap ≤ maxLen ∧ zs.length = cap ∧ (∀ i, i < zs.length → w.cell? (x.add i) = some (.int .u8 (zs.getD i 0))) ∧ ∀ n ∈ zs, (Lit.int .u8 n).wf = true
theorem isRowU_rowB {w : World} {a : Option Addr} {len cap : Nat} {zs : List Int} (h : IsRowU w a len cap zs) : ∃ ys : List Int, ys.length = len ∧ len ≤ maxLen ∧ RowB w a ys := by
  rcases h with ⟨rfl, rfl, rfl, rfl⟩ | ⟨⟨b, off, spot⟩, rfl, hl, hm, hz, hc, hw⟩
  · exact ⟨[], rfl, Nat.zero_le _, .inl rfl⟩
  · by_cases h0 : len = 0
    · subst h0; exact ⟨[], rfl, Nat.zero_le _, .inl rfl⟩
    · have ad : ∀ j, (⟨b, off, none⟩ : Addr).add j = ⟨b, off + j, none⟩ := by intro j; unfold Addr.add; split <;> simp_all
      have hc0 := hc 0 (by omega)
      have hs : spot = none := by simpa [Addr.add] using World.cell?_spot hc0
      subst hs
      refine ⟨zs.take len, by simp; omega, by omega, .inr ⟨b, off, rfl, by simpa [ad] using block_lt_of_cell hc0, fun i hi => ?_⟩⟩
      have hi' : i < len := by simp at hi; omega
      have hci := hc i (by omega)
      rw [ad] at hci
      have e : (zs.take len).getD i 0 = zs.getD i 0 := by simp [List.getD_eq_getElem?_getD, hi']
      have hb := bounds_u8 (hw (zs.getD i 0) (by rw [List.getD_eq_getElem?_getD, List.getElem?_eq_getElem (by omega)]; exact List.getElem_mem _))
      rw [e]
      exact ⟨hci, hb⟩

def bigB (n m : Nat) : Bool := decide (1048576 < n ∨ (1048576 : Int) - n < m)
theorem big_any (a a' : Option Addr) (n m cap cap' : Nat) (w : World) (hn : n ≤ maxLen) (hm : m ≤ maxLen) :
    Calls Try.prog 13 #[.slice a n cap, .slice a' m cap'] w fun e w' => e = .returned (.bool (bigB n m)) ∧ w' = w := by
  unfold maxLen at hn hm
  unfold bigB
  by_cases h1 : 1048576 < n
  · rw [decide_eq_true (Or.inl h1)]
    go_enter Try.func13, Try.ntmps13
    go_wp2
    go_ret
    exact ⟨rfl, rfl⟩
  · by_cases h2 : (1048576 : Int) - n < m
    · rw [decide_eq_true (Or.inr h2)]
      go_enter Try.func13, Try.ntmps13
      go_wp2
      go_ret
      exact ⟨rfl, rfl⟩
    · rw [decide_eq_false (by omega)]
      go_enter Try.func13, Try.ntmps13
      go_wp2
      go_ret
      exact ⟨ret_bool (decide_eq_false (by omega)), rfl⟩
theorem dist_sum {b x y : Int} (x1 : 0 ≤ x) (x2 : x < sz b) (y1 : 0 ≤ y) (y2 : y < sz b) (h : ¬ x = y) : dist b x y + dist b y x = sz b ∧ ¬ dist b x y = 0 := by
  rw [dist_eq x1 x2 y1 y2, dist_eq y1 y2 x1 x2]
  split <;> split <;> omega
theorem dist_same {b x : Int} (x1 : 0 ≤ x) (x2 : x < sz b) : dist b x x = 0 := by
  rw [dist_eq x1 x2 x1 x2, if_pos (Int.le_refl _)]; omega
theorem arc_rev {b f x t : Int} (f1 : 0 ≤ f) (f2 : f < sz b) (x1 : 0 ≤ x) (x2 : x < sz b) (t1 : 0 ≤ t) (t2 : t < sz b) (h : ¬ f = t) : arcB b t x f = !arcB b f x t := by
  unfold arcB
  rw [dist_eq f1 f2 x1 x2, dist_eq f1 f2 t1 t2, dist_eq t1 t2 x1 x2, dist_eq t1 t2 f1 f2]
  rw [Bool.eq_iff_iff]
  simp only [decide_eq_true_eq, Bool.not_eq_true', decide_eq_false_iff_not]
  split <;> split <;> split <;> split <;> omega
theorem aOk_rev (b d f x t : Int) : aOk b d t x f = aOk b d f x t := by
  unfold aOk
  cases numB b d f <;> cases numB b d x <;> cases numB b d t <;> rfl
theorem dOk_rev (b d x y : Int) : dOk b d y x = dOk b d x y := by unfold dOk; exact Bool.and_comm _ _
theorem btw_arc {b d f x t : Int} (h : bVal b d f x t = true) : aVal b d f x t = true := by
  unfold bVal at h
  unfold aVal
  rw [Bool.and_eq_true] at *
  refine ⟨h.1, ?_⟩
  have h2 := of_decide_eq_true h.2
  exact decide_eq_true h2.2
theorem aVal_rev {b d f x t : Int} (h : aOk b d f x t = true) (hne : ¬ f = t) : aVal b d t x f = !aVal b d f x t := by
  have h0 := h
  unfold aOk at h0
  rw [Bool.and_eq_true, Bool.and_eq_true] at h0
  obtain ⟨⟨hf, hx⟩, ht⟩ := h0
  obtain ⟨_, f1, f2⟩ := numB_true hf
  obtain ⟨_, x1, x2⟩ := numB_true hx
  obtain ⟨_, t1, t2⟩ := numB_true ht
  unfold aVal
  rw [aOk_rev, h, arc_rev f1 f2 x1 x2 t1 t2 hne]
  simp
theorem arcs_same {b x y : Int} (hb1 : 1 ≤ b) (hb2 : b ≤ 12) (x1 : 0 ≤ x) (x2 : x < sz b) (h : x = y) : dist b x y = 0 ∧ dist b y x = 0 ∧ decide (wrap64 (2 ^ b.toNat) ≤ 0) = false ∧ (x == y) = true := by
  subst h
  refine ⟨dist_same x1 x2, dist_same x1 x2, ?_, by simp⟩
  rw [wrap_sz hb1 hb2]
  have := sz_bd hb1 hb2
  exact decide_eq_false (by omega)
theorem arcs_other {b x y : Int} (hb1 : 1 ≤ b) (hb2 : b ≤ 12) (x1 : 0 ≤ x) (x2 : x < sz b) (y1 : 0 ≤ y) (y2 : y < sz b) (h : ¬ x = y) :
    decide (wrap64 (2 ^ b.toNat) ≤ dist b x y) = false ∧ (dist b x y + dist b y x != 0) = true ∧ (dist b x y + dist b y x != wrap64 (2 ^ b.toNat)) = false ∧ (dist b x y == 0) = false := by
  obtain ⟨n1, n2⟩ := dist_bd x y hb1 hb2
  obtain ⟨hsum, hnz⟩ := dist_sum x1 x2 y1 y2 h
  have := sz_bd hb1 hb2
  rw [wrap_sz hb1 hb2, hsum]
  exact ⟨decide_eq_false (by omega), by simp; omega, by simp, by simpa using hnz⟩
theorem aVal_no {b d f x t : Int} (h : aOk b d f x t = false) : aVal b d f x t = false := by unfold aVal; rw [h]; rfl
theorem bVal_no {b d f x t : Int} (h : aOk b d f x t = false) : bVal b d f x t = false := by unfold bVal; rw [h]; rfl

set_option maxRecDepth 100000 in
set_option maxHeartbeats 6400000 in
theorem wFnArcs (a a' : Option Addr) (cap cap' : Nat) (xs ys : List Int) (w : World) (hx : xs.length ≤ maxLen) (hy : ys.length ≤ maxLen) (hr1 : RowB w a xs) (hr2 : RowB w a' ys) :
    Calls Try.prog 3 #[.slice a xs.length cap, .slice a' ys.length cap'] w fun e w' => e = .returned (.bool true) ∧ Below w.heap.size w w' := by
  have HX : Hid (xs.length ≤ maxLen) := hx
  have HY : Hid (ys.length ≤ maxLen) := hy
  have HR1 : Hid (RowB w a xs) := hr1
  have HR2 : Hid (RowB w a' ys) := hr2
  clear hx hy hr1 hr2
  cases hbig : bigB xs.length ys.length
  · have hnb := of_decide_eq_false hbig
    have hm1 : xs.length ≤ 1048576 := by omega
    have hm2 : ys.length ≤ 1048576 := by omega
    clear hnb
    go_enter Try.func3, Try.ntmps3
    go_wp2_with fail
    refine (big_any _ _ _ _ _ _ _ HX.out HY.out).mono ?_
    rintro e w0 ⟨rfl, hw0⟩
    replace hw0 := hw0.symm
    subst hw0
    go_wp2_with fail
    refine (drawDist_any _ _ xs _ hm1 HR1.out).mono ?_
    rintro e w1 ⟨b, d, x, y, rfl, gb1⟩
    go_wp2_with fail
    refine (DistOf_any _ _ _ _ _).mono ?_
    rintro e w2 ⟨rfl, hw2⟩
    obtain ⟨s20, s21, y2⟩ := keep2 (bk := w1.heap.size) (u := .int .i64 b) (v := .int .i64 d) hw2 (by simp; try omega) (by simp) (by simp)
    have gb2 := belt gb1 (bel1 hw2 (by simp; try omega))
    go_wp2_with fail
    refine (lDistOf_any _ _ _ _ _).mono ?_
    rintro e w3 ⟨rfl, hw3⟩
    obtain ⟨s30, s31, y3⟩ := keep2 hw3 y2 s20 s21
    have gb3 := belt gb2 hw3
    have HSZ : Hid _ := y3
    go_upto_if 59 with (fail)
    go_cut [8, 9, 10, 11, 12, 13] (fun v8 v9 v10 v11 v12 v13 wc => Below w.heap.size w wc ∧ wc.cell? ⟨w1.heap.size, 0, none⟩ = some (.int .i64 b) ∧ wc.cell? ⟨w1.heap.size, 1, none⟩ = some (.int .i64 d) ∧ w1.heap.size < wc.heap.size)
    case first =>
      cases hok : dOk b d x y
      ·
        go_wp2_with fail
        go_meet
        case rel => exact ⟨gb3, s30, s31, y3⟩
      ·
        have hrev := dOk_rev b d x y
        rw [hok] at hrev
        have hv1 : dVal b d x y = dist b x y := by unfold dVal; rw [hok]; rfl
        have hv2 : dVal b d y x = dist b y x := by unfold dVal; rw [hrev]; rfl
        have hxy := hok
        unfold dOk at hxy
        rw [Bool.and_eq_true] at hxy
        obtain ⟨hnx, hny⟩ := hxy
        obtain ⟨hg, x1, x2⟩ := numB_true hnx
        obtain ⟨_, y1, y2⟩ := numB_true hny
        obtain ⟨hb1, hb2, _, _, _⟩ := gsB_true hg
        obtain ⟨hs1, hs2⟩ := sz_bd hb1 hb2
        obtain ⟨n1, n2⟩ := dist_bd x y hb1 hb2
        obtain ⟨n3, n4⟩ := dist_bd y x hb1 hb2
        by_cases hxy : x = y
        ·
          obtain ⟨hd0, hd1, q1, hxx⟩ := arcs_same hb1 hb2 x1 x2 hxy
          rw [hd0] at hv1
          rw [hd1] at hv2
          clear n1 n2 n3 n4 hd0 hd1 hxy
          go_wp2_with fail
          refine (DistOf_any _ _ _ _ _).mono ?_
          rintro e w4 ⟨rfl, hw4⟩
          obtain ⟨s40, s41, y4⟩ := keep2 hw4 y3 s30 s31
          have gb4 := belt gb3 hw4
          go_wp2_with fail
          go_meet
          case rel => exact ⟨gb4, s40, s41, y4⟩
        ·
          obtain ⟨q1, q2, q3, q4⟩ := arcs_other hb1 hb2 x1 x2 y1 y2 hxy
          have q5 : (x == y) = false := by simpa using hxy
          clear hxy
          go_wp2_with fail
          refine (DistOf_any _ _ _ _ _).mono ?_
          rintro e w4 ⟨rfl, hw4⟩
          obtain ⟨s40, s41, y4⟩ := keep2 hw4 y3 s30 s31
          have gb4 := belt gb3 hw4
          go_wp2_with fail
          go_meet
          case rel => exact ⟨gb4, s40, s41, y4⟩
    case rest =>
      obtain ⟨gb4, s40, s41, y4⟩ := hcut
      clear gb3 s30 s31 y3 HSZ
      go_wp2_with fail
      refine (drawArc_any _ _ ys _ hm2 (RowB.keep HR2.out gb4)).mono ?_
      rintro e w5 ⟨b5, d5, f, x5, t, rfl, hw5⟩
      obtain ⟨s50, s51, y5⟩ := keep2 hw5 y4 s40 s41
      have gb5 := belt gb4 hw5
      go_wp2_with fail
      refine (InArc_any _ _ _ _ _ _).mono ?_
      rintro e w6 ⟨rfl, hw6⟩
      obtain ⟨s60, s61, y6⟩ := keep2 (bk := w1.heap.size) (u := .int .i64 b) (v := .int .i64 d) hw6 (by simp; omega) ((World.cell?_alloc_past _ _ _ y5).trans s50) ((World.cell?_alloc_past _ _ _ y5).trans s51)
      obtain ⟨t60, t61, u6⟩ := keep2 (bk := w5.heap.size) (u := .int .i64 b5) (v := .int .i64 d5) hw6 (by simp; try omega) (by simp) (by simp)
      have gb6 := belt gb5 (bel1 hw6 (by simp; try omega))
      go_wp2_with fail
      refine (lInArc_any _ _ _ _ _ _).mono ?_
      rintro e w7 ⟨rfl, hw7⟩
      obtain ⟨s70, s71, y7⟩ := keep2 hw7 y6 s60 s61
      obtain ⟨t70, t71, u7⟩ := keep2 hw7 u6 t60 t61
      have gb7 := belt gb6 hw7
      go_wp2_with fail
      refine (Between_any _ _ _ _ _ _).mono ?_
      rintro e w8 ⟨rfl, hw8⟩
      obtain ⟨s80, s81, y8⟩ := keep2 hw8 y7 s70 s71
      obtain ⟨t80, t81, u8⟩ := keep2 hw8 u7 t70 t71
      have gb8 := belt gb7 hw8
      cases ho : aOk b5 d5 f x5 t
      ·
        have ha := aVal_no ho
        have hb := bVal_no ho
        go_wp2_with fail
        refine (lBetween_any _ _ _ _ _ _).mono ?_
        rintro e w9 ⟨rfl, hw9⟩
        obtain ⟨s90, s91, y9⟩ := keep2 hw9 y8 s80 s81
        obtain ⟨t90, t91, u9⟩ := keep2 hw9 u8 t80 t81
        have gb9 := belt gb8 hw9
        go_wp2_with fail
        have c0 : ∀ p : Kin w9.heap.size w9, p.v.cell? ⟨w1.heap.size, 0, none⟩ = some (.int .i64 b) := kin_cell y9 s90
        have c1 : ∀ p : Kin w9.heap.size w9, p.v.cell? ⟨w1.heap.size, 1, none⟩ = some (.int .i64 d) := kin_cell y9 s91
        refine region_kin w9.heap.size (by kernel_rfl) (by kernel_rfl) (fun hne => ?_)
        repeat (go_big_quiet_step (first | (go_at_call 22; exact kin_of (Nat.le_refl _) (good_any _ _ _)) | (go_at_call 23; exact kin_of (Nat.le_refl _) (lGoodSpace_any _ _ _))))
        refine wpQuiet_nil ?_
        intro _ hw'
        obtain ⟨⟨w10, hw10⟩, hw''⟩ := hw'
        obtain rfl : _ = w10 := hw''
        clear c0 c1 hne
        obtain ⟨s100, s101, y10⟩ := keep2 hw10 y9 s90 s91
        obtain ⟨t100, t101, u10⟩ := keep2 hw10 u9 t90 t91
        have gb10 := belt gb9 hw10
        go_wp2
        go_ret
        exact ⟨rfl, gb10⟩
      · cases ha : aVal b5 d5 f x5 t
        · have hb : bVal b5 d5 f x5 t = false := by
            cases hb : bVal b5 d5 f x5 t
            · rfl
            · have := btw_arc hb; rw [ha] at this; cases this
          by_cases hft : f = t
          ·
            have hq : (f != t) = false := by simp [hft]
            clear hft
            go_wp2_with fail
            refine (lBetween_any _ _ _ _ _ _).mono ?_
            rintro e w9 ⟨rfl, hw9⟩
            obtain ⟨s90, s91, y9⟩ := keep2 hw9 y8 s80 s81
            obtain ⟨t90, t91, u9⟩ := keep2 hw9 u8 t80 t81
            have gb9 := belt gb8 hw9
            go_wp2_with fail
            have c0 : ∀ p : Kin w9.heap.size w9, p.v.cell? ⟨w1.heap.size, 0, none⟩ = some (.int .i64 b) := kin_cell y9 s90
            have c1 : ∀ p : Kin w9.heap.size w9, p.v.cell? ⟨w1.heap.size, 1, none⟩ = some (.int .i64 d) := kin_cell y9 s91
            refine region_kin w9.heap.size (by kernel_rfl) (by kernel_rfl) (fun hne => ?_)
            repeat (go_big_quiet_step (first | (go_at_call 22; exact kin_of (Nat.le_refl _) (good_any _ _ _)) | (go_at_call 23; exact kin_of (Nat.le_refl _) (lGoodSpace_any _ _ _))))
            refine wpQuiet_nil ?_
            intro _ hw'
            obtain ⟨⟨w10, hw10⟩, hw''⟩ := hw'
            obtain rfl : _ = w10 := hw''
            clear c0 c1 hne
            obtain ⟨s100, s101, y10⟩ := keep2 hw10 y9 s90 s91
            obtain ⟨t100, t101, u10⟩ := keep2 hw10 u9 t90 t91
            have gb10 := belt gb9 hw10
            go_wp2
            go_ret
            exact ⟨rfl, gb10⟩
          ·
            have hq : (f != t) = true := by simpa using hft
            have hrv := aVal_rev ho hft
            have hor := aOk_rev b5 d5 f x5 t
            rw [ho] at hor
            rw [ha] at hrv
            clear hft
            go_wp2_with fail
            refine (lBetween_any _ _ _ _ _ _).mono ?_
            rintro e w9 ⟨rfl, hw9⟩
            obtain ⟨s90, s91, y9⟩ := keep2 hw9 y8 s80 s81
            obtain ⟨t90, t91, u9⟩ := keep2 hw9 u8 t80 t81
            have gb9 := belt gb8 hw9
            go_wp2_with fail
            have c0 : ∀ p : Kin w9.heap.size w9, p.v.cell? ⟨w1.heap.size, 0, none⟩ = some (.int .i64 b) := kin_cell y9 s90
            have c1 : ∀ p : Kin w9.heap.size w9, p.v.cell? ⟨w1.heap.size, 1, none⟩ = some (.int .i64 d) := kin_cell y9 s91
            refine region_kin w9.heap.size (by kernel_rfl) (by kernel_rfl) (fun hne => ?_)
            repeat (go_big_quiet_step (first | (go_at_call 22; exact kin_of (Nat.le_refl _) (good_any _ _ _)) | (go_at_call 23; exact kin_of (Nat.le_refl _) (lGoodSpace_any _ _ _))))
            refine wpQuiet_nil ?_
            intro _ hw'
            obtain ⟨⟨w10, hw10⟩, hw''⟩ := hw'
            obtain rfl : _ = w10 := hw''
            clear c0 c1 hne
            obtain ⟨s100, s101, y10⟩ := keep2 hw10 y9 s90 s91
            obtain ⟨t100, t101, u10⟩ := keep2 hw10 u9 t90 t91
            have gb10 := belt gb9 hw10
            go_wp2_with fail
            refine (InArc_any _ _ _ _ _ _).mono ?_
            rintro e w11 ⟨rfl, hw11⟩
            obtain ⟨s110, s111, y11⟩ := keep2 hw11 y10 s100 s101
            obtain ⟨t110, t111, u11⟩ := keep2 hw11 u10 t100 t101
            have gb11 := belt gb10 hw11
            go_wp2
            go_ret
            exact ⟨rfl, gb11⟩
        · cases hb : bVal b5 d5 f x5 t
          all_goals
            by_cases hft : f = t
            ·
              have hq : (f != t) = false := by simp [hft]
              clear hft
              go_wp2_with fail
              refine (lBetween_any _ _ _ _ _ _).mono ?_
              rintro e w9 ⟨rfl, hw9⟩
              obtain ⟨s90, s91, y9⟩ := keep2 hw9 y8 s80 s81
              obtain ⟨t90, t91, u9⟩ := keep2 hw9 u8 t80 t81
              have gb9 := belt gb8 hw9
              go_wp2_with fail
              have c0 : ∀ p : Kin w9.heap.size w9, p.v.cell? ⟨w1.heap.size, 0, none⟩ = some (.int .i64 b) := kin_cell y9 s90
              have c1 : ∀ p : Kin w9.heap.size w9, p.v.cell? ⟨w1.heap.size, 1, none⟩ = some (.int .i64 d) := kin_cell y9 s91
              refine region_kin w9.heap.size (by kernel_rfl) (by kernel_rfl) (fun hne => ?_)
              repeat (go_big_quiet_step (first | (go_at_call 22; exact kin_of (Nat.le_refl _) (good_any _ _ _)) | (go_at_call 23; exact kin_of (Nat.le_refl _) (lGoodSpace_any _ _ _))))
              refine wpQuiet_nil ?_
              intro _ hw'
              obtain ⟨⟨w10, hw10⟩, hw''⟩ := hw'
              obtain rfl : _ = w10 := hw''
              clear c0 c1 hne
              obtain ⟨s100, s101, y10⟩ := keep2 hw10 y9 s90 s91
              obtain ⟨t100, t101, u10⟩ := keep2 hw10 u9 t90 t91
              have gb10 := belt gb9 hw10
              go_wp2
              go_ret
              exact ⟨rfl, gb10⟩
            ·
              have hq : (f != t) = true := by simpa using hft
              have hrv := aVal_rev ho hft
              have hor := aOk_rev b5 d5 f x5 t
              rw [ho] at hor
              rw [ha] at hrv
              clear hft
              go_wp2_with fail
              refine (lBetween_any _ _ _ _ _ _).mono ?_
              rintro e w9 ⟨rfl, hw9⟩
              obtain ⟨s90, s91, y9⟩ := keep2 hw9 y8 s80 s81
              obtain ⟨t90, t91, u9⟩ := keep2 hw9 u8 t80 t81
              have gb9 := belt gb8 hw9
              go_wp2_with fail
              have c0 : ∀ p : Kin w9.heap.size w9, p.v.cell? ⟨w1.heap.size, 0, none⟩ = some (.int .i64 b) := kin_cell y9 s90
              have c1 : ∀ p : Kin w9.heap.size w9, p.v.cell? ⟨w1.heap.size, 1, none⟩ = some (.int .i64 d) := kin_cell y9 s91
              refine region_kin w9.heap.size (by kernel_rfl) (by kernel_rfl) (fun hne => ?_)
              repeat (go_big_quiet_step (first | (go_at_call 22; exact kin_of (Nat.le_refl _) (good_any _ _ _)) | (go_at_call 23; exact kin_of (Nat.le_refl _) (lGoodSpace_any _ _ _))))
              refine wpQuiet_nil ?_
              intro _ hw'
              obtain ⟨⟨w10, hw10⟩, hw''⟩ := hw'
              obtain rfl : _ = w10 := hw''
              clear c0 c1 hne
              obtain ⟨s100, s101, y10⟩ := keep2 hw10 y9 s90 s91
              obtain ⟨t100, t101, u10⟩ := keep2 hw10 u9 t90 t91
              have gb10 := belt gb9 hw10
              go_wp2_with fail
              refine (InArc_any _ _ _ _ _ _).mono ?_
              rintro e w11 ⟨rfl, hw11⟩
              obtain ⟨s110, s111, y11⟩ := keep2 hw11 y10 s100 s101
              obtain ⟨t110, t111, u11⟩ := keep2 hw11 u10 t100 t101
              have gb11 := belt gb10 hw11
              go_wp2
              go_ret
              exact ⟨rfl, gb11⟩
  · go_enter Try.func3, Try.ntmps3
    go_wp2_with fail
    refine (big_any _ _ _ _ _ _ _ HX.out HY.out).mono ?_
    rintro e w0 ⟨rfl, hw0⟩
    replace hw0 := hw0.symm
    subst hw0
    go_wp2
    go_ret
    exact ⟨rfl, Below.refl _ _⟩

set_option maxRecDepth 100000 in
theorem fnArcs_lifted (os : Os) (started : os.Started) (H : Type) (enc : TypeId × Value → H) :
    ReturnsInHanded {} Try.checked os 3 .any (Rows.fnArcsSpec.pre6 enc Try.prog Try.f3 Rows.fnArcsRow.domain false) (Rows.fnArcsSpec.post enc Try.prog Try.f3 false true false false) := by
  refine returnsInHanded_of_change (C := Try.checked) own started (by kernel_rfl) Try.func3
    (ChangeSpec.witness6 (enc := enc) (C := Try.checked) false ⟨#[], #[.slice none 0 0, .slice none 0 0], []⟩ 8 (by kernel_rfl) (by kernel_rfl) (by kernel_rfl) (by kernel_rfl)) ?_
  intro W base args ds gs before hval0 hW hcnd _
  have hval : ∀ (j : Nat) t v, Try.f3.params[j]? = some t → args[j]? = some v → Value.okWide Try.prog W .any base t v := hval0
  have hW' := hW
  obtain ⟨p, q, hA0, hV, rfl, hfz, hnd⟩ := hW
  have hA : DataW.TrodAll enc Try.prog W 0 (fun _ => true) true Try.f3.params.toList args.toList ds p := hA0
  rw [Try.params3] at hA hval
  obtain ⟨v0, vs0, d0, ds0, p0, q0, hargs, rfl, rfl, h0, r0⟩ := trodAll_cons hA
  obtain ⟨v1, vs1, d1, ds1, p1, q1, rfl, rfl, rfl, h1, r1⟩ := trodAll_cons r0
  obtain ⟨rfl, rfl, rfl⟩ := trodAll_nil r1
  obtain rfl : args = #[v0, v1] := by cases args; simp_all
  obtain ⟨rfl, rfl⟩ := trodVars_none hV
  obtain ⟨a0, len0, cap0, rfl⟩ := okWide_slice Try.underlying22 (hval 0 22 v0 rfl rfl)
  have k0 := h0
  have lt0 : ∀ x ∈ p0, x.block < W.heap.size := by obtain ⟨m, hm⟩ := k0; exact DataW.trod_lt m _ _ _ hm
  obtain ⟨z0, w0⟩ : ∃ zs, IsRowU W a0 len0 cap0 zs := by
    obtain ⟨fuel, hf⟩ := h0
    rcases open_ints Try.underlying22 Try.underlying5 (by kernel_rfl) hf with ⟨hcs, _⟩ | ⟨x, l, c, zs, hcs, _, hl, hm, hz, _, hcell, hwz⟩
    · simp [Value.cells] at hcs
      obtain ⟨rfl, rfl, rfl⟩ := hcs
      exact ⟨[], .inl ⟨rfl, rfl, rfl, rfl⟩⟩
    · simp [Value.cells] at hcs
      obtain ⟨rfl, rfl, rfl⟩ := hcs
      exact ⟨zs, .inr ⟨_, rfl, hl, hm, by simpa using hz, hcell, hwz⟩⟩
  obtain ⟨a1, len1, cap1, rfl⟩ := okWide_slice Try.underlying22 (hval 1 22 v1 rfl rfl)
  have k1 := h1
  have lt1 : ∀ x ∈ p1, x.block < W.heap.size := by obtain ⟨m, hm⟩ := k1; exact DataW.trod_lt m _ _ _ hm
  obtain ⟨z1, w1⟩ : ∃ zs, IsRowU W a1 len1 cap1 zs := by
    obtain ⟨fuel, hf⟩ := h1
    rcases open_ints Try.underlying22 Try.underlying5 (by kernel_rfl) hf with ⟨hcs, _⟩ | ⟨x, l, c, zs, hcs, _, hl, hm, hz, _, hcell, hwz⟩
    · simp [Value.cells] at hcs
      obtain ⟨rfl, rfl, rfl⟩ := hcs
      exact ⟨[], .inl ⟨rfl, rfl, rfl, rfl⟩⟩
    · simp [Value.cells] at hcs
      obtain ⟨rfl, rfl, rfl⟩ := hcs
      exact ⟨zs, .inr ⟨_, rfl, hl, hm, by simpa using hz, hcell, hwz⟩⟩
  clear hA0 hval0
  obtain ⟨y0, e0, m0, q0⟩ := isRowU_rowB w0
  obtain ⟨y1, e1, m1, q1⟩ := isRowU_rowB w1
  subst e0 e1
  refine (wFnArcs a0 a1 cap0 cap1 y0 y1 W m0 m1 q0 q1).mono fun e W' ⟨he, bel⟩ => ?_
  subst he
  exact ⟨_, rfl, _, _, _, [], _, [], hW', trodAll_mk1 (shut_bool Try.underlying4 _), (trodAll_cons_mk (Below.trod laidOut (by kernel_rfl) (of_decide_eq_true (by kernel_rfl)) k0 bel lt0) (trodAll_cons_mk (Below.trod laidOut (by kernel_rfl) (of_decide_eq_true (by kernel_rfl)) k1 bel lt1) trodAll_mk0)), rfl, bel.frame _, fun h => by cases h⟩

theorem fnArcs_holds : Rows.FnArcsSaid :=
  OpenClaim.holds_of_wide 3 Try.f3 rfl rfl rfl rfl rfl rfl rfl ⟨rfl, rfl, rfl, rfl, rfl⟩ rfl rfl rfl rfl rfl (by kernel_rfl) Try.func3 (by kernel_rfl)
    (of_decide_eq_true (by kernel_rfl)) (by unfold Func.isWrapper; first | (rw [if_pos (by decide +kernel)]; kernel_rfl) | (rw [if_neg (by decide +kernel)]; exact ⟨rfl, rfl⟩))
    (fun os started H enc _ => fnArcs_lifted os started H enc)
#print axioms fnArcs_holds
end Go.Proofs.Ytbnjloepfmiidaa
