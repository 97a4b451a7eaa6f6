/- The program's GoodNet. The program's GoodNet, whole. GoodNet, both sides, as the laws call them. LostLooks, the program and the specification; the specification's OpenLooks. A law's argument that is a net, opened. -/
import Derived.Test.YtioiacmaijgdoaaZ0
import Derived.Test.YtioiacmaijgdoaaZ1
import Derived.Test.YtioiacmaijgdoaaZ2
import Derived.Test.YtioiacmaijgdoaaZ3
import Derived.Test.YtioiacmaijgdoaaZ4
namespace Go.Proofs.Ytioiacmaijgdoaa
open Go.RowKit Go.Deep
set_option linter.unusedVariables false
set_option linter.unusedSimpArgs false
set_option maxRecDepth 100000 in
set_option maxHeartbeats 6400000 in
theorem isOnWay_any (b d : Int) (q : Nat) (ap : Option Addr) (cp : Nat) (ps : List Pr) (bk o : Nat) (x0 x1 x2 x3 x4 x5 x6 x7 : Int) (ab : Option Addr) (cb : Nat) (l : List Int) (w : World) (R : Ring b d (idsP ps)) (hq : q < w.heap.size) (hbk : bk < w.heap.size)
    (k0 : w.cell? ⟨q, 0, none⟩ = some (.int .i64 b)) (k1 : w.cell? ⟨q, 1, none⟩ = some (.int .i64 d)) (k2 : w.cell? ⟨q, 2, none⟩ = some (.slice ap ps.length cp)) (hr : PeersAt w ap ps) (c0 : w.cell? ⟨bk, o, none⟩ = some (.int .i64 x0)) (c1 : w.cell? ⟨bk, o + 1, none⟩ = some (.int .i64 x1)) (c2 : w.cell? ⟨bk, o + 2, none⟩ = some (.int .i64 x2)) (c3 : w.cell? ⟨bk, o + 3, none⟩ = some (.int .i64 x3)) (c4 : w.cell? ⟨bk, o + 4, none⟩ = some (.int .i64 x4)) (c5 : w.cell? ⟨bk, o + 5, none⟩ = some (.int .i64 x5)) (c6 : w.cell? ⟨bk, o + 6, none⟩ = some (.int .i64 x6)) (c7 : w.cell? ⟨bk, o + 7, none⟩ = some (.int .i64 x7)) (c8 : w.cell? ⟨bk, o + 8, none⟩ = some (.slice ab l.length cb)) (hrb : RowAt w ab l) (hl : l.length ≤ 1048576) :
    Calls Try.prog 51 #[.pointer (some ⟨q, 0, none⟩), .pointer (some ⟨bk, o, none⟩)] w fun e w' => e = .returned (.bool (okMg b d (idsP ps) ⟨x0, x1, x2, x3, x4, x5, x6, x7, l⟩)) ∧ Below w.heap.size w w' := by
  have HR : Hid (PeersAt w ap ps) := hr
  have RR : Hid (Ring b d (idsP ps)) := R
  have HRB : Hid (RowAt w ab l) := hrb
  have HOK : Hid (okMg b d (idsP ps) ⟨x0, x1, x2, x3, x4, x5, x6, x7, l⟩ = (Wire.gmB b d x0 x1 x2 x3 x4 x5 x6 x7 l && inB x0 1 3 && hasB (idsP ps) x2 && hasB (idsP ps) x3)) := rfl
  have CG : ∀ w1, Below w.heap.size w w1 → Calls Try.prog 78 #[.agg #[.int .i64 b, .int .i64 d], .agg #[.int .i64 x0, .int .i64 x1, .int .i64 x2, .int .i64 x3, .int .i64 x4, .int .i64 x5, .int .i64 x6, .int .i64 x7, .slice ab l.length cb]] w1 fun e w' => e = .returned (.bool (Wire.gmB b d x0 x1 x2 x3 x4 x5 x6 x7 l)) ∧ Below w1.heap.size w1 w' := fun w1 hb => Wire.GoodMsg_any b d x0 x1 x2 x3 x4 x5 x6 x7 ab cb l.length l w1 rfl (by unfold maxLen; omega) (HRB.out.keep hb)
  clear hr hrb R
  by_cases h1 : x0 < 1
  · have HV : Hid (okMg b d (idsP ps) ⟨x0, x1, x2, x3, x4, x5, x6, x7, l⟩ = false) := by rw [Hid, HOK.out, inB_no (n := x0) (lo := 1) (hi := 3) (fun h => by omega)]; simp
    have d1 : decide (x0 < 1) = true := decide_eq_true h1
    go_enter Try.func51, Try.ntmps51
    go_wp2
    have g0 : ∀ p : Kin w.heap.size w, p.v.cell? ⟨bk, o, none⟩ = some (.int .i64 x0) := kin_cell hbk c0
    have g1 : ∀ p : Kin w.heap.size w, p.v.cell? ⟨bk, o + 1, none⟩ = some (.int .i64 x1) := kin_cell hbk c1
    have g2 : ∀ p : Kin w.heap.size w, p.v.cell? ⟨bk, o + 2, none⟩ = some (.int .i64 x2) := kin_cell hbk c2
    have g3 : ∀ p : Kin w.heap.size w, p.v.cell? ⟨bk, o + 3, none⟩ = some (.int .i64 x3) := kin_cell hbk c3
    have g4 : ∀ p : Kin w.heap.size w, p.v.cell? ⟨bk, o + 4, none⟩ = some (.int .i64 x4) := kin_cell hbk c4
    have g5 : ∀ p : Kin w.heap.size w, p.v.cell? ⟨bk, o + 5, none⟩ = some (.int .i64 x5) := kin_cell hbk c5
    have g6 : ∀ p : Kin w.heap.size w, p.v.cell? ⟨bk, o + 6, none⟩ = some (.int .i64 x6) := kin_cell hbk c6
    have g7 : ∀ p : Kin w.heap.size w, p.v.cell? ⟨bk, o + 7, none⟩ = some (.int .i64 x7) := kin_cell hbk c7
    have g8 : ∀ p : Kin w.heap.size w, p.v.cell? ⟨bk, o + 8, none⟩ = some (.slice ab l.length cb) := kin_cell hbk c8
    have y0 : ∀ p : Kin w.heap.size w, p.v.cell? ⟨q, 0, none⟩ = some (.int .i64 b) := kin_cell hq k0
    have y1 : ∀ p : Kin w.heap.size w, p.v.cell? ⟨q, 1, none⟩ = some (.int .i64 d) := kin_cell hq k1
    refine region_kin w.heap.size (by kernel_rfl) (by kernel_rfl) (fun hne => ?_)
    repeat (go_big_quiet_step ((go_at_call 78; exact kin_of (Nat.le_refl _) (CG _ (Kin.bel _)))))
    refine wpQuiet_nil ?_
    intro xw hw'
    obtain ⟨⟨w1, hw1⟩, hw1'⟩ := hw'
    have hw1'' : w1 = xw := hw1'.symm
    subst hw1''
    clear g0 g1 g2 g3 g4 g5 g6 g7 g8 y0 y1 hne
    go_wp2
    go_ret
    exact ⟨ret_bool HV.out.symm, hw1⟩
  have d1 : decide (x0 < 1) = false := decide_eq_false h1
  by_cases h2 : x0 > 3
  · have HV : Hid (okMg b d (idsP ps) ⟨x0, x1, x2, x3, x4, x5, x6, x7, l⟩ = false) := by rw [Hid, HOK.out, inB_no (n := x0) (lo := 1) (hi := 3) (fun h => by omega)]; simp
    have d2 : decide (3 < x0) = true := decide_eq_true h2
    have d3 : decide (x0 > 3) = true := decide_eq_true h2
    clear h1 h2
    go_enter Try.func51, Try.ntmps51
    go_wp2
    have g0 : ∀ p : Kin w.heap.size w, p.v.cell? ⟨bk, o, none⟩ = some (.int .i64 x0) := kin_cell hbk c0
    have g1 : ∀ p : Kin w.heap.size w, p.v.cell? ⟨bk, o + 1, none⟩ = some (.int .i64 x1) := kin_cell hbk c1
    have g2 : ∀ p : Kin w.heap.size w, p.v.cell? ⟨bk, o + 2, none⟩ = some (.int .i64 x2) := kin_cell hbk c2
    have g3 : ∀ p : Kin w.heap.size w, p.v.cell? ⟨bk, o + 3, none⟩ = some (.int .i64 x3) := kin_cell hbk c3
    have g4 : ∀ p : Kin w.heap.size w, p.v.cell? ⟨bk, o + 4, none⟩ = some (.int .i64 x4) := kin_cell hbk c4
    have g5 : ∀ p : Kin w.heap.size w, p.v.cell? ⟨bk, o + 5, none⟩ = some (.int .i64 x5) := kin_cell hbk c5
    have g6 : ∀ p : Kin w.heap.size w, p.v.cell? ⟨bk, o + 6, none⟩ = some (.int .i64 x6) := kin_cell hbk c6
    have g7 : ∀ p : Kin w.heap.size w, p.v.cell? ⟨bk, o + 7, none⟩ = some (.int .i64 x7) := kin_cell hbk c7
    have g8 : ∀ p : Kin w.heap.size w, p.v.cell? ⟨bk, o + 8, none⟩ = some (.slice ab l.length cb) := kin_cell hbk c8
    have y0 : ∀ p : Kin w.heap.size w, p.v.cell? ⟨q, 0, none⟩ = some (.int .i64 b) := kin_cell hq k0
    have y1 : ∀ p : Kin w.heap.size w, p.v.cell? ⟨q, 1, none⟩ = some (.int .i64 d) := kin_cell hq k1
    refine region_kin w.heap.size (by kernel_rfl) (by kernel_rfl) (fun hne => ?_)
    repeat (go_big_quiet_step ((go_at_call 78; exact kin_of (Nat.le_refl _) (CG _ (Kin.bel _)))))
    refine wpQuiet_nil ?_
    intro xw hw'
    obtain ⟨⟨w1, hw1⟩, hw1'⟩ := hw'
    have hw1'' : w1 = xw := hw1'.symm
    subst hw1''
    clear g0 g1 g2 g3 g4 g5 g6 g7 g8 y0 y1 hne
    go_wp2
    go_ret
    exact ⟨ret_bool HV.out.symm, hw1⟩
  have d2 : decide (3 < x0) = false := decide_eq_false h2
  have d3 : decide (x0 > 3) = false := decide_eq_false h2
  have HI : Hid (inB x0 1 3 = true) := inB_yes (by omega) (by omega)
  cases hg : Wire.gmB b d x0 x1 x2 x3 x4 x5 x6 x7 l
  · have HV : Hid (okMg b d (idsP ps) ⟨x0, x1, x2, x3, x4, x5, x6, x7, l⟩ = false) := by rw [Hid, HOK.out, hg]; rfl
    rw [hg] at CG
    clear hg
    go_enter Try.func51, Try.ntmps51
    go_wp2
    have g0 : ∀ p : Kin w.heap.size w, p.v.cell? ⟨bk, o, none⟩ = some (.int .i64 x0) := kin_cell hbk c0
    have g1 : ∀ p : Kin w.heap.size w, p.v.cell? ⟨bk, o + 1, none⟩ = some (.int .i64 x1) := kin_cell hbk c1
    have g2 : ∀ p : Kin w.heap.size w, p.v.cell? ⟨bk, o + 2, none⟩ = some (.int .i64 x2) := kin_cell hbk c2
    have g3 : ∀ p : Kin w.heap.size w, p.v.cell? ⟨bk, o + 3, none⟩ = some (.int .i64 x3) := kin_cell hbk c3
    have g4 : ∀ p : Kin w.heap.size w, p.v.cell? ⟨bk, o + 4, none⟩ = some (.int .i64 x4) := kin_cell hbk c4
    have g5 : ∀ p : Kin w.heap.size w, p.v.cell? ⟨bk, o + 5, none⟩ = some (.int .i64 x5) := kin_cell hbk c5
    have g6 : ∀ p : Kin w.heap.size w, p.v.cell? ⟨bk, o + 6, none⟩ = some (.int .i64 x6) := kin_cell hbk c6
    have g7 : ∀ p : Kin w.heap.size w, p.v.cell? ⟨bk, o + 7, none⟩ = some (.int .i64 x7) := kin_cell hbk c7
    have g8 : ∀ p : Kin w.heap.size w, p.v.cell? ⟨bk, o + 8, none⟩ = some (.slice ab l.length cb) := kin_cell hbk c8
    have y0 : ∀ p : Kin w.heap.size w, p.v.cell? ⟨q, 0, none⟩ = some (.int .i64 b) := kin_cell hq k0
    have y1 : ∀ p : Kin w.heap.size w, p.v.cell? ⟨q, 1, none⟩ = some (.int .i64 d) := kin_cell hq k1
    refine region_kin w.heap.size (by kernel_rfl) (by kernel_rfl) (fun hne => ?_)
    repeat (go_big_quiet_step ((go_at_call 78; exact kin_of (Nat.le_refl _) (CG _ (Kin.bel _)))))
    refine wpQuiet_nil ?_
    intro xw hw'
    obtain ⟨⟨w1, hw1⟩, hw1'⟩ := hw'
    have hw1'' : w1 = xw := hw1'.symm
    subst hw1''
    clear g0 g1 g2 g3 g4 g5 g6 g7 g8 y0 y1 hne
    go_wp2
    go_ret
    exact ⟨ret_bool HV.out.symm, hw1⟩
  rw [hg] at CG
  have HG : Hid (Wire.gmB b d x0 x1 x2 x3 x4 x5 x6 x7 l = true) := hg
  clear hg
  go_enter Try.func51, Try.ntmps51
  go_wp2
  have g0 : ∀ p : Kin w.heap.size w, p.v.cell? ⟨bk, o, none⟩ = some (.int .i64 x0) := kin_cell hbk c0
  have g1 : ∀ p : Kin w.heap.size w, p.v.cell? ⟨bk, o + 1, none⟩ = some (.int .i64 x1) := kin_cell hbk c1
  have g2 : ∀ p : Kin w.heap.size w, p.v.cell? ⟨bk, o + 2, none⟩ = some (.int .i64 x2) := kin_cell hbk c2
  have g3 : ∀ p : Kin w.heap.size w, p.v.cell? ⟨bk, o + 3, none⟩ = some (.int .i64 x3) := kin_cell hbk c3
  have g4 : ∀ p : Kin w.heap.size w, p.v.cell? ⟨bk, o + 4, none⟩ = some (.int .i64 x4) := kin_cell hbk c4
  have g5 : ∀ p : Kin w.heap.size w, p.v.cell? ⟨bk, o + 5, none⟩ = some (.int .i64 x5) := kin_cell hbk c5
  have g6 : ∀ p : Kin w.heap.size w, p.v.cell? ⟨bk, o + 6, none⟩ = some (.int .i64 x6) := kin_cell hbk c6
  have g7 : ∀ p : Kin w.heap.size w, p.v.cell? ⟨bk, o + 7, none⟩ = some (.int .i64 x7) := kin_cell hbk c7
  have g8 : ∀ p : Kin w.heap.size w, p.v.cell? ⟨bk, o + 8, none⟩ = some (.slice ab l.length cb) := kin_cell hbk c8
  have y0 : ∀ p : Kin w.heap.size w, p.v.cell? ⟨q, 0, none⟩ = some (.int .i64 b) := kin_cell hq k0
  have y1 : ∀ p : Kin w.heap.size w, p.v.cell? ⟨q, 1, none⟩ = some (.int .i64 d) := kin_cell hq k1
  refine region_kin w.heap.size (by kernel_rfl) (by kernel_rfl) (fun hne => ?_)
  repeat (go_big_quiet_step ((go_at_call 78; exact kin_of (Nat.le_refl _) (CG _ (Kin.bel _)))))
  refine wpQuiet_nil ?_
  intro xw hw'
  obtain ⟨⟨w1, hw1⟩, hw1'⟩ := hw'
  have hw1'' : w1 = xw := hw1'.symm
  subst hw1''
  clear g0 g1 g2 g3 g4 g5 g6 g7 g8 y0 y1 hne
  have n2 := (hw1.cell (p := ⟨q, 2, none⟩) hq).trans k2
  have n0 := (hw1.cell (p := ⟨bk, o + 2, none⟩) hbk).trans c2
  have n1 := (hw1.cell (p := ⟨bk, o + 3, none⟩) hbk).trans c3
  have hq1 : q < w1.heap.size := Nat.lt_of_lt_of_le hq hw1.size
  have hbk1 : bk < w1.heap.size := Nat.lt_of_lt_of_le hbk hw1.size
  clear CG
  go_wp2_with fail
  refine (isId_any b d q ap cp ps x2 w1 RR.out hq1 n2 (HR.out.keep hw1)).mono ?_
  rintro e w2 ⟨rfl, hw2⟩
  cases hi2 : hasB (idsP ps) x2
  · have HV : Hid (okMg b d (idsP ps) ⟨x0, x1, x2, x3, x4, x5, x6, x7, l⟩ = false) := by rw [Hid, HOK.out, hi2]; simp
    clear hi2
    go_wp2
    go_ret
    exact ⟨ret_bool HV.out.symm, belt hw1 hw2⟩
  have HV : Hid (okMg b d (idsP ps) ⟨x0, x1, x2, x3, x4, x5, x6, x7, l⟩ = hasB (idsP ps) x3) := by rw [Hid, HOK.out, hi2, HI.out, HG.out]; rfl
  have n3 := (hw2.cell (p := ⟨q, 2, none⟩) hq1).trans n2
  have n4 := (hw2.cell (p := ⟨bk, o + 3, none⟩) hbk1).trans n1
  have hbk2 : bk < w2.heap.size := Nat.lt_of_lt_of_le hbk1 hw2.size
  clear hi2 n2 n1
  go_wp2_with fail
  refine (isId_any b d q ap cp ps x3 w2 RR.out (Nat.lt_of_lt_of_le hq1 hw2.size) n3 ((HR.out.keep hw1).keep hw2)).mono ?_
  rintro e w3 ⟨rfl, hw3⟩
  go_wp2
  go_ret
  exact ⟨ret_bool HV.out.symm, belt (belt hw1 hw2) hw3⟩
theorem rowAt_take {w : World} {a : Option Addr} {l : List Int} (h : RowAt w a l) (i : Nat) : RowAt w a (l.take i) := by
  rcases h with rfl | ⟨bk, off, ha, hl, hc⟩
  · exact .inl (by simp)
  · refine .inr ⟨bk, off, ha, hl, fun j hj => ?_⟩
    have hj2 : j < l.length := by rw [List.length_take] at hj; omega
    have hj3 : j < i := by rw [List.length_take] at hj; omega
    rw [hc j hj2, List.getD_eq_getElem?_getD, List.getD_eq_getElem?_getD, List.getElem?_take_of_lt hj3]
set_option maxHeartbeats 3200000 in
theorem areApart_any (ag al : Option Addr) (cg cl : Nat) (gs L : List Int) (w : World) (hm : gs.length ≤ maxLen) (hl : L.length ≤ 2097152) (hcl : L.length ≤ cl) (hg : RowAt w ag gs) (hr : RowAt w al L) (hmem : ∀ x, memI gs x = hasB gs x) :
    Calls Try.prog 52 #[.slice ag gs.length cg, .slice al L.length cl] w fun e w' => e = .returned (.bool (appB gs L)) ∧ w' = w := by
  have HG : Hid (RowAt w ag gs) := hg
  have HR : Hid (RowAt w al L) := hr
  have HM : Hid (∀ x, memI gs x = hasB gs x) := hmem
  clear hg hr hmem
  go_enter Try.func52, Try.ntmps52
  go_wp2_with fail
  go_loop [9] (fun v => ∃ k : Nat, k ≤ L.length ∧ v = .int .i64 k ∧ Hid (∀ i, i < k → hasB gs (L.getD i 0) = true ∧ hasB (L.take i) (L.getD i 0) = false)) (fun v => L.length - (intOf v).toNat)
  case atStart => exact ⟨0, Nat.zero_le _, rfl, fun i hi => by omega⟩
  case round =>
    obtain ⟨k, hk, rfl, HS⟩ := hrel
    by_cases hlt : k < L.length
    · obtain ⟨bk, off, rfl⟩ := rowAt_form HR.out (by omega)
      have hc := (rowAt_cell HR.out (by omega)).2 k hlt
      have HNO : Hid (¬ (hasB gs (L.getD k 0) = true ∧ hasB (L.take k) (L.getD k 0) = false) → appB gs L = false) := fun h => decide_eq_false (fun hh => h (hh k hlt))
      have HY : Hid ((hasB gs (L.getD k 0) = true ∧ hasB (L.take k) (L.getD k 0) = false) → ∀ i, i < k + 1 → hasB gs (L.getD i 0) = true ∧ hasB (L.take i) (L.getD i 0) = false) := fun h i hi => by
        by_cases he : i = k
        · subst he; exact h
        · exact HS.out i (by omega)
      obtain ⟨T, hT⟩ : ∃ T, T = L.take k := ⟨_, rfl⟩
      have HRT : Hid (RowAt w (some ⟨bk, off, none⟩) T) := by rw [hT]; exact rowAt_take HR.out k
      have HTL : Hid (T.length = k) := by unfold Hid; rw [hT, List.length_take]; omega
      rw [← hT] at HNO HY
      clear hT HS
      generalize L.getD k 0 = x at hc HNO HY
      have CM := isMember_any ag cg gs x w hm HG.out
      rw [HM.out x] at CM
      go_wp2_with fail
      refine CM.mono ?_
      rintro e w1 ⟨rfl, hx⟩
      have hx' := hx.symm
      subst hx'
      clear hx CM
      cases h1 : hasB gs x
      · have HV : Hid (appB gs L = false) := HNO.out (fun h => by rw [h1] at h; cases h.1)
        clear h1 HNO HY
        go_wp2
        go_ret
        exact ⟨ret_bool HV.out.symm, rfl⟩
      go_wp2_with fail
      refine (slContains_any (some ⟨bk, off, none⟩) cl k T x w HTL.out (by unfold maxLen; omega) HRT.out).mono ?_
      rintro e w2 ⟨rfl, hx⟩
      have hx' := hx.symm
      subst hx'
      clear hx
      cases h2 : hasB T x
      · have HS2 := HY.out ⟨h1, h2⟩
        have HS2 : Hid (∀ i, i < k + 1 → hasB gs (L.getD i 0) = true ∧ hasB (L.take i) (L.getD i 0) = false) := HS2
        clear h1 h2 HNO HY
        go_wp2
        go_round
        case rel => exact ⟨k + 1, by omega, by go_num, HS2⟩
        case measure => simp [intOf]; omega
      · have HV : Hid (appB gs L = false) := HNO.out (fun h => by rw [h2] at h; cases h.2)
        clear h1 h2 HNO HY
        go_wp2
        go_ret
        exact ⟨ret_bool HV.out.symm, rfl⟩
    · have HV : Hid (appB gs L = true) := decide_eq_true (fun i hi => HS.out i (by omega))
      go_wp2
      go_ret
      exact ⟨ret_bool HV.out.symm, rfl⟩
set_option maxRecDepth 100000 in
set_option maxHeartbeats 3200000 in
theorem looksInPlaces_any (q : Nat) (am ar : Option Addr) (cm cr : Nat) (ms : List Mg) (rs : List Rp) (w : World) (hm : ms.length ≤ 1048576) (hm2 : rs.length ≤ 1048576) (hq : q < w.heap.size) (c4 : w.cell? ⟨q, 4, none⟩ = some (.slice am ms.length cm)) (c6 : w.cell? ⟨q, 6, none⟩ = some (.slice ar rs.length cr)) (hr : LsAt tyMg w am ms) (hr2 : LsAt tyRp w ar rs) :
    Calls Try.prog 53 #[.pointer (some ⟨q, 0, none⟩)] w fun e w' => ∃ v, e = .returned v ∧ w'.ownsRow w.heap.size 3 1 v (lkL ms rs).length ((lkL ms rs).map (Value.int .i64)) ∧ Below w.heap.size w w' := by
  obtain ⟨i0, hi, hz0, hz1, hz2⟩ := info_parts'
  have HR2 : Hid (LsAt tyRp w ar rs) := hr2
  have HR : Hid (LsAt tyMg w am ms) := hr
  clear hr hr2
  go_enter Try.func53, Try.ntmps53
  go_wp2_with fail
  refine (looksInBag_any q am cm ms w hm hq c4 HR.out).mono ?_
  rintro e w1 ⟨rfl, ow⟩
  have HB1 : Hid (Below w.heap.size w w1) := ow.bel
  have HO1 : Hid (w1.ownsRow w.heap.size 3 1 (.slice (some ⟨w.heap.size, 0, none⟩) ms.length ms.length) ((lkL ms rs).take (ms.length + 0)).length (((lkL ms rs).take (ms.length + 0)).map (Value.int .i64))) := by
    have e0 : (lkL ms rs).take (ms.length + 0) = lkM ms := by
      unfold lkL
      rw [Nat.add_zero, List.take_append_of_le_length (by rw [lkM_len]; exact Nat.le_refl _), List.take_of_length_le (by rw [lkM_len]; exact Nat.le_refl _)]
    rw [e0]
    exact ownZ_row ow (lkM_len ms) hm
  have d6 := (HB1.out.cell (p := ⟨q, 6, none⟩) hq).trans c6
  have hq1 : q < w1.heap.size := Nat.lt_of_lt_of_le hq HB1.out.size
  clear ow
  go_wp2_with fail
  go_loopw [3, 12] (fun vs vi w' => ∃ (vo : Value) (j : Nat), vs = vo ∧ j ≤ rs.length ∧ vi = .int .i64 j ∧ Hid (w'.ownsRow w.heap.size 3 1 vo ((lkL ms rs).take (ms.length + j)).length (((lkL ms rs).take (ms.length + j)).map (Value.int .i64))) ∧ Hid (Below w.heap.size w w')) (fun _ vi _ => rs.length - (intOf vi).toNat)
  case atStart => exact ⟨_, 0, rfl, Nat.zero_le _, rfl, HO1, HB1⟩
  case round =>
    clear HO1 HB1 d6 hq1
    obtain ⟨vo, j, hvo, hj, rfl, HO, HB⟩ := hrel
    have hvo := hvo.symm
    subst hvo
    obtain ⟨T, hT⟩ : ∃ T, T = (lkL ms rs).take (ms.length + j) := ⟨_, rfl⟩
    rw [← hT] at HO
    have HTE : Hid (T = (lkL ms rs).take (ms.length + j)) := hT
    clear hT
    have d6 := (HB.out.cell (p := ⟨q, 6, none⟩) hq).trans c6
    have hq1 : q < wr.heap.size := Nat.lt_of_lt_of_le hq HB.out.size
    have hle : T.length ≤ 2097152 := by rw [HTE.out, List.length_take, lkL_len]; omega
    by_cases hlt : j < rs.length
    · obtain ⟨bk, off, rfl⟩ := lsAt_form HR2.out (by show 0 < rs.length; omega)
      obtain ⟨hb1, hc⟩ := rsAt_cell (HR2.out.keep HB.out) hlt
      have e0 := hc.r5.1
      clear hc
      have HX1 : Hid ((lkL ms rs).getD (ms.length + j) 0 = (rs.getD j rp0).x0) := lkL_r hlt
      have HTK : Hid ((lkL ms rs).take (ms.length + (j + 1)) = T ++ [(lkL ms rs).getD (ms.length + j) 0]) := by rw [HTE.out]; exact take_snoc (k := ms.length + j) (by rw [lkL_len]; omega)
      rw [HX1.out] at HTK
      generalize (rs.getD j rp0).x0 = x0 at e0 HTK
      go_wp2_with (at_builtin; refine wpList_append_own _ rfl (.tmp 15) (.tmp 24) 33 rfl w.heap.size 3 i0 (.int .i64 0) 1 8 Try.underlying33 hi hz0 hz1 hz2 rfl (by decide) _ _ _ rfl (HO.out.alloc _) ⟨wr.heap.size, 0, none⟩ 1 1 [.int .i64 x0] rfl rfl (cell_one_new _ _ _) (by simp [Value.oneCell']) (by unfold maxLen; omega) (by omega) (alloc_size HB.out) ?_; intro v5 w5 hown5 hgrow5 _; have HB5 : Hid (Below w.heap.size w w5) := grown_bel (HB.out.alloc HB.out.size _) hgrow5 (alloc_size HB.out) (fun k hk => (HO.out.lt k hk).1); have HO5 : Hid (w5.ownsRow w.heap.size 3 1 v5 ((lkL ms rs).take (ms.length + (j + 1))).length (((lkL ms rs).take (ms.length + (j + 1))).map (Value.int .i64))) := own_snoc HTK.out hown5; clear hown5 hgrow5)
      go_roundw
      case rel => exact ⟨_, j + 1, rfl, by omega, by go_num, HO5, HB5⟩
      case measure => simp [intOf]; omega
    · have hje : j = rs.length := by omega
      subst hje
      have HT2 : Hid (T = lkL ms rs) := by rw [Hid, HTE.out]; exact List.take_of_length_le (by rw [lkL_len]; exact Nat.le_refl _)
      have HO2 : Hid (wr.ownsRow w.heap.size 3 1 vo (lkL ms rs).length ((lkL ms rs).map (Value.int .i64))) := by rw [← HT2.out]; exact HO
      go_wp2
      go_ret
      exact ⟨_, rfl, HO2.out, HB.out⟩
end Go.Proofs.Ytioiacmaijgdoaa
namespace Go.Proofs.Ytioiacmaijgdoaa
open Go.RowKit Go.Deep
set_option linter.unusedVariables false
set_option linter.unusedSimpArgs false
theorem memI_begun {gs : List Int} (h4 : gs.length ≤ 12) (h5 : risB gs 0 255 = true) : ∀ x, memI gs x = hasB gs x := by
  intro x
  by_cases h0 : gs.length = 0
  · have : gs = [] := List.length_eq_zero_iff.1 h0
    subst this
    have h1 : memI [] x = false := decide_eq_false (fun hh => by simp at hh)
    have h2 : hasB [] x = false := decide_eq_false (fun ⟨i, hi, _⟩ => by simp at hi)
    rw [h1, h2]
  · have h := of_decide_eq_true h5
    have e8 : sz 8 = 256 := by decide
    exact mem_has (b := 8) (d := 1) ⟨by decide, by omega, by omega, fun i hi => ⟨(h i hi).1.1, by rw [e8]; have := (h i hi).1.2; omega⟩, ris_all (fun i hi h0 => (h i hi).2 h0)⟩ x
theorem goodN_end {b d ttl : Int} {ps : List Pr} {ms : List Mg} {gs : List Int} {rs : List Rp} (h1 : goodP b d ps = true) (h2 : inB ttl 0 1000 = true) (h3 : (decide (gs.length ≤ 12) && risB gs 0 255) = true) (h4 : ms.length + rs.length ≤ gs.length) (h6 : ∀ i, i < ms.length → okMg b d (idsP ps) (ms.getD i mg0) = true) : goodN b d ttl ps ms gs rs = appB gs (lkL ms rs) := by
  have h5 : decide (gs.length ≤ 12) = true ∧ risB gs 0 255 = true := by rwa [Bool.and_eq_true] at h3
  have h7 := of_decide_eq_true h5.1
  unfold goodN
  rw [h1, h2, h5.1, h5.2, decide_eq_true (show ms.length ≤ 12 by omega), decide_eq_true h6]; rfl
set_option maxRecDepth 100000 in
set_option maxHeartbeats 6400000 in
theorem GoodNet_any (b d ttl : Int) (ap am ag ar : Option Addr) (cp cm cg cr : Nat) (ps : List Pr) (ms : List Mg) (gs : List Int) (rs : List Rp) (w : World) (hb : BigN ps ms gs rs) (hr : NetAt w ap am ag ar ps ms gs rs) :
    Calls Try.prog 18 #[.agg #[.int .i64 b, .int .i64 d, .slice ap ps.length cp, .int .i64 ttl, .slice am ms.length cm, .slice ag gs.length cg, .slice ar rs.length cr]] w fun e w' => e = .returned (.bool (goodN b d ttl ps ms gs rs)) ∧ Below w.heap.size w w' := by
  have HBG : Hid (BigN ps ms gs rs) := hb
  have HR : Hid (NetAt w ap am ag ar ps ms gs rs) := hr
  have hpl : ps.length ≤ 1048576 := by have := hb.p; omega
  have hml : ms.length ≤ 1048576 := by have := hb.m; omega
  have hgl : gs.length ≤ 1048576 := hb.g
  have hrl : rs.length ≤ 1048576 := hb.r
  clear hr hb
  go_enter Try.func18, Try.ntmps18
  go_wp2_with fail
  refine (GoodPeers_any b d ap cp ps _ hpl (HR.out.keep (belA _ _)).p).mono ?_
  rintro e w2 ⟨rfl, HW⟩
  have BX2 : Hid (B1 w w2 #[.int .i64 b, .int .i64 d, .slice ap ps.length cp, .int .i64 ttl, .slice am ms.length cm, .slice ag gs.length cg, .slice ar rs.length cr] 36) := (b10 w _ _).keep HW
  clear HW
  obtain ⟨q0, q1, q2, q3, q4, q5, q6⟩ := Wire.Bk.m7 BX2.out.ka
  have qlt := BX2.out.ka.lt
  cases hG : goodP b d ps
  · have HV : Hid (goodN b d ttl ps ms gs rs = false) := by unfold Hid goodN; rw [hG]; rfl
    clear hG
    go_wp2
    go_ret
    exact ⟨ret_bool HV.out.symm, BX2.out.bel⟩
  have HG : Hid (goodP b d ps = true) := hG
  have RR : Hid (Ring b d (idsP ps)) := (goodP_true hG).1
  clear hG
  go_wp2_with fail
  refine (fwd_any ttl _).mono ?_
  rintro e wx ⟨rfl, hx⟩
  have hx' := hx.symm
  subst hx'
  clear hx
  cases hT : inB ttl 0 1000
  · have HV : Hid (goodN b d ttl ps ms gs rs = false) := by unfold Hid goodN; rw [hT]; simp
    clear hT
    go_wp2
    go_ret
    exact ⟨ret_bool HV.out.symm, BX2.out.bel⟩
  have HT : Hid (inB ttl 0 1000 = true) := hT
  clear hT
  go_wp2_with fail
  refine (areBegun_any ag cg gs _ (by unfold maxLen; omega) (HR.out.keep BX2.out.bel).g).mono ?_
  rintro e wx ⟨rfl, hx⟩
  have hx' := hx.symm
  subst hx'
  clear hx
  cases hE : (decide (gs.length ≤ 12) && risB gs 0 255)
  · have HV : Hid (goodN b d ttl ps ms gs rs = false) := by
      unfold Hid goodN
      cases h1 : decide (gs.length ≤ 12)
      · simp
      · rw [h1] at hE; simp at hE; rw [hE]; simp
    clear hE
    go_wp2
    go_ret
    exact ⟨ret_bool HV.out.symm, BX2.out.bel⟩
  have HE : Hid ((decide (gs.length ≤ 12) && risB gs 0 255) = true) := hE
  have HE2 : Hid (gs.length ≤ 12 ∧ risB gs 0 255 = true) := by rw [Bool.and_eq_true, decide_eq_true_iff] at hE; exact hE
  have HR2 : Hid (NetAt w2 ap am ag ar ps ms gs rs) := HR.out.keep BX2.out.bel
  clear hE HR
  have hg12 : gs.length ≤ 12 := HE2.out.1
  by_cases hL : ms.length + rs.length ≤ gs.length
  case neg =>
    have HV : Hid (goodN b d ttl ps ms gs rs = false) := by
      unfold Hid
      cases h : goodN b d ttl ps ms gs rs
      · rfl
      · have := goodN_len h; omega
    have hL2 : (gs.length : Int) < (ms.length : Int) + (rs.length : Int) := by omega
    clear hL
    go_wp2
    go_ret
    exact ⟨ret_bool HV.out.symm, BX2.out.bel⟩
  go_wp2_with fail
  clear q0 q1 q2 q3 q4 q5 q6
  go_loopw [34] (fun vi wr => ∃ (k : Nat), k ≤ ms.length ∧ vi = .int .i64 k ∧ Hid (Below w2.heap.size w2 wr) ∧ Hid (∀ i, i < k → okMg b d (idsP ps) (ms.getD i mg0) = true)) (fun vi _ => ms.length - (intOf vi).toNat)
  case atStart => exact ⟨0, Nat.zero_le _, rfl, Below.refl _ _, fun i hi => by omega⟩
  case round =>
    obtain ⟨k, hk, rfl, HB, HOK⟩ := hrel
    have BX : Hid (B1 w wr #[.int .i64 b, .int .i64 d, .slice ap ps.length cp, .int .i64 ttl, .slice am ms.length cm, .slice ag gs.length cg, .slice ar rs.length cr] 36) := BX2.out.keep HB.out
    have HRr : Hid (NetAt wr ap am ag ar ps ms gs rs) := HR2.out.keep HB.out
    obtain ⟨q0, q1, q2, q3, q4, q5, q6⟩ := Wire.Bk.m7 BX.out.ka
    have qlt1 := BX.out.ka.lt
    by_cases hlt : k < ms.length
    · obtain ⟨bk, off, rfl⟩ := lsAt_form HRr.out.m (by show 0 < ms.length; omega)
      obtain ⟨hb1, ab, cb, hc, hrb, hn, hcb⟩ := msAt_cell HRr.out.m hlt
      obtain ⟨c0, c1, c2, c3, c4, c5, c6, c7, c8⟩ := hc.m9
      have HNO : Hid (okMg b d (idsP ps) (ms.getD k mg0) = false → goodN b d ttl ps ms gs rs = false) := goodN_m hlt
      have HY : Hid (okMg b d (idsP ps) (ms.getD k mg0) = true → ∀ i, i < k + 1 → okMg b d (idsP ps) (ms.getD i mg0) = true) := fun h i hi => by
        by_cases he : i = k
        · subst he; exact h
        · exact HOK.out i (by omega)
      have HML : Hid ((ms.getD k mg0).l.length ≤ 1048576) := by have := lsum_mem hlt; have := HBG.out.m; unfold Hid; omega
      clear hc hcb hn
      generalize ms.getD k mg0 = p at c0 c1 c2 c3 c4 c5 c6 c7 c8 hrb HML HNO HY
      obtain ⟨x0, x1, x2, x3, x4, x5, x6, x7, l⟩ := p
      have HRB : Hid (RowAt wr ab l) := hrb
      clear hrb
      have CW := isOnWay_any b d w.heap.size ap cp ps bk (off + k * 9) x0 x1 x2 x3 x4 x5 x6 x7 ab cb l wr RR.out qlt1 hb1 q0 q1 q2 HRr.out.p c0 c1 c2 c3 c4 c5 c6 c7 c8 HRB.out HML.out
      go_wp2_with fail
      refine CW.mono ?_
      rintro e w3 ⟨rfl, HW⟩
      cases h1 : okMg b d (idsP ps) ⟨x0, x1, x2, x3, x4, x5, x6, x7, l⟩
      · have HV : Hid (goodN b d ttl ps ms gs rs = false) := HNO.out h1
        clear h1 HNO HY CW
        go_wp2
        go_ret
        exact ⟨ret_bool HV.out.symm, belt BX.out.bel HW⟩
      have HOK2 := HY.out h1
      have HOK2 : Hid (∀ i, i < k + 1 → okMg b d (idsP ps) (ms.getD i mg0) = true) := HOK2
      have HB3 : Hid (Below w2.heap.size w2 w3) := belt HB.out HW
      clear h1 HNO HY HW CW HOK
      go_wp2_with fail
      go_roundw
      case rel => exact ⟨k + 1, by omega, by go_num, HB3, HOK2⟩
      case measure => simp [intOf]; omega
    · have hke : k = ms.length := by omega
      subst hke
      have HV : Hid (goodN b d ttl ps ms gs rs = appB gs (lkL ms rs)) := goodN_end HG.out HT.out HE.out hL HOK.out
      have HMB : Hid (∀ x, memI gs x = hasB gs x) := memI_begun HE2.out.1 HE2.out.2
      clear q0 q1 q2 q3 q4 q5 q6
      go_wp2_with fail
      have BXa : B1 w wr.drew #[.int .i64 b, .int .i64 d, .slice ap ps.length cp, .int .i64 ttl, .slice am ms.length cm, .slice ag gs.length cg, .slice ar rs.length cr] 36 := BX.out.keep ((Below.refl _ _).drew)
      have HRa : NetAt wr.drew ap am ag ar ps ms gs rs := HRr.out.keep ((Below.refl _ _).drew)
      go_region_held (fun w' => w'.cell? ⟨w.heap.size, 5, none⟩ = some (.slice ag gs.length cg)) (with_reducible (first | exact (Wire.Bk.m7 BXa.ka).2.2.2.2.2.1 | exact (Wire.Bk.m7 BXb.ka).2.2.2.2.2.1 | exact (Wire.Bk.m7 BXc.ka).2.2.2.2.2.1)) (first
        | (go_at_call 53; refine (looksInPlaces_any w.heap.size am ar cm cr ms rs _ hml hrl BXa.ka.lt (Wire.Bk.m7 BXa.ka).2.2.2.2.1 (Wire.Bk.m7 BXa.ka).2.2.2.2.2.2 HRa.m HRa.r).mono ?_; rintro e wd ⟨vL, rfl, hown, hwd⟩; obtain ⟨aL, cL, rfl, hcL, hrow⟩ := own_rowAt hown; have BXb : B1 w wd #[.int .i64 b, .int .i64 d, .slice ap ps.length cp, .int .i64 ttl, .slice am ms.length cm, .slice ag gs.length cg, .slice ar rs.length cr] 36 := BXa.keep hwd; have HRb : NetAt wd ap am ag ar ps ms gs rs := HRa.keep hwd)
        | (go_at_call 52; refine (areApart_any ag aL cg cL gs (lkL ms rs) _ (by unfold maxLen; omega) (by rw [lkL_len]; omega) hcL HRb.g hrow HMB.out).mono ?_; rintro e we ⟨rfl, he⟩; have BXc : B1 w we #[.int .i64 b, .int .i64 d, .slice ap ps.length cp, .int .i64 ttl, .slice am ms.length cm, .slice ag gs.length cg, .slice ar rs.length cr] 36 := by rw [he]; exact BXb))
      clear hown
      go_wp2
      go_ret
      exact ⟨ret_bool HV.out.symm, BXb.bel⟩
end Go.Proofs.Ytioiacmaijgdoaa
namespace Go.Proofs.Ytioiacmaijgdoaa
open Go.RowKit
set_option linter.unusedVariables false
theorem GoodNet_own (b d ttl : Int) (ap am ag ar : Option Addr) (cp cm cg cr : Nat) (ps : List Pr) (ms : List Mg) (gs : List Int) (rs : List Rp) (w : World) (hb : BigN ps ms gs rs) (hr : NetAt w ap am ag ar ps ms gs rs) :
    Calls Try.prog 18 #[.agg #[.int .i64 b, .int .i64 d, .slice ap ps.length cp, .int .i64 ttl, .slice am ms.length cm, .slice ag gs.length cg, .slice ar rs.length cr]] w fun e w' => e = .returned (.bool (goodN b d ttl ps ms gs rs)) ∧ Below w.heap.size w w' := GoodNet_any b d ttl ap am ag ar cp cm cg cr ps ms gs rs w hb hr
theorem lGoodNet_own (b d ttl : Int) (ap am ag ar : Option Addr) (cp cm cg cr : Nat) (ps : List Pr) (ms : List Mg) (gs : List Int) (rs : List Rp) (w : World) (hb : BigN ps ms gs rs) (hr : NetAt w ap am ag ar ps ms gs rs) :
    Calls Try.prog 16 #[.agg #[.int .i64 b, .int .i64 d, .slice ap ps.length cp, .int .i64 ttl, .slice am ms.length cm, .slice ag gs.length cg, .slice ar rs.length cr]] w fun e w' => e = .returned (.bool (goodN b d ttl ps ms gs rs)) ∧ Below w.heap.size w w' := by
  go_enter Try.func16, Try.ntmps16
  go_wp2_with fail
  refine (lgoodN_any b d ttl ap am ag ar cp cm cg cr ps ms gs rs _ hb (hr.keep (belA _ _))).mono ?_
  rintro e w1 ⟨rfl, HW⟩
  go_wp2
  go_ret
  exact ⟨rfl, belt (belA _ _) HW⟩
end Go.Proofs.Ytioiacmaijgdoaa
namespace Go.Proofs.Ytioiacmaijgdoaa
open Go.RowKit Go.Deep
set_option linter.unusedVariables false
set_option linter.unusedSimpArgs false
theorem ret_sb {v : Value} {g g' : Bool} (h : g = g') : Ending.returned (.tuple #[v, .bool g]) = Ending.returned (.tuple #[v, .bool g']) := by rw [h]
set_option maxRecDepth 100000 in
set_option maxHeartbeats 6400000 in
theorem LostLooks_own (b d ttl : Int) (ap am ag ar : Option Addr) (cp cm cg cr : Nat) (ps : List Pr) (ms : List Mg) (gs : List Int) (rs : List Rp) (w : World) (hb : BigN ps ms gs rs) (hr : NetAt w ap am ag ar ps ms gs rs) :
    Calls Try.prog 20 #[.agg #[.int .i64 b, .int .i64 d, .slice ap ps.length cp, .int .i64 ttl, .slice am ms.length cm, .slice ag gs.length cg, .slice ar rs.length cr]] w fun e w' => ∃ a n c, e = .returned (.tuple #[.slice a n c, .bool (goodN b d ttl ps ms gs rs)]) ∧ (lostL b d ttl ps ms gs rs).length = n ∧ OwnLs w.heap.size w'.heap.size w' a n (lostL b d ttl ps ms gs rs) ∧ Below w.heap.size w w' := by
  obtain ⟨i0, hi, hz0, hz1, hz2⟩ := info_parts'
  have HR : Hid (NetAt w ap am ag ar ps ms gs rs) := hr
  have hml : ms.length ≤ 1048576 := by have := hb.m; omega
  have hgl : gs.length ≤ 1048576 := hb.g
  have hrl : rs.length ≤ 1048576 := hb.r
  have CG := GoodNet_own b d ttl ap am ag ar cp cm cg cr ps ms gs rs _ hb (hr.keep (belA w (.cells #[.int .i64 b, .int .i64 d, .slice ap ps.length cp, .int .i64 ttl, .slice am ms.length cm, .slice ag gs.length cg, .slice ar rs.length cr] 36)))
  clear hr hb
  go_enter Try.func20, Try.ntmps20
  go_wp2_with fail
  refine CG.mono ?_
  rintro e w1 ⟨rfl, HW⟩
  have BX1 : Hid (B1 w w1 #[.int .i64 b, .int .i64 d, .slice ap ps.length cp, .int .i64 ttl, .slice am ms.length cm, .slice ag gs.length cg, .slice ar rs.length cr] 36) := (b10 w _ _).keep HW
  clear HW CG
  cases hG : goodN b d ttl ps ms gs rs
  · have HV : Hid (lostL b d ttl ps ms gs rs = []) := by unfold Hid lostL; rw [hG]; rfl
    have HGG : Hid (goodN b d ttl ps ms gs rs = false) := hG
    clear hG
    go_wp2
    go_ret2
    exact ⟨none, 0, 0, ret_sb HGG.out.symm, by rw [HV.out]; rfl, by rw [HV.out]; exact ownLs_nil _ _ _ _, BX1.out.bel⟩
  have HV : Hid (lostL b d ttl ps ms gs rs = gs.filter (lostP (lkL ms rs))) := by unfold Hid lostL; rw [if_pos hG]
  have HGG : Hid (goodN b d ttl ps ms gs rs = true) := hG
  clear hG
  obtain ⟨q0, q1, q2, q3, q4, q5, q6⟩ := Wire.Bk.m7 BX1.out.ka
  have qlt := BX1.out.ka.lt
  go_wp2_with fail
  refine (looksInPlaces_any w.heap.size am ar cm cr ms rs _ hml hrl qlt q4 q6 (HR.out.keep BX1.out.bel).m (HR.out.keep BX1.out.bel).r).mono ?_
  rintro e w2 ⟨vL, rfl, hown, HW⟩
  obtain ⟨aL, cL, rfl, hcL, hrow⟩ := own_rowAt hown
  have BX2 : Hid (B1 w w2 #[.int .i64 b, .int .i64 d, .slice ap ps.length cp, .int .i64 ttl, .slice am ms.length cm, .slice ag gs.length cg, .slice ar rs.length cr] 36) := BX1.out.keep HW
  have HL2 : Hid (RowAt w2 aL (lkL ms rs)) := hrow
  have HGS : Hid (RowAt w2 ag gs) := (HR.out.keep BX2.out.bel).g
  clear HW hrow hown BX1 q0 q1 q2 q3 q4 q5 q6 qlt HR
  have hll : Hid ((lkL ms rs).length = ms.length + rs.length) := lkL_len ms rs
  obtain ⟨L, hL⟩ : ∃ L, L = lkL ms rs := ⟨_, rfl⟩
  rw [← hL] at HL2 hcL hll HV
  rw [← hL]
  clear hL
  obtain ⟨q0, q1, q2, q3, q4, q5, q6⟩ := Wire.Bk.m7 BX2.out.ka
  have qlt := BX2.out.ka.lt
  go_wp2_with fail
  clear q0 q1 q2 q3 q4 q5 q6
  go_loopw [5, 15] (fun vs vi wr => ∃ (vo : Value) (k : Nat), vs = vo ∧ k ≤ gs.length ∧ vi = .int .i64 k ∧ Hid (wr.ownsRow w2.heap.size 3 1 vo ((gs.take k).filter (lostP L)).length (((gs.take k).filter (lostP L)).map (Value.int .i64))) ∧ Hid (Below w2.heap.size w2 wr)) (fun _ vi _ => gs.length - (intOf vi).toNat)
  case atStart => exact ⟨_, 0, rfl, Nat.zero_le _, rfl, World.ownsRow_nil _ _ _ _, Below.refl _ _⟩
  case round =>
    obtain ⟨vo, k, hvo, hk, rfl, HO, HB⟩ := hrel
    have hvo := hvo.symm
    subst hvo
    by_cases hlt : k < gs.length
    · have HGr : Hid (RowAt wr ag gs) := HGS.out.keep HB.out
      obtain ⟨bk, off, rfl⟩ := rowAt_form HGr.out (by omega)
      have hc := (rowAt_cell HGr.out (by omega)).2 k hlt
      have HST : Hid ((gs.take (k + 1)).filter (lostP L) = (gs.take k).filter (lostP L) ++ (if lostP L (gs.getD k 0) = true then [gs.getD k 0] else [])) := filter_step _ hlt
      have hle : ((gs.take k).filter (lostP L)).length ≤ 1048576 := Nat.le_trans (List.length_filter_le _ _) (by rw [List.length_take]; omega)
      obtain ⟨T, hT⟩ : ∃ T, T = (gs.take k).filter (lostP L) := ⟨_, rfl⟩
      rw [← hT] at HO HST hle
      clear hT
      generalize gs.getD k 0 = x at hc HST
      go_wp2_with fail
      refine (slContains_any aL cL L.length L x _ rfl (by have := hll.out; unfold maxLen; omega) (HL2.out.keep HB.out)).mono ?_
      rintro e wx ⟨rfl, hx⟩
      have hx' := hx.symm
      subst hx'
      clear hx
      cases h1 : hasB L x
      · have HT2 : Hid ((gs.take (k + 1)).filter (lostP L) = T ++ [x]) := by rw [Hid, HST.out, if_pos (by unfold lostP; rw [h1]; rfl)]
        clear h1 HST
        go_wp2_with (at_builtin; refine wpList_append_own _ rfl (.tmp 23) (.tmp 25) 33 rfl w2.heap.size 3 i0 (.int .i64 0) 1 8 Try.underlying33 hi hz0 hz1 hz2 rfl (by decide) _ _ _ rfl (HO.out.alloc _) ⟨wr.heap.size, 0, none⟩ 1 1 [.int .i64 x] rfl rfl (cell_one_new _ _ _) (by simp [Value.oneCell']) (by unfold maxLen; omega) (by omega) (alloc_size HB.out) ?_; intro v5 w5 hown5 hgrow5 _; have HB5 : Hid (Below w2.heap.size w2 w5) := grown_bel (HB.out.alloc HB.out.size _) hgrow5 (alloc_size HB.out) (fun k hk => (HO.out.lt k hk).1); have HO5 : Hid (w5.ownsRow w2.heap.size 3 1 v5 ((gs.take (k + 1)).filter (lostP L)).length (((gs.take (k + 1)).filter (lostP L)).map (Value.int .i64))) := own_snoc HT2.out hown5; clear hown5 hgrow5)
        go_roundw
        case rel => exact ⟨_, k + 1, rfl, by omega, by go_num, HO5, HB5⟩
        case measure => simp [intOf]; omega
      · have HT2 : Hid ((gs.take (k + 1)).filter (lostP L) = T) := by rw [Hid, HST.out, if_neg (by unfold lostP; rw [h1]; simp), List.append_nil]
        have HO2 : Hid (wr.ownsRow w2.heap.size 3 1 vo ((gs.take (k + 1)).filter (lostP L)).length (((gs.take (k + 1)).filter (lostP L)).map (Value.int .i64))) := by rw [HT2.out]; exact HO
        clear h1 HST
        go_wp2
        go_roundw
        case rel => exact ⟨_, k + 1, rfl, by omega, by go_num, HO2, HB⟩
        case measure => simp [intOf]; omega
    · have hke : k = gs.length := by omega
      subst hke
      have HF : Hid ((gs.take gs.length).filter (lostP L) = lostL b d ttl ps ms gs rs) := by rw [Hid, HV.out, List.take_of_length_le (Nat.le_refl _)]
      have HO2 := HO.out
      rw [HF.out] at HO2
      obtain ⟨aR, cR, rfl, hls⟩ := own_ls (Joins.ownsRow_le HO2 BX2.out.bel.size)
      have HLS : Hid (OwnLs w.heap.size wr.heap.size wr aR (lostL b d ttl ps ms gs rs).length (lostL b d ttl ps ms gs rs)) := hls
      have HBE : Hid (Below w.heap.size w wr) := BX2.out.bel.trans (HB.out.mono BX2.out.bel.size)
      clear HO2 hls HO HF
      go_wp2
      go_ret2
      exact ⟨_, _, _, ret_sb HGG.out.symm, rfl, HLS.out, HBE.out⟩
def opnL (b d ttl : Int) (ps : List Pr) (ms : List Mg) (gs : List Int) (rs : List Rp) : List Int := if goodN b d ttl ps ms gs rs = true then putL [] (lkM ms) else []
theorem putL_nil_v {L : List Int} (h : putL [] L = []) : L = [] := by
  cases L with
  | nil => rfl
  | cons x L =>
    have : (x :: L) = (x :: L).dropLast ++ [(x :: L).getLast (by simp)] := (List.dropLast_concat_getLast (by simp)).symm
    rw [this, putL_snoc] at h
    exact absurd h (putI_len _ _).2
set_option maxRecDepth 100000 in
set_option maxHeartbeats 6400000 in
theorem lOpenLooks_any (b d ttl : Int) (ap am ag ar : Option Addr) (cp cm cg cr : Nat) (ps : List Pr) (ms : List Mg) (gs : List Int) (rs : List Rp) (w : World) (hb : BigN ps ms gs rs) (hr : NetAt w ap am ag ar ps ms gs rs) :
    Calls Try.prog 54 #[.agg #[.int .i64 b, .int .i64 d, .slice ap ps.length cp, .int .i64 ttl, .slice am ms.length cm, .slice ag gs.length cg, .slice ar rs.length cr]] w fun e w' => ∃ v, e = .returned (.tuple #[v, .bool (goodN b d ttl ps ms gs rs)]) ∧ OwnM w.heap.size w' v (opnL b d ttl ps ms gs rs) ∧ (opnL b d ttl ps ms gs rs = [] → v = .slice none 0 0) ∧ Below w.heap.size w w' := by
  have HR : Hid (NetAt w ap am ag ar ps ms gs rs) := hr
  have hml : ms.length ≤ 1048576 := by have := hb.m; omega
  have CG := lgoodN_any b d ttl ap am ag ar cp cm cg cr ps ms gs rs _ hb (hr.keep (belA w (.cells #[.int .i64 b, .int .i64 d, .slice ap ps.length cp, .int .i64 ttl, .slice am ms.length cm, .slice ag gs.length cg, .slice ar rs.length cr] 36)))
  clear hr hb
  go_enter Try.func54, Try.ntmps54
  go_wp2_with fail
  refine CG.mono ?_
  rintro e w1 ⟨rfl, HW⟩
  have BX1 : Hid (B1 w w1 #[.int .i64 b, .int .i64 d, .slice ap ps.length cp, .int .i64 ttl, .slice am ms.length cm, .slice ag gs.length cg, .slice ar rs.length cr] 36) := (b10 w _ _).keep HW
  clear HW CG
  cases hG : goodN b d ttl ps ms gs rs
  · have HV : Hid (opnL b d ttl ps ms gs rs = []) := by unfold Hid opnL; rw [hG]; rfl
    have HGG : Hid (goodN b d ttl ps ms gs rs = false) := hG
    clear hG
    go_wp2
    go_ret2
    exact ⟨_, ret_sb HGG.out.symm, by rw [HV.out]; exact World.ownsRow_nil _ _ _ _, fun _ => rfl, BX1.out.bel⟩
  have HV : Hid (opnL b d ttl ps ms gs rs = putL [] (lkM ms)) := by unfold Hid opnL; rw [if_pos hG]
  have HGG : Hid (goodN b d ttl ps ms gs rs = true) := hG
  have hm12 : ms.length ≤ 12 := by have := goodN_len hG; omega
  clear hG
  obtain ⟨q0, q1, q2, q3, q4, q5, q6⟩ := Wire.Bk.m7 BX1.out.ka
  have qlt := BX1.out.ka.lt
  have HM1 : Hid (LsAt tyMg w1 am ms) := (HR.out.keep BX1.out.bel).m
  go_wp2_with fail
  clear q0 q1 q2 q3 q4 q5 q6
  go_loopw [4, 13] (fun vs vi wr => ∃ (vo : Value) (k : Nat), vs = vo ∧ k ≤ ms.length ∧ vi = .int .i64 k ∧ Hid (OwnM w1.heap.size wr vo (putL [] ((lkM ms).take k))) ∧ Hid (putL [] ((lkM ms).take k) = [] → vo = .slice none 0 0) ∧ Hid (Below w1.heap.size w1 wr)) (fun _ vi _ => ms.length - (intOf vi).toNat)
  case atStart => exact ⟨_, 0, rfl, Nat.zero_le _, rfl, World.ownsRow_nil _ _ _ _, fun _ => rfl, Below.refl _ _⟩
  case round =>
    obtain ⟨vo, k, hvo, hk, rfl, HO, HN, HB⟩ := hrel
    have hvo := hvo.symm
    subst hvo
    by_cases hlt : k < ms.length
    · have HMr : Hid (LsAt tyMg wr am ms) := HM1.out.keep HB.out
      obtain ⟨bk, off, rfl⟩ := lsAt_form HMr.out (by show 0 < ms.length; omega)
      obtain ⟨hb1, ab, cb, hc, _⟩ := msAt_cell HMr.out hlt
      obtain ⟨c0, c1, c2, c3, c4, c5, c6, c7, c8⟩ := hc.m9
      have HTK : Hid (putL [] ((lkM ms).take (k + 1)) = putI (putL [] ((lkM ms).take k)) (ms.getD k mg0).x1) := by rw [Hid, take_snoc (by rw [lkM_len]; exact hlt), putL_snoc, lkM_get hlt]
      have hle : (putL [] ((lkM ms).take k)).length ≤ 16 := by have := putL_len ((lkM ms).take k) []; rw [List.length_take, lkM_len] at this; simp at this; omega
      obtain ⟨T, hT⟩ : ∃ T, T = putL [] ((lkM ms).take k) := ⟨_, rfl⟩
      rw [← hT] at HO HN HTK hle
      clear hc hT
      generalize ms.getD k mg0 = p at c0 c1 c2 c3 c4 c5 c6 c7 c8 HTK
      obtain ⟨x0, x1, x2, x3, x4, x5, x6, x7, l⟩ := p
      have HTK : Hid (putL [] ((lkM ms).take (k + 1)) = putI T x1) := HTK
      go_wp2_with fail
      refine (lputP_any w1.heap.size vo T x1 _ (World.ownsRow.alloc HO.out _) HN.out hle (by have := HB.out.size; simp; omega)).mono ?_
      rintro e w3 ⟨v', rfl, ho, HW⟩
      have HO3 : Hid (OwnM w1.heap.size w3 v' (putL [] ((lkM ms).take (k + 1)))) := by rw [HTK.out]; exact ho
      have HN3 : Hid (putL [] ((lkM ms).take (k + 1)) = [] → v' = .slice none 0 0) := fun h => by rw [HTK.out] at h; exact absurd h (putI_len _ _).2
      have HB3 : Hid (Below w1.heap.size w1 w3) := belt HB.out (belt (belA _ _) HW)
      clear ho HW
      go_wp2_with fail
      go_roundw
      case rel => exact ⟨_, k + 1, rfl, by omega, by go_num, HO3, HN3, HB3⟩
      case measure => simp [intOf]; omega
    · have hke : k = ms.length := by omega
      subst hke
      have HF : Hid (putL [] ((lkM ms).take ms.length) = opnL b d ttl ps ms gs rs) := by rw [Hid, HV.out, List.take_of_length_le (by rw [lkM_len]; exact Nat.le_refl _)]
      have HO2 := HO.out
      have HN2 := HN.out
      rw [HF.out] at HO2 HN2
      have HO3 : Hid (OwnM w.heap.size wr vo (opnL b d ttl ps ms gs rs)) := HO2.mono BX1.out.bel.size
      have HN3 : Hid (opnL b d ttl ps ms gs rs = [] → vo = .slice none 0 0) := HN2
      have HBE : Hid (Below w.heap.size w wr) := BX1.out.bel.trans (HB.out.mono BX1.out.bel.size)
      clear HO2 HN2 HO HN HF
      go_wp2
      go_ret2
      exact ⟨_, ret_sb HGG.out.symm, HO3.out, HN3.out, HBE.out⟩
set_option maxRecDepth 100000 in
set_option maxHeartbeats 6400000 in
theorem lLostLooks_own (b d ttl : Int) (ap am ag ar : Option Addr) (cp cm cg cr : Nat) (ps : List Pr) (ms : List Mg) (gs : List Int) (rs : List Rp) (w : World) (hb : BigN ps ms gs rs) (hr : NetAt w ap am ag ar ps ms gs rs) :
    Calls Try.prog 19 #[.agg #[.int .i64 b, .int .i64 d, .slice ap ps.length cp, .int .i64 ttl, .slice am ms.length cm, .slice ag gs.length cg, .slice ar rs.length cr]] w fun e w' => ∃ a n c, e = .returned (.tuple #[.slice a n c, .bool (goodN b d ttl ps ms gs rs)]) ∧ (lostL b d ttl ps ms gs rs).length = n ∧ RowAt w' a (lostL b d ttl ps ms gs rs) ∧ Below w.heap.size w w' := by
  obtain ⟨i0, hi, hz0, hz1, hz2⟩ := info_parts'
  have HR : Hid (NetAt w ap am ag ar ps ms gs rs) := hr
  have hgl : gs.length ≤ 1048576 := hb.g
  have CG := lOpenLooks_any b d ttl ap am ag ar cp cm cg cr ps ms gs rs _ hb (hr.keep (belA w (.cells #[.int .i64 b, .int .i64 d, .slice ap ps.length cp, .int .i64 ttl, .slice am ms.length cm, .slice ag gs.length cg, .slice ar rs.length cr] 36)))
  clear hr hb
  go_enter Try.func19, Try.ntmps19
  go_wp2_with fail
  refine CG.mono ?_
  rintro e w1 ⟨v1, rfl, hom, hnm, HW⟩
  have BX1 : Hid (B1 w w1 #[.int .i64 b, .int .i64 d, .slice ap ps.length cp, .int .i64 ttl, .slice am ms.length cm, .slice ag gs.length cg, .slice ar rs.length cr] 36) := (b10 w _ _).keep HW
  cases hG : goodN b d ttl ps ms gs rs
  · have HV : Hid (lostL b d ttl ps ms gs rs = []) := by unfold Hid lostL; rw [hG]; rfl
    have HGG : Hid (goodN b d ttl ps ms gs rs = false) := hG
    clear hG HW CG hom hnm
    go_wp2
    go_ret2
    exact ⟨none, 0, 0, ret_sb HGG.out.symm, by rw [HV.out]; rfl, by rw [HV.out]; exact .inl rfl, BX1.out.bel⟩
  have HV : Hid (lostL b d ttl ps ms gs rs = gs.filter (lostP (lkL ms rs))) := by unfold Hid lostL; rw [if_pos hG]
  have HGG : Hid (goodN b d ttl ps ms gs rs = true) := hG
  have HOP : Hid (opnL b d ttl ps ms gs rs = putL [] (lkM ms)) := by unfold Hid opnL; rw [if_pos hG]
  have hm12 : ms.length + rs.length ≤ 12 := by have := goodN_len hG; omega
  have HO1 : Hid (OwnM (w.heap.size + 1) w1 v1 (putL [] (lkM ms ++ (lkR rs).take 0))) := by
    have h := hom
    rw [HOP.out] at h
    simp only [World.size_alloc] at h
    rw [List.take_zero, List.append_nil]
    exact h
  have HN1 : Hid (putL [] (lkM ms ++ (lkR rs).take 0) = [] → v1 = .slice none 0 0) := by
    have h := hnm
    rw [HOP.out] at h
    rw [List.take_zero, List.append_nil]
    exact h
  clear hG HW CG hom hnm
  obtain ⟨q0, q1, q2, q3, q4, q5, q6⟩ := Wire.Bk.m7 BX1.out.ka
  have qlt := BX1.out.ka.lt
  have HQ1 : Hid (LsAt tyRp w1 ar rs) := (HR.out.keep BX1.out.bel).r
  go_wp2_with fail
  clear q0 q1 q2 q3 q4 q5 q6
  go_loopw [4, 21] (fun vs vi wr => ∃ (vo : Value) (k : Nat), vs = vo ∧ k ≤ rs.length ∧ vi = .int .i64 k ∧ Hid (OwnM (w.heap.size + 1) wr vo (putL [] (lkM ms ++ (lkR rs).take k))) ∧ Hid (putL [] (lkM ms ++ (lkR rs).take k) = [] → vo = .slice none 0 0) ∧ Hid (Below w1.heap.size w1 wr)) (fun _ vi _ => rs.length - (intOf vi).toNat)
  case atStart => exact ⟨_, 0, rfl, Nat.zero_le _, rfl, HO1, HN1, Below.refl _ _⟩
  case round =>
    clear HO1 HN1
    obtain ⟨vo, k, hvo, hk, rfl, HO, HN, HB⟩ := hrel
    have hvo := hvo.symm
    subst hvo
    have BX : Hid (B1 w wr #[.int .i64 b, .int .i64 d, .slice ap ps.length cp, .int .i64 ttl, .slice am ms.length cm, .slice ag gs.length cg, .slice ar rs.length cr] 36) := BX1.out.keep HB.out
    obtain ⟨q0, q1, q2, q3, q4, q5, q6⟩ := Wire.Bk.m7 BX.out.ka
    have qltr := BX.out.ka.lt
    by_cases hlt : k < rs.length
    · have HMr : Hid (LsAt tyRp wr ar rs) := HQ1.out.keep HB.out
      obtain ⟨bk, off, rfl⟩ := lsAt_form HMr.out (by show 0 < rs.length; omega)
      obtain ⟨hb1, hc⟩ := rsAt_cell HMr.out hlt
      obtain ⟨c0, c1, c2, c3, c4⟩ := hc.r5
      have HTK : Hid (putL [] (lkM ms ++ (lkR rs).take (k + 1)) = putI (putL [] (lkM ms ++ (lkR rs).take k)) (rs.getD k rp0).x0) := by rw [Hid, take_snoc (by rw [lkR_len]; exact hlt), ← List.append_assoc, putL_snoc, lkR_get hlt]
      have hle : (putL [] (lkM ms ++ (lkR rs).take k)).length ≤ 16 := by have := putL_len (lkM ms ++ (lkR rs).take k) []; rw [List.length_append, List.length_take, lkM_len, lkR_len] at this; simp at this; omega
      obtain ⟨T, hT⟩ : ∃ T, T = putL [] (lkM ms ++ (lkR rs).take k) := ⟨_, rfl⟩
      rw [← hT] at HO HN HTK hle
      clear hc hT
      generalize rs.getD k rp0 = p at c0 c1 c2 c3 c4 HTK
      obtain ⟨x0, x1, x2, x3, bb⟩ := p
      have HTK : Hid (putL [] (lkM ms ++ (lkR rs).take (k + 1)) = putI T x0) := HTK
      go_wp2_with fail
      refine (lputP_any (w.heap.size + 1) vo T x0 _ (World.ownsRow.alloc HO.out _) HN.out hle (by simp; omega)).mono ?_
      rintro e w3 ⟨v', rfl, ho, HW⟩
      have HO3 : Hid (OwnM (w.heap.size + 1) w3 v' (putL [] (lkM ms ++ (lkR rs).take (k + 1)))) := by rw [HTK.out]; exact ho
      have HN3 : Hid (putL [] (lkM ms ++ (lkR rs).take (k + 1)) = [] → v' = .slice none 0 0) := fun h => by rw [HTK.out] at h; exact absurd h (putI_len _ _).2
      have HB3 : Hid (Below w1.heap.size w1 w3) := belt HB.out (belt (belA _ _) HW)
      clear ho HW
      go_wp2_with fail
      go_roundw
      case rel => exact ⟨_, k + 1, rfl, by omega, by go_num, HO3, HN3, HB3⟩
      case measure => simp [intOf]; omega
    · have hke : k = rs.length := by omega
      subst hke
      have HTE : Hid (lkM ms ++ (lkR rs).take rs.length = lkL ms rs) := by rw [Hid, List.take_of_length_le (by rw [lkR_len]; exact Nat.le_refl _)]; rfl
      rw [HTE.out] at HO HN
      obtain ⟨T, hT⟩ : ∃ T, T = putL [] (lkL ms rs) := ⟨_, rfl⟩
      have HHB : Hid (∀ x, hasB T x = hasB (lkL ms rs) x) := fun x => by
        rw [hT, Bool.eq_iff_iff, hasB_mem, hasB_mem, putL_mem _ inc_nil]
        simp
      have hle : T.length ≤ 16 := by rw [hT]; have := putL_len (lkL ms rs) []; rw [lkL_len] at this; simp at this; omega
      rw [← hT] at HO
      obtain ⟨aT, cT, rfl, hcT, hrow⟩ := own_rowAt HO.out
      have HRT : Hid (RowAt wr aT T) := hrow
      have HGS : Hid (RowAt wr ag gs) := (HR.out.keep BX.out.bel).g
      obtain ⟨L, hL⟩ : ∃ L, L = lkL ms rs := ⟨_, rfl⟩
      rw [← hL] at HV HHB
      clear hT hrow HO HN HTE hL
      obtain ⟨wb, rfl⟩ : ∃ wb : World, wb = wr := ⟨_, rfl⟩
      go_wp2_with fail
      clear q0 q1 q2 q3 q4 q5 q6
      go_loopw [8, 33] (fun vs vi w' => ∃ (vo : Value) (j : Nat), vs = vo ∧ j ≤ gs.length ∧ vi = .int .i64 j ∧ Hid (w'.ownsRow wb.heap.size 3 1 vo ((gs.take j).filter (lostP L)).length (((gs.take j).filter (lostP L)).map (Value.int .i64))) ∧ Hid (Below wb.heap.size wb w')) (fun _ vi _ => gs.length - (intOf vi).toNat)
      case atStart => exact ⟨_, 0, rfl, Nat.zero_le _, rfl, World.ownsRow_nil _ _ _ _, Below.refl _ _⟩
      case round =>
        obtain ⟨vo, j, hvo, hj, rfl, HO, HC⟩ := hrel
        have hvo := hvo.symm
        subst hvo
        by_cases hlt : j < gs.length
        · have HGr : Hid (RowAt wr ag gs) := HGS.out.keep HC.out
          obtain ⟨bk, off, rfl⟩ := rowAt_form HGr.out (by omega)
          have hc := (rowAt_cell HGr.out (by omega)).2 j hlt
          have HST : Hid ((gs.take (j + 1)).filter (lostP L) = (gs.take j).filter (lostP L) ++ (if lostP L (gs.getD j 0) = true then [gs.getD j 0] else [])) := filter_step _ hlt
          have hle2 : ((gs.take j).filter (lostP L)).length ≤ 1048576 := Nat.le_trans (List.length_filter_le _ _) (by rw [List.length_take]; omega)
          obtain ⟨F, hF⟩ : ∃ F, F = (gs.take j).filter (lostP L) := ⟨_, rfl⟩
          rw [← hF] at HO HST hle2
          clear hF
          generalize gs.getD j 0 = x at hc HST
          have CH := lhasN aT cT T.length T x _ rfl (by unfold maxLen; omega) (HRT.out.keep HC.out)
          rw [HHB.out x] at CH
          go_wp2_with fail
          refine CH.mono ?_
          rintro e wx ⟨rfl, hx⟩
          have hx' := hx.symm
          subst hx'
          clear hx CH
          cases h1 : hasB L x
          · have HT2 : Hid ((gs.take (j + 1)).filter (lostP L) = F ++ [x]) := by rw [Hid, HST.out, if_pos (by unfold lostP; rw [h1]; rfl)]
            clear h1 HST
            go_wp2_with (at_builtin; refine wpList_append_own _ rfl (.tmp 41) (.tmp 43) 33 rfl wb.heap.size 3 i0 (.int .i64 0) 1 8 Try.underlying33 hi hz0 hz1 hz2 rfl (by decide) _ _ _ rfl (HO.out.alloc _) ⟨_, 0, none⟩ 1 1 [.int .i64 x] rfl rfl (cell_one_new _ _ _) (by simp [Value.oneCell']) (by unfold maxLen; omega) (by omega) (alloc_size HC.out) ?_; intro v5 w5 hown5 hgrow5 _; have HB5 : Hid (Below wb.heap.size wb w5) := grown_bel (HC.out.alloc HC.out.size _) hgrow5 (alloc_size HC.out) (fun k hk => (HO.out.lt k hk).1); have HO5 : Hid (w5.ownsRow wb.heap.size 3 1 v5 ((gs.take (j + 1)).filter (lostP L)).length (((gs.take (j + 1)).filter (lostP L)).map (Value.int .i64))) := own_snoc HT2.out hown5; clear hown5 hgrow5)
            go_roundw
            case rel => exact ⟨_, j + 1, rfl, by omega, by go_num, HO5, HB5⟩
            case measure => simp [intOf]; omega
          · have HT2 : Hid ((gs.take (j + 1)).filter (lostP L) = F) := by rw [Hid, HST.out, if_neg (by unfold lostP; rw [h1]; simp), List.append_nil]
            have HO2 : Hid (wr.ownsRow wb.heap.size 3 1 vo ((gs.take (j + 1)).filter (lostP L)).length (((gs.take (j + 1)).filter (lostP L)).map (Value.int .i64))) := by rw [HT2.out]; exact HO
            clear h1 HST
            go_wp2
            go_roundw
            case rel => exact ⟨_, j + 1, rfl, by omega, by go_num, HO2, HC⟩
            case measure => simp [intOf]; omega
        · have hke : j = gs.length := by omega
          subst hke
          have HF : Hid ((gs.take gs.length).filter (lostP L) = lostL b d ttl ps ms gs rs) := by rw [Hid, HV.out, List.take_of_length_le (Nat.le_refl _)]
          have HO2 := HO.out
          rw [HF.out] at HO2
          obtain ⟨aR, cR, rfl, _, hls⟩ := own_rowAt HO2
          have HLS : Hid (RowAt wr aR (lostL b d ttl ps ms gs rs)) := hls
          have HBE : Hid (Below w.heap.size w wr) := BX.out.bel.trans (HC.out.mono BX.out.bel.size)
          clear HO2 hls HO HF
          go_wp2
          go_ret2
          exact ⟨_, _, _, ret_sb HGG.out.symm, rfl, HLS.out, HBE.out⟩
end Go.Proofs.Ytioiacmaijgdoaa
namespace Go.Proofs.Ytioiacmaijgdoaa
open Go.RowKit Go.ChangeShapes Go.WideShapes Go.Deep
set_option linter.unusedVariables false
set_option linter.unusedSimpArgs false
section
variable {H : Type} {enc : TypeId × Value → H} {W : World} {base : Nat} {held : Bool}
theorem ls_of_trod (e : TyI) {ts te : TypeId} (hts : Try.prog.underlying ts = some (.slice te)) (hw : Try.prog.cellsOf te = e.wide) (hpos : 0 < e.wide)
    (hel : ∀ (fuel : Nat) (cs : List Value) (x : DataW H × List MemPlace), DataW.trod enc Try.prog W base (fun _ => true) held fuel te cs = some x → ∃ m, e.rep W cs m)
    {fuel : Nat} {a : Option Addr} {n cap : Nat} {x : DataW H × List MemPlace} (h : DataW.trod enc Try.prog W base (fun _ => true) held fuel ts [.slice a n cap] = some x) :
    ∃ ms : List e.den, ms.length = n ∧ n ≤ maxLen ∧ n ≤ cap ∧ LsAt e W a ms := by
  rcases open_slice hts h with ⟨hcs, _⟩ | ⟨⟨b, off, spot⟩, l, c, m, k, D, Pl, hcs, _, hl, hm, hmm, _, hx⟩
  · simp at hcs
    obtain ⟨rfl, rfl, rfl⟩ := hcs
    exact ⟨[], rfl, Nat.zero_le _, Nat.zero_le _, .inl rfl⟩
  · simp at hcs
    obtain ⟨rfl, rfl, rfl⟩ := hcs
    simp at hmm
    subst hmm
    by_cases h0 : n = 0
    · subst h0; exact ⟨[], rfl, Nat.zero_le _, Nat.zero_le _, .inl rfl⟩
    rw [hw] at hx
    have hs : spot = none := by
      obtain ⟨cs, h1, h2⟩ := hx 0 (by omega)
      obtain ⟨p, hp⟩ := hel _ _ _ h2
      have hlen := e.rep_len hp
      obtain ⟨_, _, hce⟩ := World.cells?_some h1
      have g0 := hce 0 hpos
      rw [List.getElem?_eq_getElem (by omega)] at g0
      simpa [Addr.add] using World.cell?_spot g0
    subst hs
    have key : ∀ i, i < n → ∃ p : e.den, b < W.heap.size ∧ ∃ ci, CellsAt W b (off + i * e.wide) ci ∧ e.rep W ci p := by
      intro i hi
      obtain ⟨cs, h1, h2⟩ := hx i (by omega)
      obtain ⟨p, hp⟩ := hel _ _ _ h2
      have hlen := e.rep_len hp
      obtain ⟨_, _, hce⟩ := World.cells?_some h1
      have at_ : ∀ j, j < e.wide → W.cell? ⟨b, off + i * e.wide + j, none⟩ = cs[j]? := fun j hj => by
        have g := hce j hj
        rw [add_add] at g
        rw [add_none'] at g
        rw [Nat.add_assoc]
        exact g
      have g0 := at_ 0 hpos
      rw [List.getElem?_eq_getElem (by omega)] at g0
      refine ⟨p, by simpa using block_lt_of_cell g0, cs, fun j v hj => ?_, hp⟩
      have hjl := (List.getElem?_eq_some_iff.1 hj).1
      exact (at_ j (by omega)).trans hj
    obtain ⟨f, hf⟩ := @choose_lt e.den ⟨e.dflt⟩ _ _ key
    obtain ⟨hb, _⟩ := hf 0 (by omega)
    refine ⟨(List.range n).map f, by simp, by omega, hl, .inr ⟨b, off, rfl, hb, fun i hi => ?_⟩⟩
    have hi' : i < n := by simpa using hi
    have := (hf i hi').2
    simpa [List.getD_eq_getElem?_getD, hi'] using this
theorem msg_of_trod {fuel : Nat} {cs : List Value} {x : DataW H × List MemPlace} (h : DataW.trod enc Try.prog W base (fun _ => true) held fuel 104 cs = some x) : ∃ m, tyMg.rep W cs m := by
  obtain ⟨xs, n, _, _, hl, hlen, hf⟩ := DataW.trod_struct Try.underlying104 h
  obtain ⟨c0, c1, c2, c3, c4, c5, c6, c7, c8, rfl⟩ := Wire.list9 (hl.trans Wire.cellsM)
  obtain ⟨x0, x1, x2, x3, x4, x5, x6, x7, x8, rfl⟩ := Wire.list9 (l := xs) hlen
  have g0 := hf 0 _ rfl
  have g1 := hf 1 _ rfl
  have g2 := hf 2 _ rfl
  have g3 := hf 3 _ rfl
  have g4 := hf 4 _ rfl
  have g5 := hf 5 _ rfl
  have g6 := hf 6 _ rfl
  have g7 := hf 7 _ rfl
  have g8 := hf 8 _ rfl
  simp [Value.cells, cellsI, cellsIs] at g0 g1 g2 g3 g4 g5 g6 g7 g8
  obtain ⟨a0, e0, _, _⟩ := DataW.trod_int Try.underlying3 g0
  obtain ⟨a1, e1, _, _⟩ := DataW.trod_int Try.underlying3 g1
  obtain ⟨a2, e2, _, _⟩ := DataW.trod_int Try.underlying3 g2
  obtain ⟨a3, e3, _, _⟩ := DataW.trod_int Try.underlying3 g3
  obtain ⟨a4, e4, _, _⟩ := DataW.trod_int Try.underlying3 g4
  obtain ⟨a5, e5, _, _⟩ := DataW.trod_int Try.underlying3 g5
  obtain ⟨a6, e6, _, _⟩ := DataW.trod_int Try.underlying3 g6
  obtain ⟨a7, e7, _, _⟩ := DataW.trod_int Try.underlying3 g7
  simp at e0 e1 e2 e3 e4 e5 e6 e7
  subst e0 e1 e2 e3 e4 e5 e6 e7
  obtain ⟨ab, nb, cb, rfl⟩ := slice_of_trod Try.underlying33 g8
  obtain ⟨ys, rfl, hm, hc, hr⟩ := ints_row g8
  exact ⟨⟨a0, a1, a2, a3, a4, a5, a6, a7, ys⟩, ab, cb, rfl, hr, hm, hc⟩
theorem list5 {α : Type} {l : List α} (h : l.length = 5) : ∃ c0 c1 c2 c3 c4, l = [c0, c1, c2, c3, c4] := by
  match l, h with
  | [c0, c1, c2, c3, c4], _ => exact ⟨c0, c1, c2, c3, c4, rfl⟩
theorem list7 {α : Type} {l : List α} (h : l.length = 7) : ∃ c0 c1 c2 c3 c4 c5 c6, l = [c0, c1, c2, c3, c4, c5, c6] := by
  match l, h with
  | [c0, c1, c2, c3, c4, c5, c6], _ => exact ⟨c0, c1, c2, c3, c4, c5, c6, rfl⟩
theorem array7 {α : Type} {cs : Array α} (h : cs.size = 7) : ∃ c0 c1 c2 c3 c4 c5 c6, cs = #[c0, c1, c2, c3, c4, c5, c6] := by
  obtain ⟨l⟩ := cs
  obtain ⟨c0, c1, c2, c3, c4, c5, c6, rfl⟩ := list7 (l := l) (by simpa using h)
  exact ⟨c0, c1, c2, c3, c4, c5, c6, rfl⟩
theorem cellsMs : Try.prog.cellsOf 45 = 1 := by kernel_rfl
theorem cellsRs : Try.prog.cellsOf 46 = 1 := by kernel_rfl
theorem cellsR : Try.prog.cellsOf 109 = 5 := by kernel_rfl
theorem cellsB : Try.prog.cellsOf 4 = 1 := by kernel_rfl
theorem cellsNt : Try.prog.cellsOf 48 = 7 := by kernel_rfl
theorem reply_of_trod {fuel : Nat} {cs : List Value} {x : DataW H × List MemPlace} (h : DataW.trod enc Try.prog W base (fun _ => true) held fuel 109 cs = some x) : ∃ m, tyRp.rep W cs m := by
  obtain ⟨xs, n, _, _, hl, hlen, hf⟩ := DataW.trod_struct Try.underlying109 h
  obtain ⟨c0, c1, c2, c3, c4, rfl⟩ := list5 (hl.trans cellsR)
  obtain ⟨x0, x1, x2, x3, x4, rfl⟩ := list5 (l := xs) hlen
  have g0 := hf 0 _ rfl
  have g1 := hf 1 _ rfl
  have g2 := hf 2 _ rfl
  have g3 := hf 3 _ rfl
  have g4 := hf 4 _ rfl
  simp [Value.cells, cellsI, cellsB] at g0 g1 g2 g3 g4
  obtain ⟨a0, e0, _, _⟩ := DataW.trod_int Try.underlying3 g0
  obtain ⟨a1, e1, _, _⟩ := DataW.trod_int Try.underlying3 g1
  obtain ⟨a2, e2, _, _⟩ := DataW.trod_int Try.underlying3 g2
  obtain ⟨a3, e3, _, _⟩ := DataW.trod_int Try.underlying3 g3
  obtain ⟨a4, e4, _⟩ := DataW.trod_bool Try.underlying4 g4
  simp at e0 e1 e2 e3 e4
  subst e0 e1 e2 e3 e4
  exact ⟨⟨a0, a1, a2, a3, a4⟩, rfl⟩
set_option maxRecDepth 100000 in
theorem open_net {v : Value} {r : Reach} {b0 : Nat} {d : DataW H} {p : List MemPlace} (hv : Value.okWide Try.prog W r b0 48 v) (h : DataW.Trod enc Try.prog W base (fun _ => true) held 48 v d p) :
    ∃ (b g t : Int) (ap am ag ar : Option Addr) (cp cm cg cr : Nat) (ps : List Pr) (ms : List Mg) (gs : List Int) (rs : List Rp), v = .agg #[.int .i64 b, .int .i64 g, .slice ap ps.length cp, .int .i64 t, .slice am ms.length cm, .slice ag gs.length cg, .slice ar rs.length cr] ∧
      ps.length ≤ maxLen ∧ ms.length ≤ maxLen ∧ gs.length ≤ maxLen ∧ rs.length ≤ maxLen ∧ NetAt W ap am ag ar ps ms gs rs := by
  obtain ⟨cs, rfl, hsz⟩ := okWide_struct Try.underlying48 hv
  obtain ⟨c0, c1, c2, c3, c4, c5, c6, rfl⟩ := array7 (hsz.trans cellsNt)
  obtain ⟨fuel, hf⟩ := h
  obtain ⟨xs, n, _, _, hl, hlen, hf⟩ := DataW.trod_struct Try.underlying48 hf
  obtain ⟨x0, x1, x2, x3, x4, rfl⟩ := list5 (l := xs) hlen
  have g0 := hf 0 _ rfl
  have g1 := hf 1 _ rfl
  have g2 := hf 2 _ rfl
  have g3 := hf 3 _ rfl
  have g4 := hf 4 _ rfl
  simp [Value.cells, cellsI, cellsIs, cellsPs, cellsMs, cellsRs] at g0 g1 g2 g3 g4
  obtain ⟨y0, y1, m, _, _, h0, h1⟩ := trod_struct2 Try.underlying26 g0
  simp [cellsS] at h0
  simp [cellsS, cellsPl] at h1
  obtain ⟨z0, z1, m, _, _, i0, i1⟩ := trod_struct2 Try.underlying23 h0
  simp [cellsI] at i0 i1
  obtain ⟨b, e0, _, _⟩ := DataW.trod_int Try.underlying3 i0
  obtain ⟨g, e1, _, _⟩ := DataW.trod_int Try.underlying3 i1
  obtain ⟨t, e2, _, _⟩ := DataW.trod_int Try.underlying3 g1
  simp at e0 e1 e2
  subst e0 e1 e2
  obtain ⟨ap, np, cp, rfl⟩ := slice_of_trod Try.underlying24 h1
  obtain ⟨ps, rfl, hm, hc, hr⟩ := peersl_of_trod h1
  obtain ⟨am, nm, cm, rfl⟩ := slice_of_trod Try.underlying45 g2
  obtain ⟨ms, rfl, hm2, _, hr2⟩ := ls_of_trod tyMg Try.underlying45 Wire.cellsM (by show 0 < 9; omega) (fun _ _ _ h => msg_of_trod h) g2
  obtain ⟨ag, ng, cg, rfl⟩ := slice_of_trod Try.underlying33 g3
  obtain ⟨gs, rfl, hm3, _, hr3⟩ := ints_row g3
  obtain ⟨ar, nr, cr, rfl⟩ := slice_of_trod Try.underlying46 g4
  obtain ⟨rs, rfl, hm4, _, hr4⟩ := ls_of_trod tyRp Try.underlying46 cellsR (by show 0 < 5; omega) (fun _ _ _ h => reply_of_trod h) g4
  exact ⟨b, g, t, ap, am, ag, ar, cp, cm, cg, cr, ps, ms, gs, rs, rfl, hm, hm2, hm3, hm4, ⟨hr, hr2, hr3, hr4⟩⟩
end
end Go.Proofs.Ytioiacmaijgdoaa
