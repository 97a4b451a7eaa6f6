/- Ways through the ring: what is asked, the next digit, who stands for a number, where a walk begins. Ways through the ring: where a walk begins. A region that draws its order, whose operations but the last leave the class of worlds, and whose last one waits for all of them (a store): the last one is run behind the others. The same where one operation that looks at no memory (a component of a tuple that nobody takes) may come behind the last one. One step of a walk, in the program. One step of a walk, in the specification. -/
import Derived.Deep.RegionHeld
import Derived.WalkMore
import Derived.Deep.DeepCutAuto
import Derived.Test.YtejajlloipkkhaaZ0
import Derived.Test.YtejajlloipkkhaaZ1
import Derived.Test.YtejajlloipkkhaaZ2
namespace Go.Proofs.Ytejajlloipkkhaa
open Go.RowKit Go.Deep
set_option linter.unusedVariables false
theorem asked_no {b d : Int} {ps : List Pr} {x k : Int} (h : goodP b d ps = false ∨ hasB (idsP ps) x = false ∨ numB b d k = false) : askP b d ps x k = false := by
  unfold askP
  rcases h with h | h | h <;> rw [h] <;> simp
set_option maxHeartbeats 1600000 in
theorem lasked4_any (b d : Int) (a : Option Addr) (cap : Nat) (ps : List Pr) (x k : Int) (w : World) (hm : ps.length ≤ 1048576) (hr : PeersAt w a ps) :
    Calls Try.prog 53 #[.agg #[.int .i64 b, .int .i64 d, .slice a ps.length cap], .int .i64 x, .int .i64 k] w fun e w' => e = .returned (.bool (askP b d ps x k)) ∧ Below w.heap.size w w' := by
  have hil := idsP_len ps
  have CG := lgood_any b d a cap ps (w.alloc (.cells #[.int .i64 b, .int .i64 d, .slice a ps.length cap] 28)) hm (hr.alloc _)
  have HR : Hid (PeersAt w a ps) := hr
  clear hr
  cases hg : goodP b d ps
  · rw [hg] at CG
    rw [asked_no (.inl hg)]
    clear hg
    go_enter Try.func53, Try.ntmps53
    go_wp2_with fail
    refine CG.mono ?_
    rintro e w1 ⟨rfl, hw1⟩
    go_wp2
    go_ret
    exact ⟨rfl, bel1 hw1 (by simp)⟩
  · rw [hg] at CG
    have l2 := (goodP_true hg).1.l2
    rw [hil] at l2
    have CM : ∀ w1, BxP w w1 b d (.slice a ps.length cap) → Calls Try.prog 94 #[.agg #[.int .i64 b, .int .i64 d, .slice a ps.length cap]] w1 fun e w' => ∃ a1 cap1, e = .returned (.slice a1 ps.length cap1) ∧ RowAt w' a1 (idsP ps) ∧ Below w1.heap.size w1 w' := fun w1 h => by
      refine (lmembers_any b d a cap ps w1 hm (HR.out.keep h.bel)).mono ?_
      rintro e w2 ⟨v1, rfl, hown1, hw1⟩
      obtain ⟨a1, cap1, rfl, hc1, hrow1⟩ := own_rowAt hown1
      rw [hil]
      exact ⟨a1, cap1, rfl, hrow1, hw1⟩
    cases hh : hasB (idsP ps) x
    · rw [asked_no (.inr (.inl hh))]
      clear hg
      go_enter Try.func53, Try.ntmps53
      go_wp2_with fail
      refine CG.mono ?_
      rintro e w1 ⟨rfl, hw1⟩
      have BX1 : Hid (BxP w w1 b d (.slice a ps.length cap)) := bxP1 hw1 (by simp)
      clear CG hw1
      obtain ⟨_, _, q0, q1, q2⟩ := BX1.out
      go_wp2_with fail
      refine (CM _ BX1.out).mono ?_
      rintro e w2 ⟨a1, cap1, rfl, row1, hw2⟩
      have CH := lhas_any a1 cap1 (idsP ps) x w2 (by unfold maxLen; omega) row1
      rw [hil, hh] at CH
      have B2 : Hid (Below w.heap.size w w2) := belt BX1.out.bel hw2
      clear CM q0 q1 q2 hh row1 hw2
      go_wp2_with fail
      refine CH.mono ?_
      rintro e w3 ⟨rfl, hw3⟩
      subst hw3
      go_wp2
      go_ret
      exact ⟨rfl, B2.out⟩
    · have hn := numsB_1 b d k
      have hv : Hid (askP b d ps x k = numB b d k) := by unfold Hid askP; rw [hg, hh]; simp
      clear hg
      generalize askP b d ps x k = A at *
      go_enter Try.func53, Try.ntmps53
      go_wp2_with fail
      refine CG.mono ?_
      rintro e w1 ⟨rfl, hw1⟩
      have BX1 : Hid (BxP w w1 b d (.slice a ps.length cap)) := bxP1 hw1 (by simp)
      clear CG hw1
      obtain ⟨_, _, q0, q1, q2⟩ := BX1.out
      go_wp2_with fail
      refine (CM _ BX1.out).mono ?_
      rintro e w2 ⟨a1, cap1, rfl, row1, hw2⟩
      have CH := lhas_any a1 cap1 (idsP ps) x w2 (by unfold maxLen; omega) row1
      rw [hil, hh] at CH
      have BX2 : Hid (BxP w w2 b d (.slice a ps.length cap)) := BX1.out.keep hw2
      clear CM q0 q1 q2 hh row1 hw2 BX1
      obtain ⟨_, _, q0, q1, q2⟩ := BX2.out
      go_wp2_with fail
      refine CH.mono ?_
      rintro e w3 ⟨rfl, hw3⟩
      subst hw3
      go_wp2_with fail
      refine (lnums_any b d _ _ _ [k] _ (by simp [maxLen]) ?hl ?hc).mono ?_
      case hl => simp
      case hc =>
        intro i hi
        match i, hi with
        | 0, _ => simp
      rintro e w4 ⟨rfl, hw4⟩
      go_wp2
      go_ret
      exact ⟨ret_bool hv.out.symm, belt BX2.out.bel (bel1 hw4 (by simp))⟩
theorem sz_pow {d : Int} (hd : 0 ≤ d) (m : Nat) : sz ((m : Int) * d) = sz d ^ m := by
  unfold sz
  rw [← Int.pow_mul]
  congr 1
  rw [Int.toNat_mul (by omega) hd, Int.toNat_natCast, Nat.mul_comm]
theorem digL_get {B : Int} (hB : 0 < B) : ∀ (n : Nat) (x : Int) (i : Nat), i < n → (digL n B x).getD i 0 = x / B ^ (n - 1 - i) % B
  | 0, x, i, h => by omega
  | n + 1, x, i, h => by
    unfold digL
    by_cases hi : i < n
    · rw [show n + 1 - 1 - i = (n - 1 - i) + 1 by omega]
      have := digL_get hB n (x / B) i hi
      rw [List.getD_eq_getElem?_getD, List.getElem?_append_left (by rw [digL_len]; exact hi), ← List.getD_eq_getElem?_getD, this, Int.ediv_ediv_of_nonneg (by omega), Int.pow_succ, Int.mul_comm]
    · obtain rfl : i = n := by omega
      rw [List.getD_eq_getElem?_getD, List.getElem?_append_right (by rw [digL_len]; exact Nat.le_refl _), digL_len]
      simp
theorem dgt4_get {b d k : Int} {m : Nat} (hg : gsB b d = true) (m1 : 1 ≤ m) (m2 : m ≤ cnt b d) : (digL (cnt b d) (sz d) k).getD (cnt b d - m) 0 = dgt4 d k (m : Int) := by
  obtain ⟨h1, h2, h3, h4, _⟩ := gsB_true hg
  have hs := sz_bd h3 (show d ≤ 12 by omega)
  rw [digL_get (by omega) _ _ _ (by omega), show cnt b d - 1 - (cnt b d - m) = m - 1 by omega]
  unfold dgt4
  rw [show ((m : Int) - 1) = ((m - 1 : Nat) : Int) by omega, sz_pow (by omega)]
theorem row_get {n i : Nat} {l : List Int} (hl : l.length = n) (hi : i < n) : (zv (rowZ n l))[i]? = some (.int .i64 (l.getD i 0)) := by
  have h : i < (rowZ n l).length := by simp [rowZ, hl]; omega
  rw [zv_get _ _ h]
  congr 2
  unfold rowZ
  rw [List.getD_eq_getElem?_getD, List.getElem?_append_left (by omega), List.getD_eq_getElem?_getD]
set_option maxRecDepth 100000 in
set_option maxHeartbeats 1600000 in
theorem nextDigit_any (b d k : Int) (m : Nat) (w : World) (hg : gsB b d = true) (k1 : 0 ≤ k) (k2 : k < sz b) (m1 : 1 ≤ m) (m2 : m ≤ cnt b d) :
    Calls Try.prog 92 #[.agg #[.int .i64 b, .int .i64 d], .int .i64 k, .int .i64 (m : Int)] w fun e w' => e = .returned (.int .i64 (dgt4 d k (m : Int))) ∧ Below w.heap.size w w' := by
  obtain ⟨hb1, hb2, hd1, hd2, _⟩ := gsB_true hg
  obtain ⟨hq, q1, q2⟩ := cnt_bd hb1 hb2 hd1 hd2
  have hv := dgt4_get (k := k) hg m1 m2
  have HI : Hid ((Try.prog.info? 116).map (·.size) = some (zv (rowZ (cnt b d) (digL (cnt b d) (sz d) k))).size) := by
    show _ = _
    rw [row_size q2]; kernel_rfl
  have HO : Hid ((zv (List.replicate 12 0)).size = (zv (rowZ (cnt b d) (digL (cnt b d) (sz d) k))).size) := by
    show _ = _
    rw [row_size q2, zv_size]; rfl
  have HN : Hid ((zv (rowZ (cnt b d) (digL (cnt b d) (sz d) k))).all (·.oneCell') = true) := zv_one _
  have HG : Hid ((zv (rowZ (cnt b d) (digL (cnt b d) (sz d) k)))[cnt b d - m]? = some (.int .i64 (dgt4 d k (m : Int)))) := by
    unfold Hid
    rw [row_get (digL_len _ _ _) (by omega), hv]
  clear hv
  go_enter Try.func92, Try.ntmps92
  go_wp2_with fail
  refine (row_any _ _ _ _ hb1 hb2 hd1 hd2 k1 k2).mono ?_
  rintro e w1 ⟨rfl, hw1⟩
  obtain ⟨k10, k11, z1⟩ := keep2 (bk := w.heap.size) (u := .int .i64 b) (v := .int .i64 d) hw1 (by simp; try omega) (by simp) (by simp)
  go_wp2_with ((refine wpList_store_new rfl 116 (.tmp 7) (.tmp 10) rfl w1 _ _ rfl rfl _ HI.out HO.out HN.out ?_; intro w2 s21 hw2; obtain ⟨k20, k21, z2⟩ := keep2 hw2 z1 k10 k11))
  refine (count_any _ _ _ hb1 hb2 hd1 hd2).mono ?_
  rintro e w3 ⟨rfl, hw3⟩
  have c5 : w3.cell? ⟨w1.heap.size, cnt b d - m, none⟩ = some (.int .i64 (dgt4 d k (m : Int))) := by
    rw [hw3.cell (p := ⟨w1.heap.size, cnt b d - m, none⟩) (Array.getElem?_eq_some_iff.1 s21.out).1, cell_of_row w2 _ _ _ _ _ s21.out]
    exact HG.out
  have hi : (cnt b d : Int) - (m : Int) = ((cnt b d - m : Nat) : Int) := by omega
  have hi2 : cnt b d - m < 12 := by omega
  have B3 : Hid (Below w.heap.size w w3) := belt (belt (bel1 hw1 (by simp)) hw2) hw3
  clear HI HO HN HG s21 hw3 hw2 hw1 k20 k21 k10 k11
  generalize cnt b d - m = i at *
  obtain ⟨g, hg2⟩ : ∃ g, g = dgt4 d k (m : Int) := ⟨_, rfl⟩
  rw [← hg2] at c5
  have HG2 : Hid (g = dgt4 d k (m : Int)) := hg2
  clear hg2
  go_wp2_with fail
  go_ret
  exact ⟨ret_int HG2.out, B3.out⟩
set_option maxHeartbeats 1600000 in
theorem ldigit4_any (b d k l : Int) (w : World) (hg : gsB b d = true) (k1 : 0 ≤ k) (k2 : k < sz b) (l1 : 1 ≤ l) (l2 : l ≤ b / d) :
    Calls Try.prog 106 #[.agg #[.int .i64 b, .int .i64 d], .int .i64 k, .int .i64 l] w fun e w' => e = .returned (.int .i64 (dgt4 d k l)) ∧ Below w.heap.size w w' := by
  obtain ⟨hb1, hb2, hd1, hd2, _⟩ := gsB_true hg
  obtain ⟨hq, q1, q2⟩ := cnt_bd hb1 hb2 hd1 hd2
  have hd3 : d ≤ 12 := by omega
  obtain ⟨hs1, hs2⟩ := sz_bd hd1 hd3
  obtain ⟨hs3, hs4⟩ := sz_bd hb1 hb2
  obtain ⟨nd1, nd2⟩ := ndbd hg (show 0 ≤ l - 1 by omega) (show l - 1 ≤ b / d by omega)
  obtain ⟨y, hy⟩ : ∃ y, y = (l - 1) * d := ⟨_, rfl⟩
  have HV : Hid (dgt4 d k l = k / sz y % sz d) := by unfold Hid dgt4; rw [hy]
  have hwy : wrap64 ((l - 1) * d) = y := by rw [← hy]; exact IntWalk.wrap64_in y (by omega)
  rw [← hy] at nd1 nd2
  clear hy
  have hK : k / 2 ^ y.toNat = k / sz y := rfl
  have K1 : 0 ≤ k / sz y := Int.ediv_nonneg k1 (Int.le_of_lt (sz_pos _))
  have K2 : k / sz y ≤ 4096 := Int.le_trans (Int.ediv_le_self _ k1) (by omega)
  generalize dgt4 d k l = G at *
  go_enter Try.func106, Try.ntmps106
  go_wp2_with fail
  have c0 : ∀ p : Kin (w.heap.size + 1) (w.alloc (.cells #[.int .i64 b, .int .i64 d] 25)), p.v.cell? ⟨w.heap.size, 0, none⟩ = some (.int .i64 b) := kin_cell (by omega) (by go_simp)
  have c1 : ∀ p : Kin (w.heap.size + 1) (w.alloc (.cells #[.int .i64 b, .int .i64 d] 25)), p.v.cell? ⟨w.heap.size, 1, none⟩ = some (.int .i64 d) := kin_cell (by omega) (by go_simp)
  refine region_kin (w.heap.size + 1) (by kernel_rfl) (by kernel_rfl) (fun hne => ?_)
  repeat (go_big_quiet_step ((go_at_call 124; exact kin_of (by simp) (lbase_any _ _ _ hd1 hd3))))
  refine wpQuiet_nil ?_
  intro _ hw'
  obtain ⟨⟨w1, hw1⟩, hw''⟩ := hw'
  obtain rfl : _ = w1 := hw''
  clear c0 c1 hne
  go_wp2
  go_ret
  exact ⟨ret_int HV.out.symm, ((Below.refl _ _).alloc (Nat.le_refl _) _).trans (hw1.mono (by omega))⟩
theorem num_ok {b d x : Int} (hg : gsB b d = true) (h1 : 0 ≤ x) (h2 : x < sz b) : numB b d x = true := numB_yes hg h1 h2
theorem bVal_eq {b d f x t : Int} (hg : gsB b d = true) (f1 : 0 ≤ f) (f2 : f < sz b) (x1 : 0 ≤ x) (x2 : x < sz b) (t1 : 0 ≤ t) (t2 : t < sz b) : bVal b d f x t = btwB b f x t := by
  unfold bVal aOk
  rw [num_ok hg f1 f2, num_ok hg x1 x2, num_ok hg t1 t2]
  simp
theorem aVal_eq {b d f x t : Int} (hg : gsB b d = true) (f1 : 0 ≤ f) (f2 : f < sz b) (x1 : 0 ≤ x) (x2 : x < sz b) (t1 : 0 ≤ t) (t2 : t < sz b) : aVal b d f x t = arcB b f x t := by
  unfold aVal aOk
  rw [num_ok hg f1 f2, num_ok hg x1 x2, num_ok hg t1 t2]
  simp
theorem sVal_eq {b d x g : Int} (hg : gsB b d = true) (x1 : 0 ≤ x) (x2 : x < sz b) (g1 : 0 ≤ g) (g2 : g < sz d) : sVal b d x g = shf b d x g := by
  unfold sVal sOk
  rw [num_ok hg x1 x2, digB_yes hg g1 g2]
  simp
/-- a peer stands for a number -/
def stdB (b i x t : Int) : Bool := decide (x = i ∨ btwB b i x t = true)
set_option maxHeartbeats 1600000 in
theorem standsFor_any (b d : Int) (q o : Nat) (p : Pr) (x : Int) (w : World) (hg : gsB b d = true) (i1 : 0 ≤ p.id) (i2 : p.id < sz b) (s1 : 0 ≤ p.succ) (s2 : p.succ < sz b) (x1 : 0 ≤ x) (x2 : x < sz b) (hq : q < w.heap.size) (hp : PeerAt w q o p) :
    Calls Try.prog 91 #[.agg #[.int .i64 b, .int .i64 d], .pointer (some ⟨q, o, none⟩), .int .i64 x] w fun e w' => e = .returned (.bool (stdB b p.id x p.succ)) ∧ Below w.heap.size w w' := by
  obtain ⟨c0, c1, _, _⟩ := hp
  obtain ⟨xi, xs, xp, bs⟩ := p
  have CB := fun w => Between_any b d xi x xs w
  rw [bVal_eq hg i1 i2 x1 x2 s1 s2] at CB
  have z0 : ∀ k : Kin (w.heap.size + 1) (w.alloc (.cells #[.int .i64 b, .int .i64 d] 25)), k.v.cell? ⟨q, o, none⟩ = some (.int .i64 xi) := kin_cell (by omega) ((cell_alloc_old' _ hq trivial).trans c0)
  have z1 : ∀ k : Kin (w.heap.size + 1) (w.alloc (.cells #[.int .i64 b, .int .i64 d] 25)), k.v.cell? ⟨q, o + 1, none⟩ = some (.int .i64 xs) := kin_cell (by omega) ((cell_alloc_old' _ hq trivial).trans c1)
  have b0 : ∀ p : Kin (w.heap.size + 1) (w.alloc (.cells #[.int .i64 b, .int .i64 d] 25)), p.v.cell? ⟨w.heap.size, 0, none⟩ = some (.int .i64 b) := kin_cell (by omega) (by go_simp)
  have b1 : ∀ p : Kin (w.heap.size + 1) (w.alloc (.cells #[.int .i64 b, .int .i64 d] 25)), p.v.cell? ⟨w.heap.size, 1, none⟩ = some (.int .i64 d) := kin_cell (by omega) (by go_simp)
  clear c0 c1
  have HV : Hid (stdB b xi x xs = (btwB b xi x xs || decide (x = xi))) := by
    unfold Hid stdB
    cases btwB b xi x xs <;> simp
  have HVV : Hid (∀ v, stdB b xi x xs = v → stdB b xi x xs = v) := fun _ h => h
  show Calls _ _ _ _ fun e w' => e = .returned (.bool (stdB b xi x xs)) ∧ _
  generalize stdB b xi x xs = V at *
  cases hb : btwB b xi x xs
  · rw [hb] at CB HV
    have HW : Hid (V = (x == xi)) := by
      have h := HV.out
      rw [Bool.false_or] at h
      exact h
    clear hb
    go_enter Try.func91, Try.ntmps91
    go_wp2_with fail
    refine region_kin (w.heap.size + 1) (by kernel_rfl) (by kernel_rfl) (fun hne => ?_)
    repeat (go_big_quiet_step ((go_at_call 119; exact kin_of (by simp) (CB _))))
    refine wpQuiet_nil ?_
    intro w5 hw'
    obtain ⟨⟨w6, hw5⟩, hw''⟩ := hw'
    obtain rfl : w5 = w6 := hw''
    have e0 : w5.cell? ⟨q, o, none⟩ = some (.int .i64 xi) := z0 ⟨w5, hw5⟩
    have e1 : w5.cell? ⟨q, o + 1, none⟩ = some (.int .i64 xs) := z1 ⟨w5, hw5⟩
    have B5 : Hid (Below w.heap.size w w5) := bel1 hw5 (by simp)
    clear z0 z1 b0 b1 hne hw5
    go_wp2
    go_ret
    exact ⟨ret_bool HW.out.symm, B5.out⟩
  · rw [hb] at CB HV
    have HW : Hid (V = true) := by
      have h := HV.out
      rw [Bool.true_or] at h
      exact h
    clear hb
    go_enter Try.func91, Try.ntmps91
    go_wp2_with fail
    refine region_kin (w.heap.size + 1) (by kernel_rfl) (by kernel_rfl) (fun hne => ?_)
    repeat (go_big_quiet_step ((go_at_call 119; exact kin_of (by simp) (CB _))))
    refine wpQuiet_nil ?_
    intro w5 hw'
    obtain ⟨⟨w6, hw5⟩, hw''⟩ := hw'
    obtain rfl : w5 = w6 := hw''
    have e0 : w5.cell? ⟨q, o, none⟩ = some (.int .i64 xi) := z0 ⟨w5, hw5⟩
    have e1 : w5.cell? ⟨q, o + 1, none⟩ = some (.int .i64 xs) := z1 ⟨w5, hw5⟩
    have B5 : Hid (Below w.heap.size w w5) := bel1 hw5 (by simp)
    clear z0 z1 b0 b1 hne hw5
    go_wp2
    go_ret
    exact ⟨ret_bool HW.out.symm, B5.out⟩
end Go.Proofs.Ytejajlloipkkhaa
namespace Go.Proofs.Ytejajlloipkkhaa
open Go.RowKit Go.Deep
set_option linter.unusedVariables false
/-- peers behind a pointer -/
structure PQ (w : World) (q : Nat) (b d : Int) (bk off n cap : Nat) (ps : List Pr) : Prop where
  lt : q < w.heap.size
  c0 : w.cell? ⟨q, 0, none⟩ = some (.int .i64 b)
  c1 : w.cell? ⟨q, 1, none⟩ = some (.int .i64 d)
  c2 : w.cell? ⟨q, 2, none⟩ = some (.slice (some ⟨bk, off, none⟩) n cap)
  pa : PeersAt w (some ⟨bk, off, none⟩) ps
  ln : ps.length = n
theorem PQ.keep {w w1 : World} {q : Nat} {b d : Int} {bk off n cap : Nat} {ps : List Pr} (h : PQ w q b d bk off n cap ps) (hb : Below w.heap.size w w1) : PQ w1 q b d bk off n cap ps :=
  ⟨Nat.lt_of_lt_of_le h.lt hb.size, (hb.cell (p := ⟨q, 0, none⟩) h.lt).trans h.c0, (hb.cell (p := ⟨q, 1, none⟩) h.lt).trans h.c1, (hb.cell (p := ⟨q, 2, none⟩) h.lt).trans h.c2, h.pa.keep hb, h.ln⟩
theorem succ_rng {b d : Int} {ps : List Pr} (hg : goodP b d ps = true) {x : Int} (hx : hasB (idsP ps) x = true) : 0 ≤ (peerI ps x).succ ∧ (peerI ps x).succ < sz b := by
  obtain ⟨_, h2, _⟩ := peerI_good hg hx
  rw [h2]
  exact has_rng (goodP_true hg).1 (nxt_has (goodP_true hg).1 x)
set_option maxHeartbeats 1600000 in
theorem startFrom_any (b d : Int) (q bk off n cap : Nat) (ps : List Pr) (x k : Int) (w : World) (hg : goodP b d ps = true) (hx : hasB (idsP ps) x = true) (k1 : 0 ≤ k) (k2 : k < sz b) (hq : PQ w q b d bk off n cap ps) :
    Calls Try.prog 70 #[.pointer (some ⟨q, 0, none⟩), .int .i64 x, .int .i64 k] w fun e w' => e = .returned (.agg (stt b d ps x k).cells) ∧ Below w.heap.size w w' := by
  have R := (goodP_true hg).1
  have gs := R.gs
  have l2 := R.l2
  rw [idsP_len] at l2
  obtain ⟨x1, x2⟩ := has_rng R hx
  obtain ⟨s1, s2⟩ := succ_rng hg hx
  obtain ⟨n1, n2⟩ := (show n = ps.length ∧ True from ⟨hq.ln.symm, trivial⟩)
  subst n1
  obtain ⟨hbk, pa⟩ := peer_at hx hq.pa
  have c1 := pa.c1
  have CP : ∀ p : Kin (w.heap.size + 1) (w.alloc (.cells #[.int .i64 0, .int .i64 0, .int .i64 0, .int .i64 0, .int .i64 0, .int .i64 0, .int .i64 0] 32)), Calls Try.prog 90 #[.pointer (some ⟨q, 0, none⟩), .int .i64 x] p.v fun e w' => e = .returned (.pointer (some ⟨bk, off + idxI ps x * 4, none⟩)) ∧ w' = p.v := fun p => by
    have h := hq.keep (((Below.refl _ _).alloc (Nat.le_refl _) _).trans (p.bel.mono (Nat.le_succ _)))
    exact peerOf_any q bk off cap ps x p.v (by omega) hx h.c2 h.pa
  have CI := fun w1 => imagFrom_any b d x (peerI ps x).succ k w1 gs x1 x2 s1 s2 k1 k2
  have z0 : ∀ p : Kin (w.heap.size + 1) (w.alloc (.cells #[.int .i64 0, .int .i64 0, .int .i64 0, .int .i64 0, .int .i64 0, .int .i64 0, .int .i64 0] 32)), p.v.cell? ⟨q, 0, none⟩ = some (.int .i64 b) := kin_cell (by have := hq.lt; omega) ((cell_alloc_old' _ hq.lt trivial).trans hq.c0)
  have z1 : ∀ p : Kin (w.heap.size + 1) (w.alloc (.cells #[.int .i64 0, .int .i64 0, .int .i64 0, .int .i64 0, .int .i64 0, .int .i64 0, .int .i64 0] 32)), p.v.cell? ⟨q, 1, none⟩ = some (.int .i64 d) := kin_cell (by have := hq.lt; omega) ((cell_alloc_old' _ hq.lt trivial).trans hq.c1)
  have y1 : ∀ p : Kin (w.heap.size + 1) (w.alloc (.cells #[.int .i64 0, .int .i64 0, .int .i64 0, .int .i64 0, .int .i64 0, .int .i64 0, .int .i64 0] 32)), p.v.cell? ⟨bk, off + idxI ps x * 4 + 1, none⟩ = some (.int .i64 (peerI ps x).succ) := kin_cell (by omega) ((cell_alloc_old' _ hbk trivial).trans c1)
  have HV : Hid ((stt b d ps x k).cells = #[.int .i64 x, .int .i64 (bestI b d x (peerI ps x).succ k).1, .int .i64 (bestI b d x (peerI ps x).succ k).2, .int .i64 0, .int .i64 0, .int .i64 0, .int .i64 0]) := rfl
  clear pa c1 hq
  generalize (stt b d ps x k).cells = A at *
  generalize (bestI b d x (peerI ps x).succ k).1 = v1 at *
  generalize (bestI b d x (peerI ps x).succ k).2 = v2 at *
  generalize (peerI ps x).succ = xs at *
  generalize idxI ps x = ix at *
  go_enter Try.func70, Try.ntmps70
  go_wp2_with fail
  refine region_kin (w.heap.size + 1) (by kernel_rfl) (by kernel_rfl) (fun hne => ?_)
  repeat (go_big_quiet_step (first | (go_at_call 90; exact kin_same (CP _)) | (go_at_call 77; exact kin_of (by simp) (CI _))))
  refine wpQuiet_nil ?_
  intro w5 hw'
  obtain ⟨⟨w6, hw5⟩, hw''⟩ := hw'
  obtain rfl : w5 = w6 := hw''
  have B5 : Hid (Below w.heap.size w w5) := bel1 hw5 (by simp)
  have K5 : Hid (Bk w5 w.heap.size #[.int .i64 0, .int .i64 0, .int .i64 0, .int .i64 0, .int .i64 0, .int .i64 0, .int .i64 0] 32) := (Bk.new w #[.int .i64 0, .int .i64 0, .int .i64 0, .int .i64 0, .int .i64 0, .int .i64 0, .int .i64 0] 32).keepN hw5 (by omega)
  clear z0 z1 y1 hne hw5 CP CI
  obtain ⟨f0, f1, f2, f3, f4, f5, f6⟩ := K5.out.f7
  obtain ⟨r0, r1, r2, r3, r4, r5, r6⟩ := Bk.c7 K5.out
  go_wp2_with fail
  refine bodyPost_ret (results_cell_row Try.results70 _ _ w.heap.size _ _ _ _ rfl (Bk.setL [.int .i64 x, .int .i64 v1, .int .i64 v2, .int .i64 0, .int .i64 0, .int .i64 0, .int .i64 0] 0 K5.out) Try.underlying32 rfl (by kernel_rfl)) rfl ⟨by rw [HV.out]; rfl, setL_below (Nat.le_refl _) [.int .i64 x, .int .i64 v1, .int .i64 v2, .int .i64 0, .int .i64 0, .int .i64 0, .int .i64 0] 0 B5.out⟩
theorem field_succ (xi xs xp : Int) (v : Value) (w : World) : (Instr.field 101 (.agg #[.int .i64 xi, .int .i64 xs, .int .i64 xp, v]) 1).run Try.prog w = .ok (.int .i64 xs) w := by kernel_rfl
theorem bkV_at {w : World} {a : Option Addr} {ps : List Pr} {x : Int} (hx : hasB (idsP ps) x = true) (hr : PeersAt w a ps) : ∃ ab nb cb, bkV w a ps x = .slice ab nb cb := by
  obtain ⟨h1, _⟩ := idxI_mem ps x hx
  obtain ⟨bk, off, rfl⟩ := peersAt_form hr (by omega)
  obtain ⟨_, h4⟩ := peer_at hx hr
  obtain ⟨ab, cb, c3, _⟩ := h4.c3
  refine ⟨ab, (peerI ps x).backs.length, cb, ?_⟩
  unfold bkV
  rw [if_pos hx]
  show (w.cell? ⟨bk, off + idxI ps x * 4 + 3, none⟩).getD undef = _
  rw [c3]
  rfl
set_option maxRecDepth 100000 in
set_option maxHeartbeats 3200000 in
theorem lstart_any (b d : Int) (a : Option Addr) (cap : Nat) (ps : List Pr) (x k : Int) (w : World) (hg : goodP b d ps = true) (hx : hasB (idsP ps) x = true) (k1 : 0 ≤ k) (k2 : k < sz b) (hr : PeersAt w a ps) :
    Calls Try.prog 71 #[.agg #[.int .i64 b, .int .i64 d, .slice a ps.length cap], .int .i64 x, .int .i64 k] w fun e w' => e = .returned (.agg (stt b d ps x k).cells) ∧ Below w.heap.size w w' := by
  have R := (goodP_true hg).1
  have gs := R.gs
  have l2 := R.l2
  rw [idsP_len] at l2
  obtain ⟨x1, x2⟩ := has_rng R hx
  obtain ⟨s1, s2⟩ := succ_rng hg hx
  have B2 : Below w.heap.size w ((w.alloc (.cells #[.int .i64 b, .int .i64 d, .slice a ps.length cap] 28)).alloc (.cells #[.int .i64 0, .int .i64 0, .int .i64 0, .int .i64 0, .int .i64 0, .int .i64 0, .int .i64 0] 32)) := ((Below.refl _ _).alloc (Nat.le_refl _) _).alloc (by simp) _
  have BX : BxP w ((w.alloc (.cells #[.int .i64 b, .int .i64 d, .slice a ps.length cap] 28)).alloc (.cells #[.int .i64 0, .int .i64 0, .int .i64 0, .int .i64 0, .int .i64 0, .int .i64 0, .int .i64 0] 32)) b d (.slice a ps.length cap) := bxP1 (N := w.heap.size + 1) ((Below.refl _ _).alloc (by simp) _) (Nat.le_refl _)
  have K2 : Bk ((w.alloc (.cells #[.int .i64 b, .int .i64 d, .slice a ps.length cap] 28)).alloc (.cells #[.int .i64 0, .int .i64 0, .int .i64 0, .int .i64 0, .int .i64 0, .int .i64 0, .int .i64 0] 32)) (w.heap.size + 1) #[.int .i64 0, .int .i64 0, .int .i64 0, .int .i64 0, .int .i64 0, .int .i64 0, .int .i64 0] 32 := by
    have := Bk.new (w.alloc (.cells #[.int .i64 b, .int .i64 d, .slice a ps.length cap] 28)) #[.int .i64 0, .int .i64 0, .int .i64 0, .int .i64 0, .int .i64 0, .int .i64 0, .int .i64 0] 32
    simpa using this
  have CP : ∀ w1, Below w.heap.size w w1 → Calls Try.prog 102 #[.agg #[.int .i64 b, .int .i64 d, .slice a ps.length cap], .int .i64 x] w1 fun e w' => e = .returned (.agg #[.int .i64 (peerI ps x).id, .int .i64 (peerI ps x).succ, .int .i64 (peerI ps x).point, bkV w a ps x]) ∧ Below w1.heap.size w1 w' := fun w1 hb => by
    have h := lpeer_any b d a cap ps x w1 (by omega) (hr.keep hb)
    rwa [bkV_keep hr hb (Nat.le_refl _)] at h
  have CI := fun w1 => lbest_any b d x (peerI ps x).succ k w1 gs x1 x2 s1 s2 k1 k2
  have HV : Hid ((stt b d ps x k).cells = #[.int .i64 x, .int .i64 (bestI b d x (peerI ps x).succ k).1, .int .i64 (bestI b d x (peerI ps x).succ k).2, .int .i64 0, .int .i64 0, .int .i64 0, .int .i64 0]) := rfl
  obtain ⟨ab, nb, cb, hvb⟩ := bkV_at hx hr
  rw [hvb] at CP
  clear hr hvb
  have bxa := BX.keep ((Below.refl _ _).drew)
  clear BX
  have HB2 : Hid _ := B2
  have HK2 : Hid (Bk ((w.alloc (.cells #[.int .i64 b, .int .i64 d, .slice a ps.length cap] 28)).alloc (.cells #[.int .i64 0, .int .i64 0, .int .i64 0, .int .i64 0, .int .i64 0, .int .i64 0, .int .i64 0] 32)) (w.heap.size + 1) #[.int .i64 0, .int .i64 0, .int .i64 0, .int .i64 0, .int .i64 0, .int .i64 0, .int .i64 0] 32) := K2
  clear B2 K2
  generalize (stt b d ps x k).cells = A at *
  generalize (bestI b d x (peerI ps x).succ k).1 = v1 at *
  generalize (bestI b d x (peerI ps x).succ k).2 = v2 at *
  generalize (peerI ps x).succ = xs at *
  generalize (peerI ps x).id = xi at *
  generalize (peerI ps x).point = xp at *
  have hfs := fun w1 => field_succ xi xs xp (.slice ab nb cb) w1
  go_enter Try.func71, Try.ntmps71
  go_wp2_with fail
  go_region_held (fun w' => w'.cell? ⟨w.heap.size, 0, none⟩ = some (.int .i64 b) ∧ w'.cell? ⟨w.heap.size, 1, none⟩ = some (.int .i64 d) ∧ w'.cell? ⟨w.heap.size, 2, none⟩ = some (.slice a ps.length cap)) (with_reducible (first | exact ⟨bxa.c0, bxa.c1, bxa.c2⟩ | exact ⟨bxb.c0, bxb.c1, bxb.c2⟩ | exact ⟨bxc.c0, bxc.c1, bxc.c2⟩)) (first | (go_at_call 102; refine (CP _ bxa.bel).mono ?_; rintro e wd ⟨rfl, hwd⟩; have bxb := bxa.keep hwd) | (go_at_call 78; refine (CI _).mono ?_; rintro e w5 ⟨rfl, hwe⟩; have bxc := bxb.keep hwe))
  have B5 : Hid (Below w.heap.size w w5) := bxc.bel
  have K5 : Hid (Bk w5 (w.heap.size + 1) #[.int .i64 0, .int .i64 0, .int .i64 0, .int .i64 0, .int .i64 0, .int .i64 0, .int .i64 0] 32) := ((HK2.out.keep ((Below.refl _ _).drew)).keep hwd).keep hwe
  clear bxa bxb bxc hwd hwe CP CI HB2 HK2
  obtain ⟨f0, f1, f2, f3, f4, f5, f6⟩ := K5.out.f7
  obtain ⟨r0, r1, r2, r3, r4, r5, r6⟩ := Bk.c7 K5.out
  go_wp2_with fail
  refine bodyPost_ret (results_cell_row Try.results71 _ _ (w.heap.size + 1) _ _ _ _ rfl (Bk.setL [.int .i64 x, .int .i64 v1, .int .i64 v2, .int .i64 0, .int .i64 0, .int .i64 0, .int .i64 0] 0 K5.out) Try.underlying32 rfl (by kernel_rfl)) rfl ⟨by rw [HV.out]; rfl, setL_below (by omega) [.int .i64 x, .int .i64 v1, .int .i64 v2, .int .i64 0, .int .i64 0, .int .i64 0, .int .i64 0] 0 B5.out⟩
end Go.Proofs.Ytejajlloipkkhaa
namespace Go.Proofs.Ytejajlloipkkhaa
open Go.RowKit
set_option linter.unusedVariables false
section
variable {P : Program} {Q : Exit → Act → World → Prop}
/-- every operation waits for earlier ones alone, and the last for all -/
def lastB (l : List Oper) (o : Oper) : Bool :=
  ((List.range l.length).all fun i => o.after.any fun e => Region.binds .any e && e.on == i) &&
  (o.after.all fun e => !Region.binds .any e || decide (e.on < l.length)) &&
  ((List.range l.length).all fun j => match l[j]? with
    | some oj => (oj.after.all fun e => !Region.binds .any e || decide (e.on < j)) && (match oj.guard with | none => true | some (g, _) => decide (g < l.length))
    | none => true) && o.guard.isNone
structure LastP (l : List Oper) (o : Oper) : Prop where
  all : ∀ i, i < l.length → ∃ e ∈ o.after, Region.binds .any e = true ∧ e.on = i
  lt : ∀ e ∈ o.after, Region.binds .any e = true → e.on < l.length
  up : ∀ (j : Nat) (oj : Oper), l[j]? = some oj → ∀ e ∈ oj.after, Region.binds .any e = true → e.on < j
  gd : ∀ (j : Nat) (oj : Oper), l[j]? = some oj → ∀ (g : Nat) (b : Bool), oj.guard = some (g, b) → g < l.length
  no : o.guard = none
theorem lastP {l : List Oper} {o : Oper} (h : lastB l o = true) : LastP l o := by
  unfold lastB at h
  simp only [Bool.and_eq_true] at h
  obtain ⟨⟨⟨h1, h2⟩, h3⟩, h4⟩ := h
  rw [List.all_eq_true] at h1 h3
  rw [Array.all_eq_true_iff_forall_mem] at h2
  have h3' : ∀ (j : Nat) (oj : Oper), l[j]? = some oj → (oj.after.all fun e => !Region.binds .any e || decide (e.on < j)) = true ∧ (match oj.guard with | none => true | some (g, _) => decide (g < l.length)) = true := fun j oj hj => by
    have := h3 j (List.mem_range.2 (List.getElem?_eq_some_iff.1 hj).1)
    simp only [hj, Bool.and_eq_true] at this
    exact this
  refine ⟨fun i hi => ?_, fun e he hb => ?_, fun j oj hj e he hb => ?_, fun j oj hj g b hg => ?_, by simpa using h4⟩
  · have := h1 i (List.mem_range.2 hi)
    rw [Array.any_eq_true'] at this
    obtain ⟨e, he, hb⟩ := this
    simp only [Bool.and_eq_true, beq_iff_eq] at hb
    exact ⟨e, he, hb.1, hb.2⟩
  · have := h2 e he
    rw [hb] at this
    simpa using this
  · have := (h3' j oj hj).1
    rw [Array.all_eq_true_iff_forall_mem] at this
    have := this e he
    rw [hb] at this
    simpa using this
  · have := (h3' j oj hj).2
    rw [hg] at this
    simpa using this
def lastQ (P : Program) (ops : Array Oper) (Q : Exit → Act → World → Prop) (n : Nat) : Exit → Act → World → Prop
  | .normal, a, w => wpOp P ops Q n (Q .normal) a w
  | e, a, w => Q e a w
theorem upon_last {ops : Array Oper} {n : Nat} {o : Oper} {a : Act} {w : World} {K K' : Act → World → Prop} (h : ∀ a w, K a w → K' a w) (hh : o.wp P a w K (lastQ P ops Q n)) : o.wp P a w K' Q := by
  unfold Oper.wp at *
  generalize (execOp a.eval o).run P w = r at *
  cases r with
  | ok x w' =>
    cases x <;> simp only [Oper.upon] at hh ⊢ <;>
      first
        | exact h _ _ hh
        | exact Calls.mono hh (fun e w'' he => by cases e <;> first | exact h _ _ he | exact he)
        | exact Rows.mono hh (fun _ _ he => h _ _ he)
  | halt x w' => cases x <;> simp only [Oper.upon] at hh ⊢ <;> exact hh
theorem ops_head {l : List Oper} {o : Oper} {j : Nat} (hj : j < l.length) : (l ++ [o]).toArray[j]? = l.toArray[j]? := by
  rw [List.getElem?_toArray, List.getElem?_toArray, List.getElem?_append_left hj]
theorem ops_last {l : List Oper} {o : Oper} : (l ++ [o]).toArray[l.length]? = some o := by
  rw [List.getElem?_toArray, List.getElem?_append_right (Nat.le_refl _)]
  simp
theorem getD_f {L L' : Array Bool} {n : Nat} (s1 : L.size = n + 1) (s2 : L'.size = n) (he : ∀ i, i < n → L[i]? = L'[i]?) (hn : L.getD n true = false) (j : Nat) : L.getD j false = L'.getD j false := by
  rw [Array.getD_eq_getD_getElem?, Array.getD_eq_getD_getElem?]
  by_cases h : j < n
  · rw [he j h]
  · rw [Array.getElem?_eq_none (xs := L') (by omega)]
    by_cases h2 : j = n
    · subst h2
      rw [Array.getD_eq_getD_getElem?] at hn
      cases hx : L[j]? with
      | none => rfl
      | some b => rw [hx] at hn; simpa using hn
    · rw [Array.getElem?_eq_none (by omega)]
theorem getD_t {L L' : Array Bool} {n : Nat} (he : ∀ i, i < n → L[i]? = L'[i]?) {j : Nat} (hj : j < n) : L.getD j true = L'.getD j true := by
  rw [Array.getD_eq_getD_getElem?, Array.getD_eq_getD_getElem?, he j hj]
theorem ready_head {l : List Oper} {o : Oper} {L L' : Array Bool} (s1 : L.size = l.length + 1) (s2 : L'.size = l.length) (he : ∀ i, i < l.length → L[i]? = L'[i]?) (hn : L.getD l.length true = false) {j : Nat} (hj : j < l.length) :
    j ∈ Region.ready .any (l ++ [o]).toArray L ↔ j ∈ Region.ready .any l.toArray L' := by
  rw [mem_ready, mem_ready, ops_head hj, getD_t he hj]
  constructor
  · rintro ⟨h1, oj, h2, h3⟩
    exact ⟨h1, oj, h2, fun e hm hb => by rw [← getD_f s1 s2 he hn]; exact h3 e hm hb⟩
  · rintro ⟨h1, oj, h2, h3⟩
    exact ⟨h1, oj, h2, fun e hm hb => by rw [getD_f s1 s2 he hn]; exact h3 e hm hb⟩
theorem ready_lt {l : List Oper} {L' : Array Bool} {j : Nat} (h : j ∈ Region.ready .any l.toArray L') : j < l.length := by
  obtain ⟨_, oj, h2, _⟩ := mem_ready.1 h
  rw [List.getElem?_toArray] at h2
  exact (List.getElem?_eq_some_iff.1 h2).1
/-- where none may come up, all have -/
theorem all_listed {l : List Oper} {o : Oper} (H : LastP l o) {L' : Array Bool} (s2 : L'.size = l.length) (hr : Region.ready .any l.toArray L' = []) : ∀ n i, i < n → i < l.length → L'.getD i true = true := by
  intro n
  induction n with
  | zero => intro i h; omega
  | succ n ih =>
    intro i hi hl
    cases hx : L'.getD i true with
    | true => rfl
    | false =>
      exfalso
      have hm : i ∈ Region.ready .any l.toArray L' := by
        refine mem_ready.2 ⟨hx, l[i], by rw [List.getElem?_toArray, List.getElem?_eq_getElem hl], fun e he hb => ?_⟩
        have hlt := H.up i l[i] (List.getElem?_eq_getElem hl) e he hb
        have h1 := ih e.on (by omega) (by omega)
        rw [Array.getD_eq_getD_getElem?, Array.getElem?_eq_getElem (by omega)] at h1 ⊢
        simpa using h1
      rw [hr] at hm
      cases hm
theorem any_end {l : List Oper} {o : Oper} (H : LastP l o) (fuel : Nat) (L L' : Array Bool) (a : Act) (w : World) (s1 : L.size = l.length + 1) (s2 : L'.size = l.length) (he : ∀ i, i < l.length → L[i]? = L'[i]?) (hn : L.getD l.length true = false)
    (hr : Region.ready .any l.toArray L' = []) (h : wpOp P (l ++ [o]).toArray Q l.length (Q .normal) a w) : wpAny P .any (l ++ [o]).toArray Q (fuel + 1) L a w := by
  have hall := all_listed H s2 hr l.length
  have hlast : l.length ∈ Region.ready .any (l ++ [o]).toArray L := by
    refine mem_ready.2 ⟨hn, o, ops_last, fun e hm hb => ?_⟩
    have hlt := H.lt e hm hb
    have h1 := hall e.on hlt hlt
    rw [getD_f s1 s2 he hn, Array.getD_eq_getD_getElem?, Array.getElem?_eq_getElem (by omega)]
    rw [Array.getD_eq_getD_getElem?, Array.getElem?_eq_getElem (by omega)] at h1
    simpa using h1
  refine ⟨fun h0 => (by rw [h0] at hlast; cases hlast), fun i hi => ?_⟩
  have hin : i = l.length := by
    by_cases hil : i < l.length
    · have := (ready_head s1 s2 he hn hil).1 hi
      rw [hr] at this
      cases this
    · obtain ⟨_, oi, h2, _⟩ := mem_ready.1 hi
      have := (Array.getElem?_eq_some_iff.1 h2).1
      simp at this
      omega
  subst hin
  refine wpOp_mono (fun a' w' hq => ?_) h
  have hnone : Region.ready .any (l ++ [o]).toArray (L.setIfInBounds l.length true) = [] := by
    cases hx : Region.ready .any (l ++ [o]).toArray (L.setIfInBounds l.length true) with
    | nil => rfl
    | cons j js =>
      exfalso
      have hj : j ∈ Region.ready .any (l ++ [o]).toArray (L.setIfInBounds l.length true) := by rw [hx]; simp
      obtain ⟨h1, oj, h2, _⟩ := mem_ready.1 hj
      have hlt := (Array.getElem?_eq_some_iff.1 h2).1
      simp at hlt
      by_cases hjn : j = l.length
      · subst hjn
        rw [Array.getD_eq_getD_getElem?, Array.getElem?_setIfInBounds] at h1
        simp [s1] at h1
      · have h3 := hall j (by omega) (by omega)
        rw [getD_set_ne true (by omega), getD_t he (by omega), h3] at h1
        cases h1
  cases fuel with
  | zero => exact ⟨hnone, hq⟩
  | succ f => exact ⟨fun _ => hq, fun i hi => by rw [hnone] at hi; cases hi⟩
theorem any_snoc {l : List Oper} {o : Oper} (H : LastP l o) : ∀ (fuel : Nat) (L L' : Array Bool) (a : Act) (w : World), L.size = l.length + 1 → L'.size = l.length → (∀ i, i < l.length → L[i]? = L'[i]?) → L.getD l.length true = false →
    wpAny P .any l.toArray (lastQ P (l ++ [o]).toArray Q l.length) fuel L' a w → wpAny P .any (l ++ [o]).toArray Q (fuel + 1) L a w := by
  intro fuel
  induction fuel with
  | zero =>
    intro L L' a w s1 s2 he hn h
    exact any_end H 0 L L' a w s1 s2 he hn h.1 h.2
  | succ fuel ih =>
    intro L L' a w s1 s2 he hn h
    by_cases hr : Region.ready .any l.toArray L' = []
    · exact any_end H (fuel + 1) L L' a w s1 s2 he hn hr (h.1 hr)
    · refine ⟨fun h0 => ?_, fun i hi => ?_⟩
      · exfalso
        cases hx : Region.ready .any l.toArray L' with
        | nil => exact hr hx
        | cons j js =>
          have hj : j ∈ Region.ready .any l.toArray L' := by rw [hx]; simp
          have := (ready_head (o := o) s1 s2 he hn (ready_lt hj)).2 hj
          rw [h0] at this
          cases this
      · have hil : i < l.length := by
          by_cases hil : i < l.length
          · exact hil
          · exfalso
            obtain ⟨_, oi, h2, h3⟩ := mem_ready.1 hi
            have hlt := (Array.getElem?_eq_some_iff.1 h2).1
            simp at hlt
            obtain rfl : i = l.length := by omega
            rw [ops_last] at h2
            obtain rfl : o = oi := Option.some.inj h2
            cases hx : Region.ready .any l.toArray L' with
            | nil => exact hr hx
            | cons j js =>
              have hj : j ∈ Region.ready .any l.toArray L' := by rw [hx]; simp
              have hjl := ready_lt hj
              obtain ⟨e, hm, hb, he2⟩ := H.all j hjl
              have h4 := h3 e hm hb
              rw [he2, getD_f s1 s2 he hn] at h4
              have h5 := (mem_ready.1 hj).1
              rw [Array.getD_eq_getD_getElem?, Array.getElem?_eq_getElem (by omega)] at h4 h5
              simp at h4 h5
              rw [h4] at h5
              cases h5
        have h1 := h.2 i ((ready_head s1 s2 he hn hil).1 hi)
        unfold wpOp at h1 ⊢
        rw [ops_head hil]
        have hg : l.toArray[i]? = some l[i] := by rw [List.getElem?_toArray, List.getElem?_eq_getElem hil]
        rw [hg] at h1 ⊢
        simp only at h1 ⊢
        have hw : Region.wanted l[i] (yielded (l ++ [o]).toArray a.tmps) = Region.wanted l[i] (yielded l.toArray a.tmps) := by
          unfold Region.wanted
          cases hgd : l[i].guard with
          | none => rfl
          | some gb =>
            obtain ⟨g, b⟩ := gb
            have hgl := H.gd i l[i] (List.getElem?_eq_getElem hil) g b hgd
            simp only [yielded, ops_head hgl]
        rw [hw]
        have hnext : ∀ a' w', wpAny P .any l.toArray (lastQ P (l ++ [o]).toArray Q l.length) fuel (L'.setIfInBounds i true) a' w' → wpAny P .any (l ++ [o]).toArray Q (fuel + 1) (L.setIfInBounds i true) a' w' := fun a' w' hh => by
          refine ih (L.setIfInBounds i true) (L'.setIfInBounds i true) a' w' (by simpa using s1) (by simpa using s2) (fun k hk => ?_) ?_ hh
          · rw [Array.getElem?_setIfInBounds, Array.getElem?_setIfInBounds, he k hk]
            simp [s1, s2, hil, show i < l.length + 1 by omega]
          · rw [getD_set_ne true (by omega)]
            exact hn
        by_cases hwt : Region.wanted l[i] (yielded l.toArray a.tmps) = true
        · rw [if_pos hwt] at h1 ⊢
          rcases h1 with h1 | ⟨h1, h2⟩
          · exact .inl (upon_last hnext h1)
          · exact .inr ⟨h1, h2⟩
        · rw [if_neg hwt] at h1 ⊢
          exact hnext _ _ h1
/-- all operations but the last in a class of worlds, then the last -/
theorem region_kin_last {id : Nat} {a : Act} {w : World} {L : List Oper} {o : Oper} (n B : Nat) (ho : L.drop n = [o]) (hm : P.follows .mixedOrders = true) (hB : Region.lexB .any (L.take n).toArray = true) (hL : lastB (L.take n) o = true)
    (h : Nonempty (Kin B w) → wpQuiet P (L.take n).toArray (fun w' => ∃ p : Kin B w, w' = p.v) (fun a' => ∀ w', (∃ p : Kin B w, w' = p.v) → wpList P L.toArray Q [o] a' w') (L.take n) a) : (Code.region id L.toArray true).wp P Q a w := by
  have e : L = L.take n ++ [o] := by rw [← ho, List.take_append_drop]
  generalize L.take n = l at *
  subst e
  have H := lastP hL
  refine wp_region_any hm ?_
  have hop : ∀ a' w', wpList P (l ++ [o]).toArray Q [o] a' w' → wpOp P (l ++ [o]).toArray Q l.length (Q .normal) a' w' := fun a' w' hh => by
    unfold wpOp
    rw [ops_last]
    exact hh
  have h0 := h (kinNe B w)
  simp only [Region.lexB, Bool.and_eq_true] at hB
  have h1 := wpAnyQ_lex (P := P) (C := fun w' => ∃ p : Kin B w, w' = p.v) (md := .any) hB.1 l 0 (Array.replicate l.length false) a (by simp) (by simpa using hB.2) h0
  have h2 : wpAny P .any l.toArray (lastQ P (l ++ [o]).toArray Q l.length) l.length (Array.replicate l.length false) a { w with drawn := w.drawn + 1 } :=
    wpAny_of_quiet (Q := fun a' => ∀ w', (∃ p : Kin B w, w' = p.v) → wpList P (l ++ [o]).toArray Q [o] a' w') (fun a' w' hw' hq => hop a' w' (hq w' hw')) _ _ _ _ ⟨⟨w.drew, (Below.refl _ _).drew⟩, rfl⟩ h1
  have h3 := any_snoc H l.length (Array.replicate (l.length + 1) false) (Array.replicate l.length false) a _ (by simp) (by simp) (fun i hi => by simp [hi, show i < l.length + 1 by omega]) (by simp) h2
  simpa using h3
end
end Go.Proofs.Ytejajlloipkkhaa
namespace Go.Proofs.Ytejajlloipkkhaa
open Go.RowKit
set_option linter.unusedVariables false
section
variable {P : Program} {Q : Exit → Act → World → Prop} {C : World → Prop}
theorem extract_yields {o : Oper} {t : Operand} {i : Nat} (ho : o.op = .extract t i) (a : Act) (w : World) (v : Value) (h : o.quietAt P a C w v) (w2 : World) : (execOp a.eval o).run P w2 = .ok (.value v) w2 := by
  unfold Oper.quietAt at h
  simp only [execOp, ho] at h ⊢
  unfold Instr.extract at h ⊢
  cases ht : a.eval t with
  | tuple vs =>
    rw [ht] at h
    simp only at h ⊢
    cases hv : vs[i]? with
    | none => rw [hv] at h; simp [Oper.quietUpon] at h
    | some u =>
      rw [hv] at h
      simp [Oper.quietUpon] at h ⊢
      exact h
  | _ => rw [ht] at h; simp [Oper.quietUpon] at h
/-- as 'lastB', but the last one need not wait for operation x, which is apart from all that do not wait for it -/
def lastXB (l : List Oper) (o : Oper) (x : Nat) : Bool :=
  ((List.range l.length).all fun i => i == x || o.after.any fun e => Region.binds .any e && e.on == i) &&
  (o.after.all fun e => !Region.binds .any e || decide (e.on < l.length)) &&
  ((List.range l.length).all fun j => match l[j]? with
    | some oj => (oj.after.all fun e => !Region.binds .any e || decide (e.on < j)) && (match oj.guard with | none => true | some (g, _) => decide (g < l.length))
    | none => true) && o.guard.isNone &&
  (match l[x]? with
    | some ox => ox.guard.isNone && (List.range (l.length + 1)).all fun j => j == x || (match (l ++ [o])[j]? with
      | some oj => (oj.after.any fun e => Region.binds .any e && e.on == x) || (ox.after.any fun e => Region.binds .any e && e.on == j) || ox.apart (l ++ [o]).toArray oj
      | none => true)
    | none => false) && Region.noSelect (l ++ [o]).toArray
structure LastX (l : List Oper) (o : Oper) (x : Nat) (ox : Oper) : Prop where
  all : ∀ i, i < l.length → ¬ i = x → ∃ e ∈ o.after, Region.binds .any e = true ∧ e.on = i
  lt : ∀ e ∈ o.after, Region.binds .any e = true → e.on < l.length
  up : ∀ (j : Nat) (oj : Oper), l[j]? = some oj → ∀ e ∈ oj.after, Region.binds .any e = true → e.on < j
  gd : ∀ (j : Nat) (oj : Oper), l[j]? = some oj → ∀ (g : Nat) (b : Bool), oj.guard = some (g, b) → g < l.length
  no : o.guard = none
  hx : l[x]? = some ox
  xn : ox.guard = none
  ap : ∀ (j : Nat) (oj : Oper), (l ++ [o]).toArray[j]? = some oj → j ≠ x → (∀ e ∈ oj.after, Region.binds .any e = true → e.on ≠ x) → (∃ e ∈ ox.after, Region.binds .any e = true ∧ e.on = j) ∨ ox.apart (l ++ [o]).toArray oj = true
  sel : Region.noSelect (l ++ [o]).toArray = true
theorem lastX {l : List Oper} {o : Oper} {x : Nat} (h : lastXB l o x = true) {ox : Oper} (hx : l[x]? = some ox) : LastX l o x ox := by
  unfold lastXB at h
  simp only [Bool.and_eq_true] at h
  obtain ⟨⟨⟨⟨⟨h1, h2⟩, h3⟩, h4⟩, h5⟩, h6⟩ := h
  rw [List.all_eq_true] at h1 h3
  rw [Array.all_eq_true_iff_forall_mem] at h2
  rw [hx] at h5
  simp only [Bool.and_eq_true] at h5
  obtain ⟨h5, h7⟩ := h5
  rw [List.all_eq_true] at h7
  have h3' : ∀ (j : Nat) (oj : Oper), l[j]? = some oj → (oj.after.all fun e => !Region.binds .any e || decide (e.on < j)) = true ∧ (match oj.guard with | none => true | some (g, _) => decide (g < l.length)) = true := fun j oj hj => by
    have := h3 j (List.mem_range.2 (List.getElem?_eq_some_iff.1 hj).1)
    simp only [hj, Bool.and_eq_true] at this
    exact this
  refine ⟨fun i hi hne => ?_, fun e he hb => ?_, fun j oj hj e he hb => ?_, fun j oj hj g b hg => ?_, by simpa using h4, hx, by simpa using h5, fun j oj hj hne hno => ?_, h6⟩
  · have := h1 i (List.mem_range.2 hi)
    rw [Bool.or_eq_true] at this
    rcases this with this | this
    · exact absurd (by simpa using this) hne
    · rw [Array.any_eq_true'] at this
      obtain ⟨e, he, hb⟩ := this
      simp only [Bool.and_eq_true, beq_iff_eq] at hb
      exact ⟨e, he, hb.1, hb.2⟩
  · have := h2 e he
    rw [hb] at this
    simpa using this
  · have := (h3' j oj hj).1
    rw [Array.all_eq_true_iff_forall_mem] at this
    have := this e he
    rw [hb] at this
    simpa using this
  · have := (h3' j oj hj).2
    rw [hg] at this
    simpa using this
  · have hlt := (Array.getElem?_eq_some_iff.1 hj).1
    simp at hlt
    have := h7 j (List.mem_range.2 hlt)
    rw [Bool.or_eq_true] at this
    rcases this with this | this
    · exact absurd (by simpa using this) hne
    · rw [List.getElem?_toArray] at hj
      rw [hj] at this
      simp only [Bool.or_eq_true] at this
      rcases this with (this | this) | this
      · rw [Array.any_eq_true'] at this
        obtain ⟨e, he, hb⟩ := this
        simp only [Bool.and_eq_true, beq_iff_eq] at hb
        exact absurd hb.2 (hno e he hb.1)
      · rw [Array.any_eq_true'] at this
        obtain ⟨e, he, hb⟩ := this
        simp only [Bool.and_eq_true, beq_iff_eq] at hb
        exact .inl ⟨e, he, hb.1, hb.2⟩
      · exact .inr this
theorem all_listedX {l : List Oper} (up : ∀ (j : Nat) (oj : Oper), l[j]? = some oj → ∀ e ∈ oj.after, Region.binds .any e = true → e.on < j) {L' : Array Bool} (s2 : L'.size = l.length) (hr : Region.ready .any l.toArray L' = []) : ∀ n i, i < n → i < l.length → L'.getD i true = true := by
  intro n
  induction n with
  | zero => intro i h; omega
  | succ n ih =>
    intro i hi hl
    cases hx : L'.getD i true with
    | true => rfl
    | false =>
      exfalso
      have hm : i ∈ Region.ready .any l.toArray L' := by
        refine mem_ready.2 ⟨hx, l[i], by rw [List.getElem?_toArray, List.getElem?_eq_getElem hl], fun e he hb => ?_⟩
        have hlt := up i l[i] (List.getElem?_eq_getElem hl) e he hb
        have h1 := ih e.on (by omega) (by omega)
        rw [Array.getD_eq_getD_getElem?, Array.getElem?_eq_getElem (by omega)] at h1 ⊢
        simpa using h1
      rw [hr] at hm
      cases hm
theorem any_endX {l : List Oper} {o : Oper} {x : Nat} {ox : Oper} (H : LastX l o x ox) (fuel : Nat) (L L' : Array Bool) (a : Act) (w : World) (s1 : L.size = l.length + 1) (s2 : L'.size = l.length) (he : ∀ i, i < l.length → L[i]? = L'[i]?) (hn : L.getD l.length true = false)
    (hr : Region.ready .any l.toArray L' = []) (h : wpOp P (l ++ [o]).toArray Q l.length (Q .normal) a w) : wpAny P .any (l ++ [o]).toArray Q (fuel + 1) L a w := by
  have hall := all_listedX H.up s2 hr l.length
  have hlast : l.length ∈ Region.ready .any (l ++ [o]).toArray L := by
    refine mem_ready.2 ⟨hn, o, ops_last, fun e hm hb => ?_⟩
    have hlt := H.lt e hm hb
    have h1 := hall e.on hlt hlt
    rw [getD_f s1 s2 he hn, Array.getD_eq_getD_getElem?, Array.getElem?_eq_getElem (by omega)]
    rw [Array.getD_eq_getD_getElem?, Array.getElem?_eq_getElem (by omega)] at h1
    simpa using h1
  refine ⟨fun h0 => (by rw [h0] at hlast; cases hlast), fun i hi => ?_⟩
  have hin : i = l.length := by
    by_cases hil : i < l.length
    · have := (ready_head s1 s2 he hn hil).1 hi
      rw [hr] at this
      cases this
    · obtain ⟨_, oi, h2, _⟩ := mem_ready.1 hi
      have := (Array.getElem?_eq_some_iff.1 h2).1
      simp at this
      omega
  subst hin
  refine wpOp_mono (fun a' w' hq => ?_) h
  have hnone : Region.ready .any (l ++ [o]).toArray (L.setIfInBounds l.length true) = [] := by
    cases hx : Region.ready .any (l ++ [o]).toArray (L.setIfInBounds l.length true) with
    | nil => rfl
    | cons j js =>
      exfalso
      have hj : j ∈ Region.ready .any (l ++ [o]).toArray (L.setIfInBounds l.length true) := by rw [hx]; simp
      obtain ⟨h1, oj, h2, _⟩ := mem_ready.1 hj
      have hlt := (Array.getElem?_eq_some_iff.1 h2).1
      simp at hlt
      by_cases hjn : j = l.length
      · subst hjn
        rw [Array.getD_eq_getD_getElem?, Array.getElem?_setIfInBounds] at h1
        simp [s1] at h1
      · have h3 := hall j (by omega) (by omega)
        rw [getD_set_ne true (by omega), getD_t he (by omega), h3] at h1
        cases h1
  cases fuel with
  | zero => exact ⟨hnone, hq⟩
  | succ f => exact ⟨fun _ => hq, fun i hi => by rw [hnone] at hi; cases hi⟩
theorem qOp_head {l : List Oper} {o : Oper} {x : Nat} {ox : Oper} (H : LastX l o x ox) {i : Nat} {K : Act → Prop} {a : Act} (hil : i < l.length) (h : qOp P l.toArray C i K a) : qOp P (l ++ [o]).toArray C i K a := by
  unfold qOp at h ⊢
  rw [ops_head hil]
  have hg : l.toArray[i]? = some l[i] := by rw [List.getElem?_toArray, List.getElem?_eq_getElem hil]
  rw [hg] at h ⊢
  simp only at h ⊢
  have hw : Region.wanted l[i] (yielded (l ++ [o]).toArray a.tmps) = Region.wanted l[i] (yielded l.toArray a.tmps) := by
    unfold Region.wanted
    cases hgd : l[i].guard with
    | none => rfl
    | some gb =>
      obtain ⟨g, b⟩ := gb
      have hgl := H.gd i l[i] (List.getElem?_eq_getElem hil) g b hgd
      simp only [yielded, ops_head hgl]
  rw [hw]
  exact h
theorem anyq_snoc {l : List Oper} {o : Oper} {x : Nat} {ox : Oper} {Qa : Act → Prop} (H : LastX l o x ox) (hW : ∀ a w v, ox.quietAt P a C w v → ∀ w2, (execOp a.eval ox).run P w2 = .ok (.value v) w2)
    (hQ : ∀ (v : Value) c a w, Q (.panic c) (a.put ox.dst v) w → Q (.panic c) a w) (hend : ∀ a w, C w → Qa a → wpOp P (l ++ [o]).toArray Q l.length (Q .normal) a w) :
    ∀ (fuel : Nat) (L L' : Array Bool) (a : Act) (w : World), C w → L.size = l.length + 1 → L'.size = l.length → (∀ i, i < l.length → L[i]? = L'[i]?) → L.getD l.length true = false →
    wpAnyQ P .any l.toArray C Qa fuel L' a → wpAny P .any (l ++ [o]).toArray Q (fuel + 1) L a w := by
  have hxl : x < l.length := (List.getElem?_eq_some_iff.1 H.hx).1
  intro fuel
  induction fuel with
  | zero =>
    intro L L' a w hC s1 s2 he hn h
    exact any_endX H 0 L L' a w s1 s2 he hn h.1 (hend a w hC h.2)
  | succ fuel ih =>
    intro L L' a w hC s1 s2 he hn h
    by_cases hr : Region.ready .any l.toArray L' = []
    · exact any_endX H (fuel + 1) L L' a w s1 s2 he hn hr (hend a w hC (h.1 hr))
    · have hnext : ∀ i, i < l.length → ∀ a' w', C w' → wpAnyQ P .any l.toArray C Qa fuel (L'.setIfInBounds i true) a' → wpAny P .any (l ++ [o]).toArray Q (fuel + 1) (L.setIfInBounds i true) a' w' := fun i hil a' w' hC' hh => by
        refine ih (L.setIfInBounds i true) (L'.setIfInBounds i true) a' w' hC' (by simpa using s1) (by simpa using s2) (fun k hk => ?_) ?_ hh
        · rw [Array.getElem?_setIfInBounds, Array.getElem?_setIfInBounds, he k hk]
          simp [s1, s2, hil, show i < l.length + 1 by omega]
        · rw [getD_set_ne true (by omega)]
          exact hn
      by_cases hxr : x ∈ Region.ready .any l.toArray L'
      · have hq := h.2 x hxr
        unfold qOp at hq
        rw [show l.toArray[x]? = some ox by rw [List.getElem?_toArray]; exact H.hx] at hq
        have hwt : ∀ y, Region.wanted ox y = true := fun y => by unfold Region.wanted; rw [H.xn]
        simp only [hwt, if_true] at hq
        obtain ⟨v, h1, h2⟩ := hq
        refine wpAny_first (i := x) (oi := ox) (v := v) (by rw [ops_head hxl, List.getElem?_toArray]; exact H.hx) (Region.noSelect_spec H.sel) (hQ v) (fuel + 1) L a w (fun j oj hj hne hun hno => by
          rcases H.ap j oj hj hne hno with ⟨e, hm, hb, he2⟩ | h5
          · exfalso
            obtain ⟨_, ox', h6, h7⟩ := mem_ready.1 ((ready_head (o := o) s1 s2 he hn hxl).2 hxr)
            rw [ops_head hxl, List.getElem?_toArray, H.hx] at h6
            obtain rfl : ox = ox' := Option.some.inj h6
            have h8 := h7 e hm hb
            rw [he2] at h8
            rw [Array.getD_eq_getD_getElem?] at h8 hun
            cases hz : L[j]? with
            | none => rw [hz] at h8; cases h8
            | some b => rw [hz] at h8 hun; simp at h8 hun; rw [h8] at hun; cases hun
          · exact h5) ((ready_head s1 s2 he hn hxl).2 hxr) (.inl ⟨hwt _, hW a w v (h1 w hC)⟩) (hnext x hxl _ _ hC h2)
      · refine ⟨fun h0 => ?_, fun i hi => ?_⟩
        · exfalso
          cases hx : Region.ready .any l.toArray L' with
          | nil => exact hr hx
          | cons j js =>
            have hj : j ∈ Region.ready .any l.toArray L' := by rw [hx]; simp
            have := (ready_head (o := o) s1 s2 he hn (ready_lt hj)).2 hj
            rw [h0] at this
            cases this
        · have hil : i < l.length := by
            by_cases hil : i < l.length
            · exact hil
            · exfalso
              obtain ⟨_, oi, h2, h3⟩ := mem_ready.1 hi
              have hlt := (Array.getElem?_eq_some_iff.1 h2).1
              simp at hlt
              obtain rfl : i = l.length := by omega
              rw [ops_last] at h2
              obtain rfl : o = oi := Option.some.inj h2
              have hoth : ∀ j, j < l.length → ¬ j = x → L'.getD j false = true := fun j hj hne => by
                obtain ⟨e, hm, hb, he2⟩ := H.all j hj hne
                have h4 := h3 e hm hb
                rwa [he2, getD_f s1 s2 he hn] at h4
              have hxx : L'.getD x true = true := by
                cases hx : L'.getD x true with
                | true => rfl
                | false =>
                  exfalso
                  refine hxr (mem_ready.2 ⟨hx, ox, by rw [List.getElem?_toArray]; exact H.hx, fun e hm hb => ?_⟩)
                  have := H.up x ox H.hx e hm hb
                  exact hoth e.on (by omega) (by omega)
              cases hx : Region.ready .any l.toArray L' with
              | nil => exact hr hx
              | cons j js =>
                have hj : j ∈ Region.ready .any l.toArray L' := by rw [hx]; simp
                have hjl := ready_lt hj
                have h5 := (mem_ready.1 hj).1
                by_cases hjx : j = x
                · subst hjx; rw [hxx] at h5; cases h5
                · have h4 := hoth j hjl hjx
                  rw [Array.getD_eq_getD_getElem?, Array.getElem?_eq_getElem (by omega)] at h4 h5
                  simp at h4 h5
                  rw [h4] at h5
                  cases h5
          exact wpOp_of_qOp hC (fun a' w' hC' hK => hnext i hil a' w' hC' hK) (qOp_head H hil (h.2 i ((ready_head s1 s2 he hn hil).1 hi)))
theorem region_kin_lastX {id : Nat} {a : Act} {w : World} {L : List Oper} {o ox : Oper} {tx : Operand} {ix : Nat} (n x B : Nat) (ho : L.drop n = [o]) (hox : (L.take n)[x]? = some ox) (hxo : ox.op = .extract tx ix) (hm : P.follows .mixedOrders = true) (hB : Region.lexB .any (L.take n).toArray = true) (hL : lastXB (L.take n) o x = true)
    (hQ : ∀ (v : Value) c a w, Q (.panic c) (a.put ox.dst v) w → Q (.panic c) a w)
    (h : Nonempty (Kin B w) → wpQuiet P (L.take n).toArray (fun w' => ∃ p : Kin B w, w' = p.v) (fun a' => ∀ w', (∃ p : Kin B w, w' = p.v) → wpList P L.toArray Q [o] a' w') (L.take n) a) : (Code.region id L.toArray true).wp P Q a w := by
  have e : L = L.take n ++ [o] := by rw [← ho, List.take_append_drop]
  generalize L.take n = l at *
  subst e
  have H := lastX hL hox
  refine wp_region_any hm ?_
  have hop : ∀ a' w', wpList P (l ++ [o]).toArray Q [o] a' w' → wpOp P (l ++ [o]).toArray Q l.length (Q .normal) a' w' := fun a' w' hh => by
    unfold wpOp
    rw [ops_last]
    exact hh
  have h0 := h (kinNe B w)
  simp only [Region.lexB, Bool.and_eq_true] at hB
  have h1 := wpAnyQ_lex (P := P) (C := fun w' => ∃ p : Kin B w, w' = p.v) (md := .any) hB.1 l 0 (Array.replicate l.length false) a (by simp) (by simpa using hB.2) h0
  have h3 := anyq_snoc (C := fun w' => ∃ p : Kin B w, w' = p.v) H (fun a w v hh w2 => extract_yields hxo a w v hh w2) hQ (fun a' w' hC hq => hop a' w' (hq w' hC)) l.length (Array.replicate (l.length + 1) false) (Array.replicate l.length false) a { w with drawn := w.drawn + 1 } ⟨⟨w.drew, (Below.refl _ _).drew⟩, rfl⟩ (by simp) (by simp) (fun i hi => by simp [hi, show i < l.length + 1 by omega]) (by simp) h1
  simpa using h3
end
end Go.Proofs.Ytejajlloipkkhaa
namespace Go.Proofs.Ytejajlloipkkhaa
open Go.RowKit Go.Deep
set_option linter.unusedVariables false
/-- what a step asks of a walk -/
structure WV (b d : Int) (ps : List Pr) (k : Int) (v : Wk) : Prop where
  mem : hasB (idsP ps) v.at_ = true
  i1 : 0 ≤ v.imag
  i2 : v.imag < sz b
  l1 : 0 ≤ v.left
  l2 : v.left ≤ b / d
  p1 : 0 ≤ v.points
  p2 : v.points ≤ 1000
  s1 : 0 ≤ v.succs
  s2 : v.succs ≤ 1000
/-- behind the call of InArc: the walk's box and the answer's -/
structure SO (w wr : World) (V : Array Value) : Prop where
  bel : Below w.heap.size w wr
  kv : Bk wr w.heap.size V 32
  ka : Bk wr (w.heap.size + 1) #[.int .i64 0, .int .i64 0, .int .i64 0, .int .i64 0, .int .i64 0, .int .i64 0, .int .i64 0] 32
theorem SO.keep {w wr w1 : World} {V : Array Value} (h : SO w wr V) (hb : Below wr.heap.size wr w1) : SO w w1 V := ⟨belt h.bel hb, h.kv.keep hb, h.ka.keep hb⟩
theorem so0 (w : World) (V : Array Value) : SO w ((w.alloc (.cells V 32)).alloc (.cells #[.int .i64 0, .int .i64 0, .int .i64 0, .int .i64 0, .int .i64 0, .int .i64 0, .int .i64 0] 32)) V := by
  refine ⟨((Below.refl _ _).alloc (Nat.le_refl _) _).alloc (by simp) _, (Bk.new w V 32).alloc _, ?_⟩
  have := Bk.new (w.alloc (.cells V 32)) #[.int .i64 0, .int .i64 0, .int .i64 0, .int .i64 0, .int .i64 0, .int .i64 0, .int .i64 0] 32
  simpa using this
theorem SO.set {w wr : World} {V : Array Value} (h : SO w wr V) (i : Nat) (x : Value) : SO w (wr.setCell ⟨w.heap.size, i, none⟩ x) (V.setIfInBounds i x) := ⟨h.bel.setCell (Nat.le_refl _) _, h.kv.set i x, h.ka.oth (by omega) i x⟩
theorem SO.s3 {w wr : World} {b d : Int} {q : Nat} {x0 x1 x2 x3 x4 x5 x6 : Value} (h : SO w wr #[x0, x1, x2, x3, x4, x5, x6]) (qlt : q < w.heap.size) (q0 : w.cell? ⟨q, 0, none⟩ = some (.int .i64 b)) (q1 : w.cell? ⟨q, 1, none⟩ = some (.int .i64 d)) : wr.cell? ⟨q, 0, none⟩ = some (.int .i64 b) ∧ wr.cell? ⟨q, 1, none⟩ = some (.int .i64 d) ∧ wr.cell? ⟨w.heap.size, 2, none⟩ = some x2 :=
  ⟨(h.bel.cell (p := ⟨q, 0, none⟩) qlt).trans q0, (h.bel.cell (p := ⟨q, 1, none⟩) qlt).trans q1, h.kv.cell 2⟩
theorem SO.s4 {w wr : World} {b d : Int} {q : Nat} {x0 x1 x2 x3 x4 x5 x6 : Value} (h : SO w wr #[x0, x1, x2, x3, x4, x5, x6]) (y : Value) (qlt : q < w.heap.size) (q0 : w.cell? ⟨q, 0, none⟩ = some (.int .i64 b)) (q1 : w.cell? ⟨q, 1, none⟩ = some (.int .i64 d)) : (wr.setCell ⟨w.heap.size, 1, none⟩ y).cell? ⟨q, 0, none⟩ = some (.int .i64 b) ∧ (wr.setCell ⟨w.heap.size, 1, none⟩ y).cell? ⟨q, 1, none⟩ = some (.int .i64 d) ∧ (wr.setCell ⟨w.heap.size, 1, none⟩ y).cell? ⟨w.heap.size, 2, none⟩ = some x2 :=
  SO.s3 (x0 := x0) (x1 := y) (x2 := x2) (x3 := x3) (x4 := x4) (x5 := x5) (x6 := x6) (h.set 1 y) qlt q0 q1
/-- the answer is written and the call ends -/
theorem SO.out {w wr : World} {V : Array Value} {vs : List Value} (h : SO w wr V) : Bk (setL wr (w.heap.size + 1) 0 vs) (w.heap.size + 1) (ovr #[.int .i64 0, .int .i64 0, .int .i64 0, .int .i64 0, .int .i64 0, .int .i64 0, .int .i64 0] 0 vs) 32 ∧ Below w.heap.size w (setL wr (w.heap.size + 1) 0 vs) := ⟨h.ka.setL vs 0, setL_below (by omega) vs 0 h.bel⟩
set_option maxRecDepth 100000 in
set_option maxHeartbeats 3200000 in
theorem stepOn_any (b d : Int) (q bk off n cap : Nat) (ps : List Pr) (k ttl : Int) (v : Wk) (w : World) (hg : goodP b d ps = true) (hv : WV b d ps k v) (k1 : 0 ≤ k) (k2 : k < sz b) (t1 : 0 ≤ ttl) (t2 : ttl ≤ 1000) (hq : PQ w q b d bk off n cap ps) :
    Calls Try.prog 52 #[.pointer (some ⟨q, 0, none⟩), .int .i64 k, .int .i64 ttl, .agg v.cells] w fun e w' => e = .returned (.agg (stp b d ps k ttl v).cells) ∧ Below w.heap.size w w' := by
  have R := (goodP_true hg).1
  have gs := R.gs
  obtain ⟨hb1, hb2, hd1, hd2, _⟩ := gsB_true gs
  obtain ⟨hs1, hs2⟩ := sz_bd hb1 hb2
  obtain ⟨hq0, q1, q2⟩ := cnt_bd hb1 hb2 hd1 hd2
  have l2 := R.l2
  rw [idsP_len] at l2
  obtain ⟨mem, i1, i2, l0, l3, p1, p2, s1, s2⟩ := hv
  obtain ⟨va, vi, vl, vp, vs, vt, vo⟩ := v
  simp only at mem i1 i2 l0 l3 p1 p2 s1 s2
  obtain ⟨x1, x2⟩ := has_rng R mem
  obtain ⟨u1, u2⟩ := succ_rng hg mem
  have pid := (peerI_good hg mem).1
  obtain rfl : ps.length = n := hq.ln
  obtain ⟨hbk, pa⟩ := peer_at mem hq.pa
  have HPA : Hid (PeerAt w bk (off + idxI ps va * 4) (peerI ps va)) := pa
  have HQ : Hid (PQ w q b d bk off ps.length cap ps) := hq
  have HPI : Hid ((peerI ps va).id = va) := pid
  have CP : ∀ w1, Below w.heap.size w w1 → Calls Try.prog 90 #[.pointer (some ⟨q, 0, none⟩), .int .i64 va] w1 fun e w' => e = .returned (.pointer (some ⟨bk, off + idxI ps va * 4, none⟩)) ∧ Below w1.heap.size w1 w' := fun w1 hb => by
    have h := HQ.out.keep hb
    refine (peerOf_any q bk off cap ps va w1 (by omega) mem h.c2 h.pa).mono ?_
    rintro e w2 ⟨rfl, rfl⟩
    exact ⟨rfl, Below.refl _ _⟩
  have CA := fun w1 => InArc_any b d va k (peerI ps va).succ w1
  rw [aVal_eq gs x1 x2 k1 k2 u1 u2] at CA
  have CS : ∀ w1, Below w.heap.size w w1 → Calls Try.prog 91 #[.agg #[.int .i64 b, .int .i64 d], .pointer (some ⟨bk, off + idxI ps va * 4, none⟩), .int .i64 vi] w1 fun e w' => e = .returned (.bool (stdB b va vi (peerI ps va).succ)) ∧ Below w1.heap.size w1 w' := fun w1 hb => by
    have h := standsFor_any b d bk (off + idxI ps va * 4) (peerI ps va) vi w1 gs (by rw [HPI.out]; exact x1) (by rw [HPI.out]; exact x2) u1 u2 i1 i2 (Nat.lt_of_lt_of_le hbk hb.size) (HPA.out.keep hb hbk)
    rwa [HPI.out] at h
  have c0 : w.cell? ⟨bk, off + idxI ps va * 4, none⟩ = some (.int .i64 va) := by have := pa.c0; rwa [pid] at this
  have c1 := pa.c1
  have c2 := pa.c2
  have q0c := hq.c0
  have q1c := hq.c1
  have qlt := hq.lt
  clear hq pa pid
  show Calls _ _ #[.pointer (some ⟨q, 0, none⟩), .int .i64 k, .int .i64 ttl, .agg #[.int .i64 va, .int .i64 vi, .int .i64 vl, .int .i64 vp, .int .i64 vs, .int .i64 vt, .int .i64 vo]] _ _
  have SO0 : Hid (SO w ((w.alloc (.cells #[.int .i64 va, .int .i64 vi, .int .i64 vl, .int .i64 vp, .int .i64 vs, .int .i64 vt, .int .i64 vo] 32)).alloc (.cells #[.int .i64 0, .int .i64 0, .int .i64 0, .int .i64 0, .int .i64 0, .int .i64 0, .int .i64 0] 32)) #[.int .i64 va, .int .i64 vi, .int .i64 vl, .int .i64 vp, .int .i64 vs, .int .i64 vt, .int .i64 vo]) := so0 w _
  generalize hA : (stp b d ps k ttl ⟨va, vi, vl, vp, vs, vt, vo⟩).cells = A
  have HA : Hid ((stp b d ps k ttl ⟨va, vi, vl, vp, vs, vt, vo⟩).cells = A) := hA
  clear hA
  by_cases h1 : k = va
  · have HV : Hid (A = #[.int .i64 va, .int .i64 vi, .int .i64 vl, .int .i64 vp, .int .i64 vs, .int .i64 1, .int .i64 va]) := by rw [← HA.out]; unfold stp; rw [if_pos h1]; rfl
    have h1' : (k == va) = true := by simpa using h1
    clear h1
    generalize (peerI ps va).succ = xs at *
    generalize (peerI ps va).point = xp at *
    generalize idxI ps va = ix at *
    go_enter Try.func52, Try.ntmps52
    go_wp2_with fail
    go_step3
    go_wp2_with fail
    refine (CP _ SO0.out.bel).mono ?_
    rintro e w1 ⟨rfl, hw1⟩
    have SO1 : Hid (SO w w1 #[.int .i64 va, .int .i64 vi, .int .i64 vl, .int .i64 vp, .int .i64 vs, .int .i64 vt, .int .i64 vo]) := SO0.out.keep hw1
    clear hw1 SO0 CP
    obtain ⟨r0, r1, r2, r3, r4, r5, r6⟩ := Bk.c7 SO1.out.kv
    obtain ⟨f0, f1, f2, f3, f4, f5, f6⟩ := SO1.out.kv.f7
    obtain ⟨a0, a1, a2, a3, a4, a5, a6⟩ := Bk.c7 SO1.out.ka
    obtain ⟨g0, g1, g2, g3, g4, g5, g6⟩ := SO1.out.ka.f7
    have e0 : w1.cell? ⟨bk, off + ix * 4, none⟩ = some (.int .i64 va) := (SO1.out.bel.cell (p := ⟨bk, off + ix * 4, none⟩) hbk).trans c0
    have e1 : w1.cell? ⟨bk, off + ix * 4 + 1, none⟩ = some (.int .i64 xs) := (SO1.out.bel.cell (p := ⟨bk, off + ix * 4 + 1, none⟩) hbk).trans c1
    have e2 : w1.cell? ⟨bk, off + ix * 4 + 2, none⟩ = some (.int .i64 xp) := (SO1.out.bel.cell (p := ⟨bk, off + ix * 4 + 2, none⟩) hbk).trans c2
    have y0 : w1.cell? ⟨q, 0, none⟩ = some (.int .i64 b) := (SO1.out.bel.cell (p := ⟨q, 0, none⟩) qlt).trans q0c
    have y1 : w1.cell? ⟨q, 1, none⟩ = some (.int .i64 d) := (SO1.out.bel.cell (p := ⟨q, 1, none⟩) qlt).trans q1c
    have zl : w.heap.size + 1 < w1.heap.size := SO1.out.ka.lt
    go_wp2_with fail
    go_step3
    go_wp2_with fail
    go_region_held (fun w' => w'.cell? ⟨bk, off + ix * 4, none⟩ = some (.int .i64 va)) (first | exact ((SO1.out).bel.cell (p := ⟨bk, off + ix * 4, none⟩) hbk).trans c0 | exact ((SO1.out.set 5 _).bel.cell (p := ⟨bk, off + ix * 4, none⟩) hbk).trans c0 | exact (((SO1.out.set 5 _).set 6 _).bel.cell (p := ⟨bk, off + ix * 4, none⟩) hbk).trans c0) (fail)
    go_wp2_with fail
    rw [Exit.noGoto_ret]
    obtain ⟨KA, KB⟩ := SO.out (vs := [.int .i64 va, .int .i64 vi, .int .i64 vl, .int .i64 vp, .int .i64 vs, .int .i64 1, .int .i64 va]) ((SO1.out.set 5 (.int .i64 1)).set 6 (.int .i64 va))
    refine bodyPost_ret (results_cell_row Try.results52 _ _ (w.heap.size + 1) _ _ _ _ rfl KA.drew Try.underlying32 rfl (by kernel_rfl)) rfl ⟨?_, ?_⟩
    · rw [HV.out]; rfl
    · exact KB.drew
  · have h1' : (k == va) = false := by simpa using h1
    cases h2 : arcB b va k (peerI ps va).succ
    · rw [h2] at CA
      have h2n : ¬ arcB b va k (peerI ps va).succ = true := by rw [h2]; simp
      by_cases h3 : ttl ≤ vp + vs
      · have HV : Hid (A = #[.int .i64 va, .int .i64 vi, .int .i64 vl, .int .i64 vp, .int .i64 vs, .int .i64 2, .int .i64 vo]) := by rw [← HA.out]; unfold stp; rw [if_neg h1, if_neg h2n, if_pos h3]; rfl
        clear h1 h2 h2n CS
        generalize (peerI ps va).succ = xs at *
        generalize (peerI ps va).point = xp at *
        generalize idxI ps va = ix at *
        go_enter Try.func52, Try.ntmps52
        go_wp2_with fail
        go_step3
        go_wp2_with fail
        refine (CP _ SO0.out.bel).mono ?_
        rintro e w1 ⟨rfl, hw1⟩
        have SO1 : Hid (SO w w1 #[.int .i64 va, .int .i64 vi, .int .i64 vl, .int .i64 vp, .int .i64 vs, .int .i64 vt, .int .i64 vo]) := SO0.out.keep hw1
        clear hw1 SO0 CP
        obtain ⟨r0, r1, r2, r3, r4, r5, r6⟩ := Bk.c7 SO1.out.kv
        obtain ⟨f0, f1, f2, f3, f4, f5, f6⟩ := SO1.out.kv.f7
        obtain ⟨a0, a1, a2, a3, a4, a5, a6⟩ := Bk.c7 SO1.out.ka
        obtain ⟨g0, g1, g2, g3, g4, g5, g6⟩ := SO1.out.ka.f7
        have e0 : w1.cell? ⟨bk, off + ix * 4, none⟩ = some (.int .i64 va) := (SO1.out.bel.cell (p := ⟨bk, off + ix * 4, none⟩) hbk).trans c0
        have e1 : w1.cell? ⟨bk, off + ix * 4 + 1, none⟩ = some (.int .i64 xs) := (SO1.out.bel.cell (p := ⟨bk, off + ix * 4 + 1, none⟩) hbk).trans c1
        have e2 : w1.cell? ⟨bk, off + ix * 4 + 2, none⟩ = some (.int .i64 xp) := (SO1.out.bel.cell (p := ⟨bk, off + ix * 4 + 2, none⟩) hbk).trans c2
        have y0 : w1.cell? ⟨q, 0, none⟩ = some (.int .i64 b) := (SO1.out.bel.cell (p := ⟨q, 0, none⟩) qlt).trans q0c
        have y1 : w1.cell? ⟨q, 1, none⟩ = some (.int .i64 d) := (SO1.out.bel.cell (p := ⟨q, 1, none⟩) qlt).trans q1c
        have zl : w.heap.size + 1 < w1.heap.size := SO1.out.ka.lt
        go_wp2_with fail
        go_step3
        go_wp2_with fail
        have ke0 : ∀ p : Kin w1.heap.size w1, p.v.cell? ⟨bk, off + ix * 4, none⟩ = some (.int .i64 va) := kin_cell (Nat.lt_of_lt_of_le hbk SO1.out.bel.size) e0
        have ke1 : ∀ p : Kin w1.heap.size w1, p.v.cell? ⟨bk, off + ix * 4 + 1, none⟩ = some (.int .i64 xs) := kin_cell (Nat.lt_of_lt_of_le hbk SO1.out.bel.size) e1
        have ky0 : ∀ p : Kin w1.heap.size w1, p.v.cell? ⟨q, 0, none⟩ = some (.int .i64 b) := kin_cell (Nat.lt_of_lt_of_le qlt SO1.out.bel.size) y0
        have ky1 : ∀ p : Kin w1.heap.size w1, p.v.cell? ⟨q, 1, none⟩ = some (.int .i64 d) := kin_cell (Nat.lt_of_lt_of_le qlt SO1.out.bel.size) y1
        have kr1 : ∀ p : Kin w1.heap.size w1, p.v.cell? ⟨w.heap.size, 1, none⟩ = some (.int .i64 vi) := kin_cell (by omega) r1
        have kr2 : ∀ p : Kin w1.heap.size w1, p.v.cell? ⟨w.heap.size, 2, none⟩ = some (.int .i64 vl) := kin_cell (by omega) r2
        refine region_kin w1.heap.size (by kernel_rfl) (by kernel_rfl) (fun hne => ?_)
        repeat (go_big_quiet_step ((go_at_call 38; exact kin_of (Nat.le_refl _) (CA _))))
        refine wpQuiet_nil ?_
        intro w5 hw'
        obtain ⟨⟨w6, hw5⟩, hw''⟩ := hw'
        obtain rfl : w5 = w6 := hw''
        have SO5 : Hid (SO w w5 #[.int .i64 va, .int .i64 vi, .int .i64 vl, .int .i64 vp, .int .i64 vs, .int .i64 vt, .int .i64 vo]) := SO1.out.keep hw5
        clear ke0 ke1 ky0 ky1 kr1 kr2 hne hw5 SO1
        clear r0 r1 r2 r3 r4 r5 r6 f0 f1 f2 f3 f4 f5 f6 a0 a1 a2 a3 a4 a5 a6 g0 g1 g2 g3 g4 g5 g6 e0 e1 e2 y0 y1 zl
        obtain ⟨r0, r1, r2, r3, r4, r5, r6⟩ := Bk.c7 SO5.out.kv
        obtain ⟨f0, f1, f2, f3, f4, f5, f6⟩ := SO5.out.kv.f7
        obtain ⟨a0, a1, a2, a3, a4, a5, a6⟩ := Bk.c7 SO5.out.ka
        obtain ⟨g0, g1, g2, g3, g4, g5, g6⟩ := SO5.out.ka.f7
        have e0 : w5.cell? ⟨bk, off + ix * 4, none⟩ = some (.int .i64 va) := (SO5.out.bel.cell (p := ⟨bk, off + ix * 4, none⟩) hbk).trans c0
        have e1 : w5.cell? ⟨bk, off + ix * 4 + 1, none⟩ = some (.int .i64 xs) := (SO5.out.bel.cell (p := ⟨bk, off + ix * 4 + 1, none⟩) hbk).trans c1
        have e2 : w5.cell? ⟨bk, off + ix * 4 + 2, none⟩ = some (.int .i64 xp) := (SO5.out.bel.cell (p := ⟨bk, off + ix * 4 + 2, none⟩) hbk).trans c2
        have y0 : w5.cell? ⟨q, 0, none⟩ = some (.int .i64 b) := (SO5.out.bel.cell (p := ⟨q, 0, none⟩) qlt).trans q0c
        have y1 : w5.cell? ⟨q, 1, none⟩ = some (.int .i64 d) := (SO5.out.bel.cell (p := ⟨q, 1, none⟩) qlt).trans q1c
        have zl : w.heap.size + 1 < w5.heap.size := SO5.out.ka.lt
        go_wp2_with fail
        rw [Exit.noGoto_ret]
        obtain ⟨KA, KB⟩ := SO.out (vs := [.int .i64 va, .int .i64 vi, .int .i64 vl, .int .i64 vp, .int .i64 vs, .int .i64 2, .int .i64 vo]) (SO5.out.set 5 (.int .i64 2))
        refine bodyPost_ret (results_cell_row Try.results52 _ _ (w.heap.size + 1) _ _ _ _ rfl KA Try.underlying32 rfl (by kernel_rfl)) rfl ⟨?_, ?_⟩
        · rw [HV.out]; rfl
        · exact KB
      · have h3b : decide (ttl ≤ vp + vs) = false := decide_eq_false h3
        cases h5 : stdB b va vi (peerI ps va).succ
        · have h4n : ¬ (0 < vl ∧ (vi = va ∨ btwB b va vi (peerI ps va).succ = true)) := fun hh => by have := of_decide_eq_false h5; exact this hh.2
          have HV : Hid (A = #[.int .i64 (peerI ps va).succ, .int .i64 vi, .int .i64 vl, .int .i64 vp, .int .i64 (vs + 1), .int .i64 vt, .int .i64 vo]) := by rw [← HA.out]; unfold stp; rw [if_neg h1, if_neg h2n, if_neg h3, if_neg h4n]; rfl
          rw [h5] at CS
          clear h1 h2 h2n h4n h5
          by_cases h6 : 0 < vl
          · have h6b : decide (0 < vl) = true := decide_eq_true h6
            generalize (peerI ps va).succ = xs at *
            generalize (peerI ps va).point = xp at *
            generalize idxI ps va = ix at *
            go_enter Try.func52, Try.ntmps52
            go_wp2_with fail
            go_step3
            go_wp2_with fail
            refine (CP _ SO0.out.bel).mono ?_
            rintro e w1 ⟨rfl, hw1⟩
            have SO1 : Hid (SO w w1 #[.int .i64 va, .int .i64 vi, .int .i64 vl, .int .i64 vp, .int .i64 vs, .int .i64 vt, .int .i64 vo]) := SO0.out.keep hw1
            clear hw1 SO0 CP
            obtain ⟨r0, r1, r2, r3, r4, r5, r6⟩ := Bk.c7 SO1.out.kv
            obtain ⟨f0, f1, f2, f3, f4, f5, f6⟩ := SO1.out.kv.f7
            obtain ⟨a0, a1, a2, a3, a4, a5, a6⟩ := Bk.c7 SO1.out.ka
            obtain ⟨g0, g1, g2, g3, g4, g5, g6⟩ := SO1.out.ka.f7
            have e0 : w1.cell? ⟨bk, off + ix * 4, none⟩ = some (.int .i64 va) := (SO1.out.bel.cell (p := ⟨bk, off + ix * 4, none⟩) hbk).trans c0
            have e1 : w1.cell? ⟨bk, off + ix * 4 + 1, none⟩ = some (.int .i64 xs) := (SO1.out.bel.cell (p := ⟨bk, off + ix * 4 + 1, none⟩) hbk).trans c1
            have e2 : w1.cell? ⟨bk, off + ix * 4 + 2, none⟩ = some (.int .i64 xp) := (SO1.out.bel.cell (p := ⟨bk, off + ix * 4 + 2, none⟩) hbk).trans c2
            have y0 : w1.cell? ⟨q, 0, none⟩ = some (.int .i64 b) := (SO1.out.bel.cell (p := ⟨q, 0, none⟩) qlt).trans q0c
            have y1 : w1.cell? ⟨q, 1, none⟩ = some (.int .i64 d) := (SO1.out.bel.cell (p := ⟨q, 1, none⟩) qlt).trans q1c
            have zl : w.heap.size + 1 < w1.heap.size := SO1.out.ka.lt
            go_wp2_with fail
            go_step3
            go_wp2_with fail
            have ke0 : ∀ p : Kin w1.heap.size w1, p.v.cell? ⟨bk, off + ix * 4, none⟩ = some (.int .i64 va) := kin_cell (Nat.lt_of_lt_of_le hbk SO1.out.bel.size) e0
            have ke1 : ∀ p : Kin w1.heap.size w1, p.v.cell? ⟨bk, off + ix * 4 + 1, none⟩ = some (.int .i64 xs) := kin_cell (Nat.lt_of_lt_of_le hbk SO1.out.bel.size) e1
            have ky0 : ∀ p : Kin w1.heap.size w1, p.v.cell? ⟨q, 0, none⟩ = some (.int .i64 b) := kin_cell (Nat.lt_of_lt_of_le qlt SO1.out.bel.size) y0
            have ky1 : ∀ p : Kin w1.heap.size w1, p.v.cell? ⟨q, 1, none⟩ = some (.int .i64 d) := kin_cell (Nat.lt_of_lt_of_le qlt SO1.out.bel.size) y1
            have kr1 : ∀ p : Kin w1.heap.size w1, p.v.cell? ⟨w.heap.size, 1, none⟩ = some (.int .i64 vi) := kin_cell (by omega) r1
            have kr2 : ∀ p : Kin w1.heap.size w1, p.v.cell? ⟨w.heap.size, 2, none⟩ = some (.int .i64 vl) := kin_cell (by omega) r2
            refine region_kin w1.heap.size (by kernel_rfl) (by kernel_rfl) (fun hne => ?_)
            repeat (go_big_quiet_step ((go_at_call 38; exact kin_of (Nat.le_refl _) (CA _))))
            refine wpQuiet_nil ?_
            intro w5 hw'
            obtain ⟨⟨w6, hw5⟩, hw''⟩ := hw'
            obtain rfl : w5 = w6 := hw''
            have SO5 : Hid (SO w w5 #[.int .i64 va, .int .i64 vi, .int .i64 vl, .int .i64 vp, .int .i64 vs, .int .i64 vt, .int .i64 vo]) := SO1.out.keep hw5
            clear ke0 ke1 ky0 ky1 kr1 kr2 hne hw5 SO1
            clear r0 r1 r2 r3 r4 r5 r6 f0 f1 f2 f3 f4 f5 f6 a0 a1 a2 a3 a4 a5 a6 g0 g1 g2 g3 g4 g5 g6 e0 e1 e2 y0 y1 zl
            obtain ⟨r0, r1, r2, r3, r4, r5, r6⟩ := Bk.c7 SO5.out.kv
            obtain ⟨f0, f1, f2, f3, f4, f5, f6⟩ := SO5.out.kv.f7
            obtain ⟨a0, a1, a2, a3, a4, a5, a6⟩ := Bk.c7 SO5.out.ka
            obtain ⟨g0, g1, g2, g3, g4, g5, g6⟩ := SO5.out.ka.f7
            have e0 : w5.cell? ⟨bk, off + ix * 4, none⟩ = some (.int .i64 va) := (SO5.out.bel.cell (p := ⟨bk, off + ix * 4, none⟩) hbk).trans c0
            have e1 : w5.cell? ⟨bk, off + ix * 4 + 1, none⟩ = some (.int .i64 xs) := (SO5.out.bel.cell (p := ⟨bk, off + ix * 4 + 1, none⟩) hbk).trans c1
            have e2 : w5.cell? ⟨bk, off + ix * 4 + 2, none⟩ = some (.int .i64 xp) := (SO5.out.bel.cell (p := ⟨bk, off + ix * 4 + 2, none⟩) hbk).trans c2
            have y0 : w5.cell? ⟨q, 0, none⟩ = some (.int .i64 b) := (SO5.out.bel.cell (p := ⟨q, 0, none⟩) qlt).trans q0c
            have y1 : w5.cell? ⟨q, 1, none⟩ = some (.int .i64 d) := (SO5.out.bel.cell (p := ⟨q, 1, none⟩) qlt).trans q1c
            have zl : w.heap.size + 1 < w5.heap.size := SO5.out.ka.lt
            go_upto_region 14 with (fail)
            have ke0 : ∀ p : Kin w5.heap.size w5, p.v.cell? ⟨bk, off + ix * 4, none⟩ = some (.int .i64 va) := kin_cell (Nat.lt_of_lt_of_le hbk SO5.out.bel.size) e0
            have ke1 : ∀ p : Kin w5.heap.size w5, p.v.cell? ⟨bk, off + ix * 4 + 1, none⟩ = some (.int .i64 xs) := kin_cell (Nat.lt_of_lt_of_le hbk SO5.out.bel.size) e1
            have ky0 : ∀ p : Kin w5.heap.size w5, p.v.cell? ⟨q, 0, none⟩ = some (.int .i64 b) := kin_cell (Nat.lt_of_lt_of_le qlt SO5.out.bel.size) y0
            have ky1 : ∀ p : Kin w5.heap.size w5, p.v.cell? ⟨q, 1, none⟩ = some (.int .i64 d) := kin_cell (Nat.lt_of_lt_of_le qlt SO5.out.bel.size) y1
            have kr1 : ∀ p : Kin w5.heap.size w5, p.v.cell? ⟨w.heap.size, 1, none⟩ = some (.int .i64 vi) := kin_cell (by omega) r1
            have kr2 : ∀ p : Kin w5.heap.size w5, p.v.cell? ⟨w.heap.size, 2, none⟩ = some (.int .i64 vl) := kin_cell (by omega) r2
            refine region_kin w5.heap.size (by kernel_rfl) (by kernel_rfl) (fun hne => ?_)
            repeat (go_big_quiet_step ((go_at_call 91; exact kin_of (Nat.le_refl _) (CS _ (belt SO5.out.bel (Kin.bel _))))))
            refine wpQuiet_nil ?_
            intro w7 hw'
            obtain ⟨⟨w6, hw5⟩, hw''⟩ := hw'
            obtain rfl : w7 = w6 := hw''
            have SO7 : Hid (SO w w7 #[.int .i64 va, .int .i64 vi, .int .i64 vl, .int .i64 vp, .int .i64 vs, .int .i64 vt, .int .i64 vo]) := SO5.out.keep hw5
            clear ke0 ke1 ky0 ky1 kr1 kr2 hne hw5 SO5
            clear r0 r1 r2 r3 r4 r5 r6 f0 f1 f2 f3 f4 f5 f6 a0 a1 a2 a3 a4 a5 a6 g0 g1 g2 g3 g4 g5 g6 e0 e1 e2 y0 y1 zl
            obtain ⟨r0, r1, r2, r3, r4, r5, r6⟩ := Bk.c7 SO7.out.kv
            obtain ⟨f0, f1, f2, f3, f4, f5, f6⟩ := SO7.out.kv.f7
            obtain ⟨a0, a1, a2, a3, a4, a5, a6⟩ := Bk.c7 SO7.out.ka
            obtain ⟨g0, g1, g2, g3, g4, g5, g6⟩ := SO7.out.ka.f7
            have e0 : w7.cell? ⟨bk, off + ix * 4, none⟩ = some (.int .i64 va) := (SO7.out.bel.cell (p := ⟨bk, off + ix * 4, none⟩) hbk).trans c0
            have e1 : w7.cell? ⟨bk, off + ix * 4 + 1, none⟩ = some (.int .i64 xs) := (SO7.out.bel.cell (p := ⟨bk, off + ix * 4 + 1, none⟩) hbk).trans c1
            have e2 : w7.cell? ⟨bk, off + ix * 4 + 2, none⟩ = some (.int .i64 xp) := (SO7.out.bel.cell (p := ⟨bk, off + ix * 4 + 2, none⟩) hbk).trans c2
            have y0 : w7.cell? ⟨q, 0, none⟩ = some (.int .i64 b) := (SO7.out.bel.cell (p := ⟨q, 0, none⟩) qlt).trans q0c
            have y1 : w7.cell? ⟨q, 1, none⟩ = some (.int .i64 d) := (SO7.out.bel.cell (p := ⟨q, 1, none⟩) qlt).trans q1c
            have zl : w.heap.size + 1 < w7.heap.size := SO7.out.ka.lt
            go_wp2_with fail
            rw [Exit.noGoto_ret]
            obtain ⟨KA, KB⟩ := SO.out (vs := [.int .i64 xs, .int .i64 vi, .int .i64 vl, .int .i64 vp, .int .i64 (vs + 1), .int .i64 vt, .int .i64 vo]) ((SO7.out.set 0 (.int .i64 xs)).set 4 (.int .i64 (vs + 1)))
            refine bodyPost_ret (results_cell_row Try.results52 _ _ (w.heap.size + 1) _ _ _ _ rfl KA Try.underlying32 rfl (by kernel_rfl)) rfl ⟨?_, ?_⟩
            · rw [HV.out]; rfl
            · exact KB
          · have h6b : decide (0 < vl) = false := decide_eq_false h6
            generalize (peerI ps va).succ = xs at *
            generalize (peerI ps va).point = xp at *
            generalize idxI ps va = ix at *
            go_enter Try.func52, Try.ntmps52
            go_wp2_with fail
            go_step3
            go_wp2_with fail
            refine (CP _ SO0.out.bel).mono ?_
            rintro e w1 ⟨rfl, hw1⟩
            have SO1 : Hid (SO w w1 #[.int .i64 va, .int .i64 vi, .int .i64 vl, .int .i64 vp, .int .i64 vs, .int .i64 vt, .int .i64 vo]) := SO0.out.keep hw1
            clear hw1 SO0 CP
            obtain ⟨r0, r1, r2, r3, r4, r5, r6⟩ := Bk.c7 SO1.out.kv
            obtain ⟨f0, f1, f2, f3, f4, f5, f6⟩ := SO1.out.kv.f7
            obtain ⟨a0, a1, a2, a3, a4, a5, a6⟩ := Bk.c7 SO1.out.ka
            obtain ⟨g0, g1, g2, g3, g4, g5, g6⟩ := SO1.out.ka.f7
            have e0 : w1.cell? ⟨bk, off + ix * 4, none⟩ = some (.int .i64 va) := (SO1.out.bel.cell (p := ⟨bk, off + ix * 4, none⟩) hbk).trans c0
            have e1 : w1.cell? ⟨bk, off + ix * 4 + 1, none⟩ = some (.int .i64 xs) := (SO1.out.bel.cell (p := ⟨bk, off + ix * 4 + 1, none⟩) hbk).trans c1
            have e2 : w1.cell? ⟨bk, off + ix * 4 + 2, none⟩ = some (.int .i64 xp) := (SO1.out.bel.cell (p := ⟨bk, off + ix * 4 + 2, none⟩) hbk).trans c2
            have y0 : w1.cell? ⟨q, 0, none⟩ = some (.int .i64 b) := (SO1.out.bel.cell (p := ⟨q, 0, none⟩) qlt).trans q0c
            have y1 : w1.cell? ⟨q, 1, none⟩ = some (.int .i64 d) := (SO1.out.bel.cell (p := ⟨q, 1, none⟩) qlt).trans q1c
            have zl : w.heap.size + 1 < w1.heap.size := SO1.out.ka.lt
            go_wp2_with fail
            go_step3
            go_wp2_with fail
            have ke0 : ∀ p : Kin w1.heap.size w1, p.v.cell? ⟨bk, off + ix * 4, none⟩ = some (.int .i64 va) := kin_cell (Nat.lt_of_lt_of_le hbk SO1.out.bel.size) e0
            have ke1 : ∀ p : Kin w1.heap.size w1, p.v.cell? ⟨bk, off + ix * 4 + 1, none⟩ = some (.int .i64 xs) := kin_cell (Nat.lt_of_lt_of_le hbk SO1.out.bel.size) e1
            have ky0 : ∀ p : Kin w1.heap.size w1, p.v.cell? ⟨q, 0, none⟩ = some (.int .i64 b) := kin_cell (Nat.lt_of_lt_of_le qlt SO1.out.bel.size) y0
            have ky1 : ∀ p : Kin w1.heap.size w1, p.v.cell? ⟨q, 1, none⟩ = some (.int .i64 d) := kin_cell (Nat.lt_of_lt_of_le qlt SO1.out.bel.size) y1
            have kr1 : ∀ p : Kin w1.heap.size w1, p.v.cell? ⟨w.heap.size, 1, none⟩ = some (.int .i64 vi) := kin_cell (by omega) r1
            have kr2 : ∀ p : Kin w1.heap.size w1, p.v.cell? ⟨w.heap.size, 2, none⟩ = some (.int .i64 vl) := kin_cell (by omega) r2
            refine region_kin w1.heap.size (by kernel_rfl) (by kernel_rfl) (fun hne => ?_)
            repeat (go_big_quiet_step ((go_at_call 38; exact kin_of (Nat.le_refl _) (CA _))))
            refine wpQuiet_nil ?_
            intro w5 hw'
            obtain ⟨⟨w6, hw5⟩, hw''⟩ := hw'
            obtain rfl : w5 = w6 := hw''
            have SO5 : Hid (SO w w5 #[.int .i64 va, .int .i64 vi, .int .i64 vl, .int .i64 vp, .int .i64 vs, .int .i64 vt, .int .i64 vo]) := SO1.out.keep hw5
            clear ke0 ke1 ky0 ky1 kr1 kr2 hne hw5 SO1
            clear r0 r1 r2 r3 r4 r5 r6 f0 f1 f2 f3 f4 f5 f6 a0 a1 a2 a3 a4 a5 a6 g0 g1 g2 g3 g4 g5 g6 e0 e1 e2 y0 y1 zl
            obtain ⟨r0, r1, r2, r3, r4, r5, r6⟩ := Bk.c7 SO5.out.kv
            obtain ⟨f0, f1, f2, f3, f4, f5, f6⟩ := SO5.out.kv.f7
            obtain ⟨a0, a1, a2, a3, a4, a5, a6⟩ := Bk.c7 SO5.out.ka
            obtain ⟨g0, g1, g2, g3, g4, g5, g6⟩ := SO5.out.ka.f7
            have e0 : w5.cell? ⟨bk, off + ix * 4, none⟩ = some (.int .i64 va) := (SO5.out.bel.cell (p := ⟨bk, off + ix * 4, none⟩) hbk).trans c0
            have e1 : w5.cell? ⟨bk, off + ix * 4 + 1, none⟩ = some (.int .i64 xs) := (SO5.out.bel.cell (p := ⟨bk, off + ix * 4 + 1, none⟩) hbk).trans c1
            have e2 : w5.cell? ⟨bk, off + ix * 4 + 2, none⟩ = some (.int .i64 xp) := (SO5.out.bel.cell (p := ⟨bk, off + ix * 4 + 2, none⟩) hbk).trans c2
            have y0 : w5.cell? ⟨q, 0, none⟩ = some (.int .i64 b) := (SO5.out.bel.cell (p := ⟨q, 0, none⟩) qlt).trans q0c
            have y1 : w5.cell? ⟨q, 1, none⟩ = some (.int .i64 d) := (SO5.out.bel.cell (p := ⟨q, 1, none⟩) qlt).trans q1c
            have zl : w.heap.size + 1 < w5.heap.size := SO5.out.ka.lt
            go_upto_region 14 with (fail)
            have ke0 : ∀ p : Kin w5.heap.size w5, p.v.cell? ⟨bk, off + ix * 4, none⟩ = some (.int .i64 va) := kin_cell (Nat.lt_of_lt_of_le hbk SO5.out.bel.size) e0
            have ke1 : ∀ p : Kin w5.heap.size w5, p.v.cell? ⟨bk, off + ix * 4 + 1, none⟩ = some (.int .i64 xs) := kin_cell (Nat.lt_of_lt_of_le hbk SO5.out.bel.size) e1
            have ky0 : ∀ p : Kin w5.heap.size w5, p.v.cell? ⟨q, 0, none⟩ = some (.int .i64 b) := kin_cell (Nat.lt_of_lt_of_le qlt SO5.out.bel.size) y0
            have ky1 : ∀ p : Kin w5.heap.size w5, p.v.cell? ⟨q, 1, none⟩ = some (.int .i64 d) := kin_cell (Nat.lt_of_lt_of_le qlt SO5.out.bel.size) y1
            have kr1 : ∀ p : Kin w5.heap.size w5, p.v.cell? ⟨w.heap.size, 1, none⟩ = some (.int .i64 vi) := kin_cell (by omega) r1
            have kr2 : ∀ p : Kin w5.heap.size w5, p.v.cell? ⟨w.heap.size, 2, none⟩ = some (.int .i64 vl) := kin_cell (by omega) r2
            refine region_kin w5.heap.size (by kernel_rfl) (by kernel_rfl) (fun hne => ?_)
            repeat (go_big_quiet_step (fail))
            refine wpQuiet_nil ?_
            intro w7 hw'
            obtain ⟨⟨w6, hw5⟩, hw''⟩ := hw'
            obtain rfl : w7 = w6 := hw''
            have SO7 : Hid (SO w w7 #[.int .i64 va, .int .i64 vi, .int .i64 vl, .int .i64 vp, .int .i64 vs, .int .i64 vt, .int .i64 vo]) := SO5.out.keep hw5
            clear ke0 ke1 ky0 ky1 kr1 kr2 hne hw5 SO5
            clear r0 r1 r2 r3 r4 r5 r6 f0 f1 f2 f3 f4 f5 f6 a0 a1 a2 a3 a4 a5 a6 g0 g1 g2 g3 g4 g5 g6 e0 e1 e2 y0 y1 zl
            obtain ⟨r0, r1, r2, r3, r4, r5, r6⟩ := Bk.c7 SO7.out.kv
            obtain ⟨f0, f1, f2, f3, f4, f5, f6⟩ := SO7.out.kv.f7
            obtain ⟨a0, a1, a2, a3, a4, a5, a6⟩ := Bk.c7 SO7.out.ka
            obtain ⟨g0, g1, g2, g3, g4, g5, g6⟩ := SO7.out.ka.f7
            have e0 : w7.cell? ⟨bk, off + ix * 4, none⟩ = some (.int .i64 va) := (SO7.out.bel.cell (p := ⟨bk, off + ix * 4, none⟩) hbk).trans c0
            have e1 : w7.cell? ⟨bk, off + ix * 4 + 1, none⟩ = some (.int .i64 xs) := (SO7.out.bel.cell (p := ⟨bk, off + ix * 4 + 1, none⟩) hbk).trans c1
            have e2 : w7.cell? ⟨bk, off + ix * 4 + 2, none⟩ = some (.int .i64 xp) := (SO7.out.bel.cell (p := ⟨bk, off + ix * 4 + 2, none⟩) hbk).trans c2
            have y0 : w7.cell? ⟨q, 0, none⟩ = some (.int .i64 b) := (SO7.out.bel.cell (p := ⟨q, 0, none⟩) qlt).trans q0c
            have y1 : w7.cell? ⟨q, 1, none⟩ = some (.int .i64 d) := (SO7.out.bel.cell (p := ⟨q, 1, none⟩) qlt).trans q1c
            have zl : w.heap.size + 1 < w7.heap.size := SO7.out.ka.lt
            go_wp2_with fail
            rw [Exit.noGoto_ret]
            obtain ⟨KA, KB⟩ := SO.out (vs := [.int .i64 xs, .int .i64 vi, .int .i64 vl, .int .i64 vp, .int .i64 (vs + 1), .int .i64 vt, .int .i64 vo]) ((SO7.out.set 0 (.int .i64 xs)).set 4 (.int .i64 (vs + 1)))
            refine bodyPost_ret (results_cell_row Try.results52 _ _ (w.heap.size + 1) _ _ _ _ rfl KA Try.underlying32 rfl (by kernel_rfl)) rfl ⟨?_, ?_⟩
            · rw [HV.out]; rfl
            · exact KB
        · rw [h5] at CS
          have h5t := of_decide_eq_true h5
          clear h5
          by_cases h6 : 0 < vl
          · have h6b : decide (0 < vl) = true := decide_eq_true h6
            have HV : Hid (A = #[.int .i64 (peerI ps va).point, .int .i64 (shf b d vi (dgt4 d k vl)), .int .i64 (vl - 1), .int .i64 (vp + 1), .int .i64 vs, .int .i64 vt, .int .i64 vo]) := by rw [← HA.out]; unfold stp; rw [if_neg h1, if_neg h2n, if_neg h3, if_pos ⟨h6, h5t⟩]; rfl
            clear h1 h2 h2n h5t
            have CN : ∀ w1, Calls Try.prog 92 #[.agg #[.int .i64 b, .int .i64 d], .int .i64 k, .int .i64 vl] w1 fun e w' => e = .returned (.int .i64 (dgt4 d k vl)) ∧ Below w1.heap.size w1 w' := fun w1 => by
              have h := nextDigit_any b d k vl.toNat w1 gs k1 k2 (by omega) (by omega)
              rwa [show ((vl.toNat : Nat) : Int) = vl by omega] at h
            have hdg := dgt4_bd d k vl
            have CF := fun w1 => ShiftIn_any b d vi (dgt4 d k vl) w1
            rw [sVal_eq gs i1 i2 hdg.1 hdg.2] at CF
            generalize shf b d vi (dgt4 d k vl) = sh at *
            generalize dgt4 d k vl = dg at *
            generalize (peerI ps va).succ = xs at *
            generalize (peerI ps va).point = xp at *
            generalize idxI ps va = ix at *
            go_enter Try.func52, Try.ntmps52
            go_wp2_with fail
            go_step3
            go_wp2_with fail
            refine (CP _ SO0.out.bel).mono ?_
            rintro e w1 ⟨rfl, hw1⟩
            have SO1 : Hid (SO w w1 #[.int .i64 va, .int .i64 vi, .int .i64 vl, .int .i64 vp, .int .i64 vs, .int .i64 vt, .int .i64 vo]) := SO0.out.keep hw1
            clear hw1 SO0 CP
            obtain ⟨r0, r1, r2, r3, r4, r5, r6⟩ := Bk.c7 SO1.out.kv
            obtain ⟨f0, f1, f2, f3, f4, f5, f6⟩ := SO1.out.kv.f7
            obtain ⟨a0, a1, a2, a3, a4, a5, a6⟩ := Bk.c7 SO1.out.ka
            obtain ⟨g0, g1, g2, g3, g4, g5, g6⟩ := SO1.out.ka.f7
            have e0 : w1.cell? ⟨bk, off + ix * 4, none⟩ = some (.int .i64 va) := (SO1.out.bel.cell (p := ⟨bk, off + ix * 4, none⟩) hbk).trans c0
            have e1 : w1.cell? ⟨bk, off + ix * 4 + 1, none⟩ = some (.int .i64 xs) := (SO1.out.bel.cell (p := ⟨bk, off + ix * 4 + 1, none⟩) hbk).trans c1
            have e2 : w1.cell? ⟨bk, off + ix * 4 + 2, none⟩ = some (.int .i64 xp) := (SO1.out.bel.cell (p := ⟨bk, off + ix * 4 + 2, none⟩) hbk).trans c2
            have y0 : w1.cell? ⟨q, 0, none⟩ = some (.int .i64 b) := (SO1.out.bel.cell (p := ⟨q, 0, none⟩) qlt).trans q0c
            have y1 : w1.cell? ⟨q, 1, none⟩ = some (.int .i64 d) := (SO1.out.bel.cell (p := ⟨q, 1, none⟩) qlt).trans q1c
            have zl : w.heap.size + 1 < w1.heap.size := SO1.out.ka.lt
            go_wp2_with fail
            go_step3
            go_wp2_with fail
            have ke0 : ∀ p : Kin w1.heap.size w1, p.v.cell? ⟨bk, off + ix * 4, none⟩ = some (.int .i64 va) := kin_cell (Nat.lt_of_lt_of_le hbk SO1.out.bel.size) e0
            have ke1 : ∀ p : Kin w1.heap.size w1, p.v.cell? ⟨bk, off + ix * 4 + 1, none⟩ = some (.int .i64 xs) := kin_cell (Nat.lt_of_lt_of_le hbk SO1.out.bel.size) e1
            have ky0 : ∀ p : Kin w1.heap.size w1, p.v.cell? ⟨q, 0, none⟩ = some (.int .i64 b) := kin_cell (Nat.lt_of_lt_of_le qlt SO1.out.bel.size) y0
            have ky1 : ∀ p : Kin w1.heap.size w1, p.v.cell? ⟨q, 1, none⟩ = some (.int .i64 d) := kin_cell (Nat.lt_of_lt_of_le qlt SO1.out.bel.size) y1
            have kr1 : ∀ p : Kin w1.heap.size w1, p.v.cell? ⟨w.heap.size, 1, none⟩ = some (.int .i64 vi) := kin_cell (by omega) r1
            have kr2 : ∀ p : Kin w1.heap.size w1, p.v.cell? ⟨w.heap.size, 2, none⟩ = some (.int .i64 vl) := kin_cell (by omega) r2
            refine region_kin w1.heap.size (by kernel_rfl) (by kernel_rfl) (fun hne => ?_)
            repeat (go_big_quiet_step ((go_at_call 38; exact kin_of (Nat.le_refl _) (CA _))))
            refine wpQuiet_nil ?_
            intro w5 hw'
            obtain ⟨⟨w6, hw5⟩, hw''⟩ := hw'
            obtain rfl : w5 = w6 := hw''
            have SO5 : Hid (SO w w5 #[.int .i64 va, .int .i64 vi, .int .i64 vl, .int .i64 vp, .int .i64 vs, .int .i64 vt, .int .i64 vo]) := SO1.out.keep hw5
            clear ke0 ke1 ky0 ky1 kr1 kr2 hne hw5 SO1
            clear r0 r1 r2 r3 r4 r5 r6 f0 f1 f2 f3 f4 f5 f6 a0 a1 a2 a3 a4 a5 a6 g0 g1 g2 g3 g4 g5 g6 e0 e1 e2 y0 y1 zl
            obtain ⟨r0, r1, r2, r3, r4, r5, r6⟩ := Bk.c7 SO5.out.kv
            obtain ⟨f0, f1, f2, f3, f4, f5, f6⟩ := SO5.out.kv.f7
            obtain ⟨a0, a1, a2, a3, a4, a5, a6⟩ := Bk.c7 SO5.out.ka
            obtain ⟨g0, g1, g2, g3, g4, g5, g6⟩ := SO5.out.ka.f7
            have e0 : w5.cell? ⟨bk, off + ix * 4, none⟩ = some (.int .i64 va) := (SO5.out.bel.cell (p := ⟨bk, off + ix * 4, none⟩) hbk).trans c0
            have e1 : w5.cell? ⟨bk, off + ix * 4 + 1, none⟩ = some (.int .i64 xs) := (SO5.out.bel.cell (p := ⟨bk, off + ix * 4 + 1, none⟩) hbk).trans c1
            have e2 : w5.cell? ⟨bk, off + ix * 4 + 2, none⟩ = some (.int .i64 xp) := (SO5.out.bel.cell (p := ⟨bk, off + ix * 4 + 2, none⟩) hbk).trans c2
            have y0 : w5.cell? ⟨q, 0, none⟩ = some (.int .i64 b) := (SO5.out.bel.cell (p := ⟨q, 0, none⟩) qlt).trans q0c
            have y1 : w5.cell? ⟨q, 1, none⟩ = some (.int .i64 d) := (SO5.out.bel.cell (p := ⟨q, 1, none⟩) qlt).trans q1c
            have zl : w.heap.size + 1 < w5.heap.size := SO5.out.ka.lt
            go_upto_region 14 with (fail)
            have ke0 : ∀ p : Kin w5.heap.size w5, p.v.cell? ⟨bk, off + ix * 4, none⟩ = some (.int .i64 va) := kin_cell (Nat.lt_of_lt_of_le hbk SO5.out.bel.size) e0
            have ke1 : ∀ p : Kin w5.heap.size w5, p.v.cell? ⟨bk, off + ix * 4 + 1, none⟩ = some (.int .i64 xs) := kin_cell (Nat.lt_of_lt_of_le hbk SO5.out.bel.size) e1
            have ky0 : ∀ p : Kin w5.heap.size w5, p.v.cell? ⟨q, 0, none⟩ = some (.int .i64 b) := kin_cell (Nat.lt_of_lt_of_le qlt SO5.out.bel.size) y0
            have ky1 : ∀ p : Kin w5.heap.size w5, p.v.cell? ⟨q, 1, none⟩ = some (.int .i64 d) := kin_cell (Nat.lt_of_lt_of_le qlt SO5.out.bel.size) y1
            have kr1 : ∀ p : Kin w5.heap.size w5, p.v.cell? ⟨w.heap.size, 1, none⟩ = some (.int .i64 vi) := kin_cell (by omega) r1
            have kr2 : ∀ p : Kin w5.heap.size w5, p.v.cell? ⟨w.heap.size, 2, none⟩ = some (.int .i64 vl) := kin_cell (by omega) r2
            refine region_kin w5.heap.size (by kernel_rfl) (by kernel_rfl) (fun hne => ?_)
            repeat (go_big_quiet_step ((go_at_call 91; exact kin_of (Nat.le_refl _) (CS _ (belt SO5.out.bel (Kin.bel _))))))
            refine wpQuiet_nil ?_
            intro w7 hw'
            obtain ⟨⟨w6, hw5⟩, hw''⟩ := hw'
            obtain rfl : w7 = w6 := hw''
            have SO7 : Hid (SO w w7 #[.int .i64 va, .int .i64 vi, .int .i64 vl, .int .i64 vp, .int .i64 vs, .int .i64 vt, .int .i64 vo]) := SO5.out.keep hw5
            clear ke0 ke1 ky0 ky1 kr1 kr2 hne hw5 SO5
            clear r0 r1 r2 r3 r4 r5 r6 f0 f1 f2 f3 f4 f5 f6 a0 a1 a2 a3 a4 a5 a6 g0 g1 g2 g3 g4 g5 g6 e0 e1 e2 y0 y1 zl
            obtain ⟨r0, r1, r2, r3, r4, r5, r6⟩ := Bk.c7 SO7.out.kv
            obtain ⟨f0, f1, f2, f3, f4, f5, f6⟩ := SO7.out.kv.f7
            obtain ⟨a0, a1, a2, a3, a4, a5, a6⟩ := Bk.c7 SO7.out.ka
            obtain ⟨g0, g1, g2, g3, g4, g5, g6⟩ := SO7.out.ka.f7
            have e0 : w7.cell? ⟨bk, off + ix * 4, none⟩ = some (.int .i64 va) := (SO7.out.bel.cell (p := ⟨bk, off + ix * 4, none⟩) hbk).trans c0
            have e1 : w7.cell? ⟨bk, off + ix * 4 + 1, none⟩ = some (.int .i64 xs) := (SO7.out.bel.cell (p := ⟨bk, off + ix * 4 + 1, none⟩) hbk).trans c1
            have e2 : w7.cell? ⟨bk, off + ix * 4 + 2, none⟩ = some (.int .i64 xp) := (SO7.out.bel.cell (p := ⟨bk, off + ix * 4 + 2, none⟩) hbk).trans c2
            have y0 : w7.cell? ⟨q, 0, none⟩ = some (.int .i64 b) := (SO7.out.bel.cell (p := ⟨q, 0, none⟩) qlt).trans q0c
            have y1 : w7.cell? ⟨q, 1, none⟩ = some (.int .i64 d) := (SO7.out.bel.cell (p := ⟨q, 1, none⟩) qlt).trans q1c
            have zl : w.heap.size + 1 < w7.heap.size := SO7.out.ka.lt
            go_upto_region 16 with (fail)
            have SA : Hid (SO w (w7.setCell ⟨w.heap.size, 0, none⟩ (.int .i64 xp)) #[.int .i64 xp, .int .i64 vi, .int .i64 vl, .int .i64 vp, .int .i64 vs, .int .i64 vt, .int .i64 vo]) := SO7.out.set 0 (.int .i64 xp)
            have zA : w.heap.size + 1 < (w7.setCell ⟨w.heap.size, 0, none⟩ (.int .i64 xp)).heap.size := SA.out.ka.lt
            obtain ⟨y0a, y1a, r2a⟩ := SO.s3 SA.out qlt q0c q1c
            have r1a := (Bk.c7 SA.out.kv).2.1
            have qA : q < (w7.setCell ⟨w.heap.size, 0, none⟩ (.int .i64 xp)).heap.size := by omega
            clear SO7
            clear r0 r1 r2 r3 r4 r5 r6 f0 f1 f2 f3 f4 f5 f6 a0 a1 a2 a3 a4 a5 a6 g0 g1 g2 g3 g4 g5 g6 e0 e1 e2 y0 y1 zl
            generalize w7.setCell ⟨w.heap.size, 0, none⟩ (.int .i64 xp) = wA at *
            have ky0 : ∀ p : Kin wA.heap.size wA, p.v.cell? ⟨q, 0, none⟩ = some (.int .i64 b) := kin_cell qA y0a
            have ky1 : ∀ p : Kin wA.heap.size wA, p.v.cell? ⟨q, 1, none⟩ = some (.int .i64 d) := kin_cell qA y1a
            have kr1 : ∀ p : Kin wA.heap.size wA, p.v.cell? ⟨w.heap.size, 1, none⟩ = some (.int .i64 vi) := kin_cell (by omega) r1a
            have kr2 : ∀ p : Kin wA.heap.size wA, p.v.cell? ⟨w.heap.size, 2, none⟩ = some (.int .i64 vl) := kin_cell (by omega) r2a
            refine region_kin_lastX 19 17 wA.heap.size rfl rfl rfl (by kernel_rfl) (by kernel_rfl) (by kernel_rfl) (fun _ _ _ _ h => h) (fun hne => ?_)
            simp only [List.take_succ_cons, List.take_zero]
            repeat (go_big_quiet_step (first | (go_at_call 92; exact kin_of (Nat.le_refl _) (CN _)) | (go_at_call 37; exact kin_of (Nat.le_refl _) (CF _))))
            refine wpQuiet_nil ?_
            intro w8 hw'
            obtain ⟨⟨w6, hw5⟩, hw''⟩ := hw'
            obtain rfl : w8 = w6 := hw''
            have SC : Hid (SO w w8 #[.int .i64 xp, .int .i64 vi, .int .i64 vl, .int .i64 vp, .int .i64 vs, .int .i64 vt, .int .i64 vo]) := SA.out.keep hw5
            clear SA ky0 ky1 kr1 kr2 hne hw5 y0a y1a r1a r2a zA qA
            obtain ⟨r0, r1, r2, r3, r4, r5, r6⟩ := Bk.c7 SC.out.kv
            obtain ⟨f0, f1, f2, f3, f4, f5, f6⟩ := SC.out.kv.f7
            obtain ⟨a0, a1, a2, a3, a4, a5, a6⟩ := Bk.c7 SC.out.ka
            obtain ⟨g0, g1, g2, g3, g4, g5, g6⟩ := SC.out.ka.f7
            have e0 : w8.cell? ⟨bk, off + ix * 4, none⟩ = some (.int .i64 va) := (SC.out.bel.cell (p := ⟨bk, off + ix * 4, none⟩) hbk).trans c0
            have e1 : w8.cell? ⟨bk, off + ix * 4 + 1, none⟩ = some (.int .i64 xs) := (SC.out.bel.cell (p := ⟨bk, off + ix * 4 + 1, none⟩) hbk).trans c1
            have e2 : w8.cell? ⟨bk, off + ix * 4 + 2, none⟩ = some (.int .i64 xp) := (SC.out.bel.cell (p := ⟨bk, off + ix * 4 + 2, none⟩) hbk).trans c2
            have y0 : w8.cell? ⟨q, 0, none⟩ = some (.int .i64 b) := (SC.out.bel.cell (p := ⟨q, 0, none⟩) qlt).trans q0c
            have y1 : w8.cell? ⟨q, 1, none⟩ = some (.int .i64 d) := (SC.out.bel.cell (p := ⟨q, 1, none⟩) qlt).trans q1c
            have zl : w.heap.size + 1 < w8.heap.size := SC.out.ka.lt
            go_wp2_with fail
            rw [Exit.noGoto_ret]
            obtain ⟨KA, KB⟩ := SO.out (vs := [.int .i64 xp, .int .i64 sh, .int .i64 (vl - 1), .int .i64 (vp + 1), .int .i64 vs, .int .i64 vt, .int .i64 vo]) (((SC.out.set 1 (.int .i64 sh)).set 2 (.int .i64 (vl - 1))).set 3 (.int .i64 (vp + 1)))
            refine bodyPost_ret (results_cell_row Try.results52 _ _ (w.heap.size + 1) _ _ _ _ rfl KA Try.underlying32 rfl (by kernel_rfl)) rfl ⟨?_, ?_⟩
            · rw [HV.out]; rfl
            · exact KB
          · have h6b : decide (0 < vl) = false := decide_eq_false h6
            have HV : Hid (A = #[.int .i64 (peerI ps va).succ, .int .i64 vi, .int .i64 vl, .int .i64 vp, .int .i64 (vs + 1), .int .i64 vt, .int .i64 vo]) := by rw [← HA.out]; unfold stp; rw [if_neg h1, if_neg h2n, if_neg h3, if_neg (fun hh => h6 hh.1)]; rfl
            clear h1 h2 h2n h5t
            generalize (peerI ps va).succ = xs at *
            generalize (peerI ps va).point = xp at *
            generalize idxI ps va = ix at *
            go_enter Try.func52, Try.ntmps52
            go_wp2_with fail
            go_step3
            go_wp2_with fail
            refine (CP _ SO0.out.bel).mono ?_
            rintro e w1 ⟨rfl, hw1⟩
            have SO1 : Hid (SO w w1 #[.int .i64 va, .int .i64 vi, .int .i64 vl, .int .i64 vp, .int .i64 vs, .int .i64 vt, .int .i64 vo]) := SO0.out.keep hw1
            clear hw1 SO0 CP
            obtain ⟨r0, r1, r2, r3, r4, r5, r6⟩ := Bk.c7 SO1.out.kv
            obtain ⟨f0, f1, f2, f3, f4, f5, f6⟩ := SO1.out.kv.f7
            obtain ⟨a0, a1, a2, a3, a4, a5, a6⟩ := Bk.c7 SO1.out.ka
            obtain ⟨g0, g1, g2, g3, g4, g5, g6⟩ := SO1.out.ka.f7
            have e0 : w1.cell? ⟨bk, off + ix * 4, none⟩ = some (.int .i64 va) := (SO1.out.bel.cell (p := ⟨bk, off + ix * 4, none⟩) hbk).trans c0
            have e1 : w1.cell? ⟨bk, off + ix * 4 + 1, none⟩ = some (.int .i64 xs) := (SO1.out.bel.cell (p := ⟨bk, off + ix * 4 + 1, none⟩) hbk).trans c1
            have e2 : w1.cell? ⟨bk, off + ix * 4 + 2, none⟩ = some (.int .i64 xp) := (SO1.out.bel.cell (p := ⟨bk, off + ix * 4 + 2, none⟩) hbk).trans c2
            have y0 : w1.cell? ⟨q, 0, none⟩ = some (.int .i64 b) := (SO1.out.bel.cell (p := ⟨q, 0, none⟩) qlt).trans q0c
            have y1 : w1.cell? ⟨q, 1, none⟩ = some (.int .i64 d) := (SO1.out.bel.cell (p := ⟨q, 1, none⟩) qlt).trans q1c
            have zl : w.heap.size + 1 < w1.heap.size := SO1.out.ka.lt
            go_wp2_with fail
            go_step3
            go_wp2_with fail
            have ke0 : ∀ p : Kin w1.heap.size w1, p.v.cell? ⟨bk, off + ix * 4, none⟩ = some (.int .i64 va) := kin_cell (Nat.lt_of_lt_of_le hbk SO1.out.bel.size) e0
            have ke1 : ∀ p : Kin w1.heap.size w1, p.v.cell? ⟨bk, off + ix * 4 + 1, none⟩ = some (.int .i64 xs) := kin_cell (Nat.lt_of_lt_of_le hbk SO1.out.bel.size) e1
            have ky0 : ∀ p : Kin w1.heap.size w1, p.v.cell? ⟨q, 0, none⟩ = some (.int .i64 b) := kin_cell (Nat.lt_of_lt_of_le qlt SO1.out.bel.size) y0
            have ky1 : ∀ p : Kin w1.heap.size w1, p.v.cell? ⟨q, 1, none⟩ = some (.int .i64 d) := kin_cell (Nat.lt_of_lt_of_le qlt SO1.out.bel.size) y1
            have kr1 : ∀ p : Kin w1.heap.size w1, p.v.cell? ⟨w.heap.size, 1, none⟩ = some (.int .i64 vi) := kin_cell (by omega) r1
            have kr2 : ∀ p : Kin w1.heap.size w1, p.v.cell? ⟨w.heap.size, 2, none⟩ = some (.int .i64 vl) := kin_cell (by omega) r2
            refine region_kin w1.heap.size (by kernel_rfl) (by kernel_rfl) (fun hne => ?_)
            repeat (go_big_quiet_step ((go_at_call 38; exact kin_of (Nat.le_refl _) (CA _))))
            refine wpQuiet_nil ?_
            intro w5 hw'
            obtain ⟨⟨w6, hw5⟩, hw''⟩ := hw'
            obtain rfl : w5 = w6 := hw''
            have SO5 : Hid (SO w w5 #[.int .i64 va, .int .i64 vi, .int .i64 vl, .int .i64 vp, .int .i64 vs, .int .i64 vt, .int .i64 vo]) := SO1.out.keep hw5
            clear ke0 ke1 ky0 ky1 kr1 kr2 hne hw5 SO1
            clear r0 r1 r2 r3 r4 r5 r6 f0 f1 f2 f3 f4 f5 f6 a0 a1 a2 a3 a4 a5 a6 g0 g1 g2 g3 g4 g5 g6 e0 e1 e2 y0 y1 zl
            obtain ⟨r0, r1, r2, r3, r4, r5, r6⟩ := Bk.c7 SO5.out.kv
            obtain ⟨f0, f1, f2, f3, f4, f5, f6⟩ := SO5.out.kv.f7
            obtain ⟨a0, a1, a2, a3, a4, a5, a6⟩ := Bk.c7 SO5.out.ka
            obtain ⟨g0, g1, g2, g3, g4, g5, g6⟩ := SO5.out.ka.f7
            have e0 : w5.cell? ⟨bk, off + ix * 4, none⟩ = some (.int .i64 va) := (SO5.out.bel.cell (p := ⟨bk, off + ix * 4, none⟩) hbk).trans c0
            have e1 : w5.cell? ⟨bk, off + ix * 4 + 1, none⟩ = some (.int .i64 xs) := (SO5.out.bel.cell (p := ⟨bk, off + ix * 4 + 1, none⟩) hbk).trans c1
            have e2 : w5.cell? ⟨bk, off + ix * 4 + 2, none⟩ = some (.int .i64 xp) := (SO5.out.bel.cell (p := ⟨bk, off + ix * 4 + 2, none⟩) hbk).trans c2
            have y0 : w5.cell? ⟨q, 0, none⟩ = some (.int .i64 b) := (SO5.out.bel.cell (p := ⟨q, 0, none⟩) qlt).trans q0c
            have y1 : w5.cell? ⟨q, 1, none⟩ = some (.int .i64 d) := (SO5.out.bel.cell (p := ⟨q, 1, none⟩) qlt).trans q1c
            have zl : w.heap.size + 1 < w5.heap.size := SO5.out.ka.lt
            go_upto_region 14 with (fail)
            have ke0 : ∀ p : Kin w5.heap.size w5, p.v.cell? ⟨bk, off + ix * 4, none⟩ = some (.int .i64 va) := kin_cell (Nat.lt_of_lt_of_le hbk SO5.out.bel.size) e0
            have ke1 : ∀ p : Kin w5.heap.size w5, p.v.cell? ⟨bk, off + ix * 4 + 1, none⟩ = some (.int .i64 xs) := kin_cell (Nat.lt_of_lt_of_le hbk SO5.out.bel.size) e1
            have ky0 : ∀ p : Kin w5.heap.size w5, p.v.cell? ⟨q, 0, none⟩ = some (.int .i64 b) := kin_cell (Nat.lt_of_lt_of_le qlt SO5.out.bel.size) y0
            have ky1 : ∀ p : Kin w5.heap.size w5, p.v.cell? ⟨q, 1, none⟩ = some (.int .i64 d) := kin_cell (Nat.lt_of_lt_of_le qlt SO5.out.bel.size) y1
            have kr1 : ∀ p : Kin w5.heap.size w5, p.v.cell? ⟨w.heap.size, 1, none⟩ = some (.int .i64 vi) := kin_cell (by omega) r1
            have kr2 : ∀ p : Kin w5.heap.size w5, p.v.cell? ⟨w.heap.size, 2, none⟩ = some (.int .i64 vl) := kin_cell (by omega) r2
            refine region_kin w5.heap.size (by kernel_rfl) (by kernel_rfl) (fun hne => ?_)
            repeat (go_big_quiet_step (fail))
            refine wpQuiet_nil ?_
            intro w7 hw'
            obtain ⟨⟨w6, hw5⟩, hw''⟩ := hw'
            obtain rfl : w7 = w6 := hw''
            have SO7 : Hid (SO w w7 #[.int .i64 va, .int .i64 vi, .int .i64 vl, .int .i64 vp, .int .i64 vs, .int .i64 vt, .int .i64 vo]) := SO5.out.keep hw5
            clear ke0 ke1 ky0 ky1 kr1 kr2 hne hw5 SO5
            clear r0 r1 r2 r3 r4 r5 r6 f0 f1 f2 f3 f4 f5 f6 a0 a1 a2 a3 a4 a5 a6 g0 g1 g2 g3 g4 g5 g6 e0 e1 e2 y0 y1 zl
            obtain ⟨r0, r1, r2, r3, r4, r5, r6⟩ := Bk.c7 SO7.out.kv
            obtain ⟨f0, f1, f2, f3, f4, f5, f6⟩ := SO7.out.kv.f7
            obtain ⟨a0, a1, a2, a3, a4, a5, a6⟩ := Bk.c7 SO7.out.ka
            obtain ⟨g0, g1, g2, g3, g4, g5, g6⟩ := SO7.out.ka.f7
            have e0 : w7.cell? ⟨bk, off + ix * 4, none⟩ = some (.int .i64 va) := (SO7.out.bel.cell (p := ⟨bk, off + ix * 4, none⟩) hbk).trans c0
            have e1 : w7.cell? ⟨bk, off + ix * 4 + 1, none⟩ = some (.int .i64 xs) := (SO7.out.bel.cell (p := ⟨bk, off + ix * 4 + 1, none⟩) hbk).trans c1
            have e2 : w7.cell? ⟨bk, off + ix * 4 + 2, none⟩ = some (.int .i64 xp) := (SO7.out.bel.cell (p := ⟨bk, off + ix * 4 + 2, none⟩) hbk).trans c2
            have y0 : w7.cell? ⟨q, 0, none⟩ = some (.int .i64 b) := (SO7.out.bel.cell (p := ⟨q, 0, none⟩) qlt).trans q0c
            have y1 : w7.cell? ⟨q, 1, none⟩ = some (.int .i64 d) := (SO7.out.bel.cell (p := ⟨q, 1, none⟩) qlt).trans q1c
            have zl : w.heap.size + 1 < w7.heap.size := SO7.out.ka.lt
            go_wp2_with fail
            rw [Exit.noGoto_ret]
            obtain ⟨KA, KB⟩ := SO.out (vs := [.int .i64 xs, .int .i64 vi, .int .i64 vl, .int .i64 vp, .int .i64 (vs + 1), .int .i64 vt, .int .i64 vo]) ((SO7.out.set 0 (.int .i64 xs)).set 4 (.int .i64 (vs + 1)))
            refine bodyPost_ret (results_cell_row Try.results52 _ _ (w.heap.size + 1) _ _ _ _ rfl KA Try.underlying32 rfl (by kernel_rfl)) rfl ⟨?_, ?_⟩
            · rw [HV.out]; rfl
            · exact KB
    · rw [h2] at CA
      have HV : Hid (A = #[.int .i64 va, .int .i64 vi, .int .i64 vl, .int .i64 vp, .int .i64 vs, .int .i64 1, .int .i64 (peerI ps va).succ]) := by rw [← HA.out]; unfold stp; rw [if_neg h1, if_pos h2]; rfl
      clear h1 h2 CS
      generalize (peerI ps va).succ = xs at *
      generalize (peerI ps va).point = xp at *
      generalize idxI ps va = ix at *
      go_enter Try.func52, Try.ntmps52
      go_wp2_with fail
      go_step3
      go_wp2_with fail
      refine (CP _ SO0.out.bel).mono ?_
      rintro e w1 ⟨rfl, hw1⟩
      have SO1 : Hid (SO w w1 #[.int .i64 va, .int .i64 vi, .int .i64 vl, .int .i64 vp, .int .i64 vs, .int .i64 vt, .int .i64 vo]) := SO0.out.keep hw1
      clear hw1 SO0 CP
      obtain ⟨r0, r1, r2, r3, r4, r5, r6⟩ := Bk.c7 SO1.out.kv
      obtain ⟨f0, f1, f2, f3, f4, f5, f6⟩ := SO1.out.kv.f7
      obtain ⟨a0, a1, a2, a3, a4, a5, a6⟩ := Bk.c7 SO1.out.ka
      obtain ⟨g0, g1, g2, g3, g4, g5, g6⟩ := SO1.out.ka.f7
      have e0 : w1.cell? ⟨bk, off + ix * 4, none⟩ = some (.int .i64 va) := (SO1.out.bel.cell (p := ⟨bk, off + ix * 4, none⟩) hbk).trans c0
      have e1 : w1.cell? ⟨bk, off + ix * 4 + 1, none⟩ = some (.int .i64 xs) := (SO1.out.bel.cell (p := ⟨bk, off + ix * 4 + 1, none⟩) hbk).trans c1
      have e2 : w1.cell? ⟨bk, off + ix * 4 + 2, none⟩ = some (.int .i64 xp) := (SO1.out.bel.cell (p := ⟨bk, off + ix * 4 + 2, none⟩) hbk).trans c2
      have y0 : w1.cell? ⟨q, 0, none⟩ = some (.int .i64 b) := (SO1.out.bel.cell (p := ⟨q, 0, none⟩) qlt).trans q0c
      have y1 : w1.cell? ⟨q, 1, none⟩ = some (.int .i64 d) := (SO1.out.bel.cell (p := ⟨q, 1, none⟩) qlt).trans q1c
      have zl : w.heap.size + 1 < w1.heap.size := SO1.out.ka.lt
      go_wp2_with fail
      go_step3
      go_wp2_with fail
      have ke0 : ∀ p : Kin w1.heap.size w1, p.v.cell? ⟨bk, off + ix * 4, none⟩ = some (.int .i64 va) := kin_cell (Nat.lt_of_lt_of_le hbk SO1.out.bel.size) e0
      have ke1 : ∀ p : Kin w1.heap.size w1, p.v.cell? ⟨bk, off + ix * 4 + 1, none⟩ = some (.int .i64 xs) := kin_cell (Nat.lt_of_lt_of_le hbk SO1.out.bel.size) e1
      have ky0 : ∀ p : Kin w1.heap.size w1, p.v.cell? ⟨q, 0, none⟩ = some (.int .i64 b) := kin_cell (Nat.lt_of_lt_of_le qlt SO1.out.bel.size) y0
      have ky1 : ∀ p : Kin w1.heap.size w1, p.v.cell? ⟨q, 1, none⟩ = some (.int .i64 d) := kin_cell (Nat.lt_of_lt_of_le qlt SO1.out.bel.size) y1
      have kr1 : ∀ p : Kin w1.heap.size w1, p.v.cell? ⟨w.heap.size, 1, none⟩ = some (.int .i64 vi) := kin_cell (by omega) r1
      have kr2 : ∀ p : Kin w1.heap.size w1, p.v.cell? ⟨w.heap.size, 2, none⟩ = some (.int .i64 vl) := kin_cell (by omega) r2
      refine region_kin w1.heap.size (by kernel_rfl) (by kernel_rfl) (fun hne => ?_)
      repeat (go_big_quiet_step ((go_at_call 38; exact kin_of (Nat.le_refl _) (CA _))))
      refine wpQuiet_nil ?_
      intro w5 hw'
      obtain ⟨⟨w6, hw5⟩, hw''⟩ := hw'
      obtain rfl : w5 = w6 := hw''
      have SO5 : Hid (SO w w5 #[.int .i64 va, .int .i64 vi, .int .i64 vl, .int .i64 vp, .int .i64 vs, .int .i64 vt, .int .i64 vo]) := SO1.out.keep hw5
      clear ke0 ke1 ky0 ky1 kr1 kr2 hne hw5 SO1
      clear r0 r1 r2 r3 r4 r5 r6 f0 f1 f2 f3 f4 f5 f6 a0 a1 a2 a3 a4 a5 a6 g0 g1 g2 g3 g4 g5 g6 e0 e1 e2 y0 y1 zl
      obtain ⟨r0, r1, r2, r3, r4, r5, r6⟩ := Bk.c7 SO5.out.kv
      obtain ⟨f0, f1, f2, f3, f4, f5, f6⟩ := SO5.out.kv.f7
      obtain ⟨a0, a1, a2, a3, a4, a5, a6⟩ := Bk.c7 SO5.out.ka
      obtain ⟨g0, g1, g2, g3, g4, g5, g6⟩ := SO5.out.ka.f7
      have e0 : w5.cell? ⟨bk, off + ix * 4, none⟩ = some (.int .i64 va) := (SO5.out.bel.cell (p := ⟨bk, off + ix * 4, none⟩) hbk).trans c0
      have e1 : w5.cell? ⟨bk, off + ix * 4 + 1, none⟩ = some (.int .i64 xs) := (SO5.out.bel.cell (p := ⟨bk, off + ix * 4 + 1, none⟩) hbk).trans c1
      have e2 : w5.cell? ⟨bk, off + ix * 4 + 2, none⟩ = some (.int .i64 xp) := (SO5.out.bel.cell (p := ⟨bk, off + ix * 4 + 2, none⟩) hbk).trans c2
      have y0 : w5.cell? ⟨q, 0, none⟩ = some (.int .i64 b) := (SO5.out.bel.cell (p := ⟨q, 0, none⟩) qlt).trans q0c
      have y1 : w5.cell? ⟨q, 1, none⟩ = some (.int .i64 d) := (SO5.out.bel.cell (p := ⟨q, 1, none⟩) qlt).trans q1c
      have zl : w.heap.size + 1 < w5.heap.size := SO5.out.ka.lt
      go_wp2_with fail
      go_region_held (fun w' => w'.cell? ⟨bk, off + ix * 4 + 1, none⟩ = some (.int .i64 xs)) (first | exact ((SO5.out).bel.cell (p := ⟨bk, off + ix * 4 + 1, none⟩) hbk).trans c1 | exact ((SO5.out.set 5 _).bel.cell (p := ⟨bk, off + ix * 4 + 1, none⟩) hbk).trans c1 | exact (((SO5.out.set 5 _).set 6 _).bel.cell (p := ⟨bk, off + ix * 4 + 1, none⟩) hbk).trans c1) (fail)
      go_wp2_with fail
      rw [Exit.noGoto_ret]
      obtain ⟨KA, KB⟩ := SO.out (vs := [.int .i64 va, .int .i64 vi, .int .i64 vl, .int .i64 vp, .int .i64 vs, .int .i64 1, .int .i64 xs]) ((SO5.out.set 5 (.int .i64 1)).set 6 (.int .i64 xs))
      refine bodyPost_ret (results_cell_row Try.results52 _ _ (w.heap.size + 1) _ _ _ _ rfl KA.drew Try.underlying32 rfl (by kernel_rfl)) rfl ⟨?_, ?_⟩
      · rw [HV.out]; rfl
      · exact KB.drew
end Go.Proofs.Ytejajlloipkkhaa
namespace Go.Proofs.Ytejajlloipkkhaa
open Go.RowKit Go.Deep
set_option linter.unusedVariables false
/-- the walk's box, the answer's, the space's -/
structure SP (w wr : World) (V : Array Value) (b d : Int) : Prop where
  bel : Below w.heap.size w wr
  kv : Bk wr (w.heap.size + 1) V 32
  ka : Bk wr (w.heap.size + 2) #[.int .i64 0, .int .i64 0, .int .i64 0, .int .i64 0, .int .i64 0, .int .i64 0, .int .i64 0] 32
  ks : Bk wr (w.heap.size + 3) #[.int .i64 b, .int .i64 d] 25
theorem SP.keep {w wr w1 : World} {V : Array Value} {b d : Int} (h : SP w wr V b d) (hb : Below wr.heap.size wr w1) : SP w w1 V b d := ⟨belt h.bel hb, h.kv.keep hb, h.ka.keep hb, h.ks.keep hb⟩
theorem sp0 (w : World) (V P : Array Value) (b d : Int) : SP w ((((w.alloc (.cells P 28)).alloc (.cells V 32)).alloc (.cells #[.int .i64 0, .int .i64 0, .int .i64 0, .int .i64 0, .int .i64 0, .int .i64 0, .int .i64 0] 32)).alloc (.cells #[.int .i64 b, .int .i64 d] 25)) V b d := by
  refine ⟨((((Below.refl _ _).alloc (Nat.le_refl _) _).alloc (by simp) _).alloc (by simp; omega) _).alloc (by simp; omega) _, ?_, ?_, ?_⟩
  · have := Bk.new (w.alloc (.cells P 28)) V 32
    simp only [World.size_alloc] at this
    exact (this.alloc _).alloc _
  · have := Bk.new ((w.alloc (.cells P 28)).alloc (.cells V 32)) #[.int .i64 0, .int .i64 0, .int .i64 0, .int .i64 0, .int .i64 0, .int .i64 0, .int .i64 0] 32
    simp only [World.size_alloc] at this
    exact this.alloc _
  · have := Bk.new (((w.alloc (.cells P 28)).alloc (.cells V 32)).alloc (.cells #[.int .i64 0, .int .i64 0, .int .i64 0, .int .i64 0, .int .i64 0, .int .i64 0, .int .i64 0] 32)) #[.int .i64 b, .int .i64 d] 25
    simp only [World.size_alloc] at this
    exact this
/-- with the peer's box at X -/
structure SX (w wr : World) (V : Array Value) (b d : Int) (X : Nat) (xi xs xp : Int) (vb : Value) : Prop where
  sp : SP w wr V b d
  kx : Bk wr X #[.int .i64 xi, .int .i64 xs, .int .i64 xp, vb] 101
  hX : w.heap.size + 3 < X
theorem SX.keep {w wr w1 : World} {V : Array Value} {b d : Int} {X : Nat} {xi xs xp : Int} {vb : Value} (h : SX w wr V b d X xi xs xp vb) (hb : Below wr.heap.size wr w1) : SX w w1 V b d X xi xs xp vb := ⟨h.sp.keep hb, h.kx.keep hb, h.hX⟩
theorem SX.set {w wr : World} {V : Array Value} {b d : Int} {X : Nat} {xi xs xp : Int} {vb : Value} (h : SX w wr V b d X xi xs xp vb) (i : Nat) (x : Value) : SX w (wr.setCell ⟨w.heap.size + 1, i, none⟩ x) (V.setIfInBounds i x) b d X xi xs xp vb :=
  ⟨⟨h.sp.bel.setCell (p := ⟨w.heap.size + 1, i, none⟩) (by simp) _, h.sp.kv.set i x, h.sp.ka.oth (by omega) i x, h.sp.ks.oth (by omega) i x⟩, h.kx.oth (by have := h.hX; omega) i x, h.hX⟩
theorem SX.ends {w wr : World} {V : Array Value} {b d : Int} {X : Nat} {xi xs xp : Int} {vb : Value} {vs : List Value} (h : SX w wr V b d X xi xs xp vb) : Bk (setL wr (w.heap.size + 2) 0 vs) (w.heap.size + 2) (ovr #[.int .i64 0, .int .i64 0, .int .i64 0, .int .i64 0, .int .i64 0, .int .i64 0, .int .i64 0] 0 vs) 32 ∧ Below w.heap.size w (setL wr (w.heap.size + 2) 0 vs) := ⟨h.sp.ka.setL vs 0, setL_below (by omega) vs 0 h.sp.bel⟩
set_option maxRecDepth 100000 in
set_option maxHeartbeats 3200000 in
theorem lstep_any (b d : Int) (a : Option Addr) (cap : Nat) (ps : List Pr) (k ttl : Int) (v : Wk) (w : World) (hg : goodP b d ps = true) (hv : WV b d ps k v) (k1 : 0 ≤ k) (k2 : k < sz b) (t1 : 0 ≤ ttl) (t2 : ttl ≤ 1000) (hr : PeersAt w a ps) :
    Calls Try.prog 67 #[.agg #[.int .i64 b, .int .i64 d, .slice a ps.length cap], .int .i64 k, .int .i64 ttl, .agg v.cells] w fun e w' => e = .returned (.agg (stp b d ps k ttl v).cells) ∧ Below w.heap.size w w' := by
  have R := (goodP_true hg).1
  have gs := R.gs
  obtain ⟨hb1, hb2, hd1, hd2, _⟩ := gsB_true gs
  have hd3 : d ≤ 12 := by omega
  obtain ⟨hs1, hs2⟩ := sz_bd hb1 hb2
  obtain ⟨hq0, q1, q2⟩ := cnt_bd hb1 hb2 hd1 hd2
  have l2 := R.l2
  rw [idsP_len] at l2
  obtain ⟨mem, i1, i2, l0, l3, p1, p2, s1, s2⟩ := hv
  obtain ⟨va, vi, vl, vp, vs, vt, vo⟩ := v
  simp only at mem i1 i2 l0 l3 p1 p2 s1 s2
  obtain ⟨x1, x2⟩ := has_rng R mem
  obtain ⟨u1, u2⟩ := succ_rng hg mem
  have pid := (peerI_good hg mem).1
  obtain ⟨ab, nb, cb, hvb⟩ := bkV_at mem hr
  have CP : ∀ w1, Below w.heap.size w w1 → Calls Try.prog 102 #[.agg #[.int .i64 b, .int .i64 d, .slice a ps.length cap], .int .i64 va] w1 fun e w' => e = .returned (.agg #[.int .i64 va, .int .i64 (peerI ps va).succ, .int .i64 (peerI ps va).point, .slice ab nb cb]) ∧ Below w1.heap.size w1 w' := fun w1 hb => by
    have h := lpeer_any b d a cap ps va w1 (by omega) (hr.keep hb)
    rwa [bkV_keep hr hb (Nat.le_refl _), hvb, pid] at h
  have CA := fun w1 => larc_any b d va k (peerI ps va).succ w1 hb1 hb2 x1 x2 k1 k2 u1 u2
  have CB := fun w1 => lbetween_any b d va vi (peerI ps va).succ w1 hb1 hb2 x1 x2 i1 i2 u1 u2
  clear pid hvb hr
  show Calls _ _ #[.agg #[.int .i64 b, .int .i64 d, .slice a ps.length cap], .int .i64 k, .int .i64 ttl, .agg #[.int .i64 va, .int .i64 vi, .int .i64 vl, .int .i64 vp, .int .i64 vs, .int .i64 vt, .int .i64 vo]] _ _
  have SP0 : Hid (SP w ((((w.alloc (.cells #[.int .i64 b, .int .i64 d, .slice a ps.length cap] 28)).alloc (.cells #[.int .i64 va, .int .i64 vi, .int .i64 vl, .int .i64 vp, .int .i64 vs, .int .i64 vt, .int .i64 vo] 32)).alloc (.cells #[.int .i64 0, .int .i64 0, .int .i64 0, .int .i64 0, .int .i64 0, .int .i64 0, .int .i64 0] 32)).alloc (.cells #[.int .i64 b, .int .i64 d] 25)) #[.int .i64 va, .int .i64 vi, .int .i64 vl, .int .i64 vp, .int .i64 vs, .int .i64 vt, .int .i64 vo] b d) := sp0 w _ _ _ _
  generalize hA : (stp b d ps k ttl ⟨va, vi, vl, vp, vs, vt, vo⟩).cells = A
  have HA : Hid ((stp b d ps k ttl ⟨va, vi, vl, vp, vs, vt, vo⟩).cells = A) := hA
  clear hA
  by_cases h1 : k = va
  · have HV : Hid (A = #[.int .i64 va, .int .i64 vi, .int .i64 vl, .int .i64 vp, .int .i64 vs, .int .i64 1, .int .i64 va]) := by rw [← HA.out]; unfold stp; rw [if_pos h1]; rfl
    have h1' : (k == va) = true := by simpa using h1
    clear h1 CA CB
    generalize (peerI ps va).succ = xs at *
    generalize (peerI ps va).point = xp at *
    go_enter Try.func67, Try.ntmps67
    go_wp2_with fail
    refine (CP _ SP0.out.bel).mono ?_
    rintro e w1 ⟨rfl, hw1⟩
    have SP1 : Hid (SP w w1 #[.int .i64 va, .int .i64 vi, .int .i64 vl, .int .i64 vp, .int .i64 vs, .int .i64 vt, .int .i64 vo] b d) := SP0.out.keep hw1
    clear hw1 SP0 CP
    go_upto_region 5 with (fail)
    have SX2 : Hid (SX w (w1.alloc (.cells #[.int .i64 va, .int .i64 xs, .int .i64 xp, .slice ab nb cb] 101)) #[.int .i64 va, .int .i64 vi, .int .i64 vl, .int .i64 vp, .int .i64 vs, .int .i64 vt, .int .i64 vo] b d w1.heap.size va xs xp (.slice ab nb cb)) := ⟨SP1.out.keep (belA _ _), Bk.new _ _ _, SP1.out.ks.lt⟩
    have hX := SX2.out.hX
    clear SP1
    generalize w1.alloc (.cells #[.int .i64 va, .int .i64 xs, .int .i64 xp, .slice ab nb cb] 101) = w2 at *
    generalize w1.heap.size = X at *
    obtain ⟨r0, r1, r2, r3, r4, r5, r6⟩ := Bk.c7 SX2.out.sp.kv
    obtain ⟨f0, f1, f2, f3, f4, f5, f6⟩ := SX2.out.sp.kv.f7
    obtain ⟨a0, a1, a2, a3, a4, a5, a6⟩ := Bk.c7 SX2.out.sp.ka
    obtain ⟨g0, g1, g2, g3, g4, g5, g6⟩ := SX2.out.sp.ka.f7
    obtain ⟨y0, y1⟩ := Bk.c2 SX2.out.sp.ks
    obtain ⟨e0, e1, e2, e3⟩ := Bk.c4 SX2.out.kx
    have zl : X < w2.heap.size := SX2.out.kx.lt
    go_wp2_with fail
    obtain ⟨KA, KB⟩ := SX.ends (vs := [.int .i64 va, .int .i64 vi, .int .i64 vl, .int .i64 vp, .int .i64 vs, .int .i64 1, .int .i64 va]) ((SX2.out.set 5 (.int .i64 1)).set 6 (.int .i64 va))
    refine bodyPost_ret (results_cell_row Try.results67 _ _ (w.heap.size + 2) _ _ _ _ rfl KA Try.underlying32 rfl (by kernel_rfl)) rfl ⟨?_, ?_⟩
    · rw [HV.out]; rfl
    · exact KB
  · have h1' : (k == va) = false := by simpa using h1
    cases h2 : arcB b va k (peerI ps va).succ
    · rw [h2] at CA
      have h2n : ¬ arcB b va k (peerI ps va).succ = true := by rw [h2]; simp
      by_cases h3 : ttl ≤ vp + vs
      · have HV : Hid (A = #[.int .i64 va, .int .i64 vi, .int .i64 vl, .int .i64 vp, .int .i64 vs, .int .i64 2, .int .i64 vo]) := by rw [← HA.out]; unfold stp; rw [if_neg h1, if_neg h2n, if_pos h3]; rfl
        clear h1 h2 h2n CB
        generalize (peerI ps va).succ = xs at *
        generalize (peerI ps va).point = xp at *
        go_enter Try.func67, Try.ntmps67
        go_wp2_with fail
        refine (CP _ SP0.out.bel).mono ?_
        rintro e w1 ⟨rfl, hw1⟩
        have SP1 : Hid (SP w w1 #[.int .i64 va, .int .i64 vi, .int .i64 vl, .int .i64 vp, .int .i64 vs, .int .i64 vt, .int .i64 vo] b d) := SP0.out.keep hw1
        clear hw1 SP0 CP
        go_upto_region 5 with (fail)
        have SX2 : Hid (SX w (w1.alloc (.cells #[.int .i64 va, .int .i64 xs, .int .i64 xp, .slice ab nb cb] 101)) #[.int .i64 va, .int .i64 vi, .int .i64 vl, .int .i64 vp, .int .i64 vs, .int .i64 vt, .int .i64 vo] b d w1.heap.size va xs xp (.slice ab nb cb)) := ⟨SP1.out.keep (belA _ _), Bk.new _ _ _, SP1.out.ks.lt⟩
        have hX := SX2.out.hX
        clear SP1
        generalize w1.alloc (.cells #[.int .i64 va, .int .i64 xs, .int .i64 xp, .slice ab nb cb] 101) = w2 at *
        generalize w1.heap.size = X at *
        obtain ⟨r0, r1, r2, r3, r4, r5, r6⟩ := Bk.c7 SX2.out.sp.kv
        obtain ⟨f0, f1, f2, f3, f4, f5, f6⟩ := SX2.out.sp.kv.f7
        obtain ⟨a0, a1, a2, a3, a4, a5, a6⟩ := Bk.c7 SX2.out.sp.ka
        obtain ⟨g0, g1, g2, g3, g4, g5, g6⟩ := SX2.out.sp.ka.f7
        obtain ⟨y0, y1⟩ := Bk.c2 SX2.out.sp.ks
        obtain ⟨e0, e1, e2, e3⟩ := Bk.c4 SX2.out.kx
        have zl : X < w2.heap.size := SX2.out.kx.lt
        go_wp2_with fail
        refine (CA _).mono ?_
        rintro e w3 ⟨rfl, hww3⟩
        have SX3 : Hid (SX w w3 #[.int .i64 va, .int .i64 vi, .int .i64 vl, .int .i64 vp, .int .i64 vs, .int .i64 vt, .int .i64 vo] b d X va xs xp (.slice ab nb cb)) := SX2.out.keep hww3
        clear hww3 SX2
        clear r0 r1 r2 r3 r4 r5 r6 f0 f1 f2 f3 f4 f5 f6 a0 a1 a2 a3 a4 a5 a6 g0 g1 g2 g3 g4 g5 g6 e0 e1 e2 e3 y0 y1 zl
        obtain ⟨r0, r1, r2, r3, r4, r5, r6⟩ := Bk.c7 SX3.out.sp.kv
        obtain ⟨f0, f1, f2, f3, f4, f5, f6⟩ := SX3.out.sp.kv.f7
        obtain ⟨a0, a1, a2, a3, a4, a5, a6⟩ := Bk.c7 SX3.out.sp.ka
        obtain ⟨g0, g1, g2, g3, g4, g5, g6⟩ := SX3.out.sp.ka.f7
        obtain ⟨y0, y1⟩ := Bk.c2 SX3.out.sp.ks
        obtain ⟨e0, e1, e2, e3⟩ := Bk.c4 SX3.out.kx
        have zl : X < w3.heap.size := SX3.out.kx.lt
        go_wp2_with fail
        obtain ⟨KA, KB⟩ := SX.ends (vs := [.int .i64 va, .int .i64 vi, .int .i64 vl, .int .i64 vp, .int .i64 vs, .int .i64 2, .int .i64 vo]) (SX3.out.set 5 (.int .i64 2))
        refine bodyPost_ret (results_cell_row Try.results67 _ _ (w.heap.size + 2) _ _ _ _ rfl KA Try.underlying32 rfl (by kernel_rfl)) rfl ⟨?_, ?_⟩
        · rw [HV.out]; rfl
        · exact KB
      · have h3b : decide (ttl ≤ vp + vs) = false := decide_eq_false h3
        by_cases h6 : 0 < vl
        · by_cases h7 : vi = va
          · have HV : Hid (A = #[.int .i64 (peerI ps va).point, .int .i64 (shf b d vi (dgt4 d k vl)), .int .i64 (vl - 1), .int .i64 (vp + 1), .int .i64 vs, .int .i64 vt, .int .i64 vo]) := by rw [← HA.out]; unfold stp; rw [if_neg h1, if_neg h2n, if_neg h3, if_pos ⟨h6, .inl h7⟩]; rfl
            have h7' : (vi == va) = true := by simpa using h7
            clear h1 h2 h2n h7 CB
            have CN := fun w1 => ldigit4_any b d k vl w1 gs k1 k2 (by omega) l3
            have hdg := dgt4_bd d k vl
            have CF := fun w1 => lshift_any b d vi (dgt4 d k vl) w1 hb1 hb2 hd1 hd3 i1 i2 hdg.1 hdg.2
            generalize shf b d vi (dgt4 d k vl) = sh at *
            generalize dgt4 d k vl = dg at *
            generalize (peerI ps va).succ = xs at *
            generalize (peerI ps va).point = xp at *
            go_enter Try.func67, Try.ntmps67
            go_wp2_with fail
            refine (CP _ SP0.out.bel).mono ?_
            rintro e w1 ⟨rfl, hw1⟩
            have SP1 : Hid (SP w w1 #[.int .i64 va, .int .i64 vi, .int .i64 vl, .int .i64 vp, .int .i64 vs, .int .i64 vt, .int .i64 vo] b d) := SP0.out.keep hw1
            clear hw1 SP0 CP
            go_upto_region 5 with (fail)
            have SX2 : Hid (SX w (w1.alloc (.cells #[.int .i64 va, .int .i64 xs, .int .i64 xp, .slice ab nb cb] 101)) #[.int .i64 va, .int .i64 vi, .int .i64 vl, .int .i64 vp, .int .i64 vs, .int .i64 vt, .int .i64 vo] b d w1.heap.size va xs xp (.slice ab nb cb)) := ⟨SP1.out.keep (belA _ _), Bk.new _ _ _, SP1.out.ks.lt⟩
            have hX := SX2.out.hX
            clear SP1
            generalize w1.alloc (.cells #[.int .i64 va, .int .i64 xs, .int .i64 xp, .slice ab nb cb] 101) = w2 at *
            generalize w1.heap.size = X at *
            obtain ⟨r0, r1, r2, r3, r4, r5, r6⟩ := Bk.c7 SX2.out.sp.kv
            obtain ⟨f0, f1, f2, f3, f4, f5, f6⟩ := SX2.out.sp.kv.f7
            obtain ⟨a0, a1, a2, a3, a4, a5, a6⟩ := Bk.c7 SX2.out.sp.ka
            obtain ⟨g0, g1, g2, g3, g4, g5, g6⟩ := SX2.out.sp.ka.f7
            obtain ⟨y0, y1⟩ := Bk.c2 SX2.out.sp.ks
            obtain ⟨e0, e1, e2, e3⟩ := Bk.c4 SX2.out.kx
            have zl : X < w2.heap.size := SX2.out.kx.lt
            go_wp2_with fail
            refine (CA _).mono ?_
            rintro e w3 ⟨rfl, hw3⟩
            have SX3 : Hid (SX w w3 #[.int .i64 va, .int .i64 vi, .int .i64 vl, .int .i64 vp, .int .i64 vs, .int .i64 vt, .int .i64 vo] b d X va xs xp (.slice ab nb cb)) := SX2.out.keep hw3
            clear hw3 SX2
            clear r0 r1 r2 r3 r4 r5 r6 f0 f1 f2 f3 f4 f5 f6 a0 a1 a2 a3 a4 a5 a6 g0 g1 g2 g3 g4 g5 g6 e0 e1 e2 e3 y0 y1 zl
            obtain ⟨r0, r1, r2, r3, r4, r5, r6⟩ := Bk.c7 SX3.out.sp.kv
            obtain ⟨f0, f1, f2, f3, f4, f5, f6⟩ := SX3.out.sp.kv.f7
            obtain ⟨a0, a1, a2, a3, a4, a5, a6⟩ := Bk.c7 SX3.out.sp.ka
            obtain ⟨g0, g1, g2, g3, g4, g5, g6⟩ := SX3.out.sp.ka.f7
            obtain ⟨y0, y1⟩ := Bk.c2 SX3.out.sp.ks
            obtain ⟨e0, e1, e2, e3⟩ := Bk.c4 SX3.out.kx
            have zl : X < w3.heap.size := SX3.out.kx.lt
            go_upto_region 14 with (fail)
            have ky0 : ∀ p : Kin w3.heap.size w3, p.v.cell? ⟨w.heap.size + 3, 0, none⟩ = some (.int .i64 b) := kin_cell (by omega) y0
            have ky1 : ∀ p : Kin w3.heap.size w3, p.v.cell? ⟨w.heap.size + 3, 1, none⟩ = some (.int .i64 d) := kin_cell (by omega) y1
            have kr1 : ∀ p : Kin w3.heap.size w3, p.v.cell? ⟨w.heap.size + 1, 1, none⟩ = some (.int .i64 vi) := kin_cell (by omega) r1
            have kr2 : ∀ p : Kin w3.heap.size w3, p.v.cell? ⟨w.heap.size + 1, 2, none⟩ = some (.int .i64 vl) := kin_cell (by omega) r2
            refine region_kin_last 10 w3.heap.size rfl (by kernel_rfl) (by kernel_rfl) (by kernel_rfl) (fun hne => ?_)
            simp only [List.take_succ_cons, List.take_zero]
            repeat (go_big_quiet_step (first | (go_at_call 106; exact kin_of (Nat.le_refl _) (CN _)) | (go_at_call 105; exact kin_of (Nat.le_refl _) (CF _))))
            refine wpQuiet_nil ?_
            intro w8 hw'
            obtain ⟨⟨w6, hw5⟩, hw''⟩ := hw'
            obtain rfl : w8 = w6 := hw''
            have SC : Hid (SX w w8 #[.int .i64 va, .int .i64 vi, .int .i64 vl, .int .i64 vp, .int .i64 vs, .int .i64 vt, .int .i64 vo] b d X va xs xp (.slice ab nb cb)) := SX3.out.keep hw5
            clear SX3 ky0 ky1 kr1 kr2 hne hw5
            clear r0 r1 r2 r3 r4 r5 r6 f0 f1 f2 f3 f4 f5 f6 a0 a1 a2 a3 a4 a5 a6 g0 g1 g2 g3 g4 g5 g6 e0 e1 e2 e3 y0 y1 zl
            obtain ⟨r0, r1, r2, r3, r4, r5, r6⟩ := Bk.c7 SC.out.sp.kv
            obtain ⟨f0, f1, f2, f3, f4, f5, f6⟩ := SC.out.sp.kv.f7
            obtain ⟨a0, a1, a2, a3, a4, a5, a6⟩ := Bk.c7 SC.out.sp.ka
            obtain ⟨g0, g1, g2, g3, g4, g5, g6⟩ := SC.out.sp.ka.f7
            obtain ⟨y0, y1⟩ := Bk.c2 SC.out.sp.ks
            obtain ⟨e0, e1, e2, e3⟩ := Bk.c4 SC.out.kx
            have zl : X < w8.heap.size := SC.out.kx.lt
            go_wp2_with fail
            obtain ⟨KA, KB⟩ := SX.ends (vs := [.int .i64 xp, .int .i64 sh, .int .i64 (vl - 1), .int .i64 (vp + 1), .int .i64 vs, .int .i64 vt, .int .i64 vo]) ((((SC.out.set 1 (.int .i64 sh)).set 2 (.int .i64 (vl - 1))).set 0 (.int .i64 xp)).set 3 (.int .i64 (vp + 1)))
            refine bodyPost_ret (results_cell_row Try.results67 _ _ (w.heap.size + 2) _ _ _ _ rfl KA Try.underlying32 rfl (by kernel_rfl)) rfl ⟨?_, ?_⟩
            · rw [HV.out]; rfl
            · exact KB
          · have h7' : (vi == va) = false := by simpa using h7
            cases h8 : btwB b va vi (peerI ps va).succ
            · rw [h8] at CB
              have HV : Hid (A = #[.int .i64 (peerI ps va).succ, .int .i64 vi, .int .i64 vl, .int .i64 vp, .int .i64 (vs + 1), .int .i64 vt, .int .i64 vo]) := by rw [← HA.out]; unfold stp; rw [if_neg h1, if_neg h2n, if_neg h3, if_neg (fun hh => by rcases hh.2 with hh | hh; exact h7 hh; rw [h8] at hh; cases hh)]; rfl
              clear h1 h2 h2n h7 h8
              generalize (peerI ps va).succ = xs at *
              generalize (peerI ps va).point = xp at *
              go_enter Try.func67, Try.ntmps67
              go_wp2_with fail
              refine (CP _ SP0.out.bel).mono ?_
              rintro e w1 ⟨rfl, hw1⟩
              have SP1 : Hid (SP w w1 #[.int .i64 va, .int .i64 vi, .int .i64 vl, .int .i64 vp, .int .i64 vs, .int .i64 vt, .int .i64 vo] b d) := SP0.out.keep hw1
              clear hw1 SP0 CP
              go_upto_region 5 with (fail)
              have SX2 : Hid (SX w (w1.alloc (.cells #[.int .i64 va, .int .i64 xs, .int .i64 xp, .slice ab nb cb] 101)) #[.int .i64 va, .int .i64 vi, .int .i64 vl, .int .i64 vp, .int .i64 vs, .int .i64 vt, .int .i64 vo] b d w1.heap.size va xs xp (.slice ab nb cb)) := ⟨SP1.out.keep (belA _ _), Bk.new _ _ _, SP1.out.ks.lt⟩
              have hX := SX2.out.hX
              clear SP1
              generalize w1.alloc (.cells #[.int .i64 va, .int .i64 xs, .int .i64 xp, .slice ab nb cb] 101) = w2 at *
              generalize w1.heap.size = X at *
              obtain ⟨r0, r1, r2, r3, r4, r5, r6⟩ := Bk.c7 SX2.out.sp.kv
              obtain ⟨f0, f1, f2, f3, f4, f5, f6⟩ := SX2.out.sp.kv.f7
              obtain ⟨a0, a1, a2, a3, a4, a5, a6⟩ := Bk.c7 SX2.out.sp.ka
              obtain ⟨g0, g1, g2, g3, g4, g5, g6⟩ := SX2.out.sp.ka.f7
              obtain ⟨y0, y1⟩ := Bk.c2 SX2.out.sp.ks
              obtain ⟨e0, e1, e2, e3⟩ := Bk.c4 SX2.out.kx
              have zl : X < w2.heap.size := SX2.out.kx.lt
              go_wp2_with fail
              refine (CA _).mono ?_
              rintro e w3 ⟨rfl, hww3⟩
              have SX3 : Hid (SX w w3 #[.int .i64 va, .int .i64 vi, .int .i64 vl, .int .i64 vp, .int .i64 vs, .int .i64 vt, .int .i64 vo] b d X va xs xp (.slice ab nb cb)) := SX2.out.keep hww3
              clear hww3 SX2
              clear r0 r1 r2 r3 r4 r5 r6 f0 f1 f2 f3 f4 f5 f6 a0 a1 a2 a3 a4 a5 a6 g0 g1 g2 g3 g4 g5 g6 e0 e1 e2 e3 y0 y1 zl
              obtain ⟨r0, r1, r2, r3, r4, r5, r6⟩ := Bk.c7 SX3.out.sp.kv
              obtain ⟨f0, f1, f2, f3, f4, f5, f6⟩ := SX3.out.sp.kv.f7
              obtain ⟨a0, a1, a2, a3, a4, a5, a6⟩ := Bk.c7 SX3.out.sp.ka
              obtain ⟨g0, g1, g2, g3, g4, g5, g6⟩ := SX3.out.sp.ka.f7
              obtain ⟨y0, y1⟩ := Bk.c2 SX3.out.sp.ks
              obtain ⟨e0, e1, e2, e3⟩ := Bk.c4 SX3.out.kx
              have zl : X < w3.heap.size := SX3.out.kx.lt
              go_wp2_with fail
              refine (CB _).mono ?_
              rintro e w4 ⟨rfl, hww4⟩
              have SX4 : Hid (SX w w4 #[.int .i64 va, .int .i64 vi, .int .i64 vl, .int .i64 vp, .int .i64 vs, .int .i64 vt, .int .i64 vo] b d X va xs xp (.slice ab nb cb)) := SX3.out.keep hww4
              clear hww4 SX3
              clear r0 r1 r2 r3 r4 r5 r6 f0 f1 f2 f3 f4 f5 f6 a0 a1 a2 a3 a4 a5 a6 g0 g1 g2 g3 g4 g5 g6 e0 e1 e2 e3 y0 y1 zl
              obtain ⟨r0, r1, r2, r3, r4, r5, r6⟩ := Bk.c7 SX4.out.sp.kv
              obtain ⟨f0, f1, f2, f3, f4, f5, f6⟩ := SX4.out.sp.kv.f7
              obtain ⟨a0, a1, a2, a3, a4, a5, a6⟩ := Bk.c7 SX4.out.sp.ka
              obtain ⟨g0, g1, g2, g3, g4, g5, g6⟩ := SX4.out.sp.ka.f7
              obtain ⟨y0, y1⟩ := Bk.c2 SX4.out.sp.ks
              obtain ⟨e0, e1, e2, e3⟩ := Bk.c4 SX4.out.kx
              have zl : X < w4.heap.size := SX4.out.kx.lt
              go_wp2_with fail
              obtain ⟨KA, KB⟩ := SX.ends (vs := [.int .i64 xs, .int .i64 vi, .int .i64 vl, .int .i64 vp, .int .i64 (vs + 1), .int .i64 vt, .int .i64 vo]) ((SX4.out.set 0 (.int .i64 xs)).set 4 (.int .i64 (vs + 1)))
              refine bodyPost_ret (results_cell_row Try.results67 _ _ (w.heap.size + 2) _ _ _ _ rfl KA Try.underlying32 rfl (by kernel_rfl)) rfl ⟨?_, ?_⟩
              · rw [HV.out]; rfl
              · exact KB
            · rw [h8] at CB
              have HV : Hid (A = #[.int .i64 (peerI ps va).point, .int .i64 (shf b d vi (dgt4 d k vl)), .int .i64 (vl - 1), .int .i64 (vp + 1), .int .i64 vs, .int .i64 vt, .int .i64 vo]) := by rw [← HA.out]; unfold stp; rw [if_neg h1, if_neg h2n, if_neg h3, if_pos ⟨h6, .inr h8⟩]; rfl
              clear h1 h2 h2n h7 h8
              have CN := fun w1 => ldigit4_any b d k vl w1 gs k1 k2 (by omega) l3
              have hdg := dgt4_bd d k vl
              have CF := fun w1 => lshift_any b d vi (dgt4 d k vl) w1 hb1 hb2 hd1 hd3 i1 i2 hdg.1 hdg.2
              generalize shf b d vi (dgt4 d k vl) = sh at *
              generalize dgt4 d k vl = dg at *
              generalize (peerI ps va).succ = xs at *
              generalize (peerI ps va).point = xp at *
              go_enter Try.func67, Try.ntmps67
              go_wp2_with fail
              refine (CP _ SP0.out.bel).mono ?_
              rintro e w1 ⟨rfl, hw1⟩
              have SP1 : Hid (SP w w1 #[.int .i64 va, .int .i64 vi, .int .i64 vl, .int .i64 vp, .int .i64 vs, .int .i64 vt, .int .i64 vo] b d) := SP0.out.keep hw1
              clear hw1 SP0 CP
              go_upto_region 5 with (fail)
              have SX2 : Hid (SX w (w1.alloc (.cells #[.int .i64 va, .int .i64 xs, .int .i64 xp, .slice ab nb cb] 101)) #[.int .i64 va, .int .i64 vi, .int .i64 vl, .int .i64 vp, .int .i64 vs, .int .i64 vt, .int .i64 vo] b d w1.heap.size va xs xp (.slice ab nb cb)) := ⟨SP1.out.keep (belA _ _), Bk.new _ _ _, SP1.out.ks.lt⟩
              have hX := SX2.out.hX
              clear SP1
              generalize w1.alloc (.cells #[.int .i64 va, .int .i64 xs, .int .i64 xp, .slice ab nb cb] 101) = w2 at *
              generalize w1.heap.size = X at *
              obtain ⟨r0, r1, r2, r3, r4, r5, r6⟩ := Bk.c7 SX2.out.sp.kv
              obtain ⟨f0, f1, f2, f3, f4, f5, f6⟩ := SX2.out.sp.kv.f7
              obtain ⟨a0, a1, a2, a3, a4, a5, a6⟩ := Bk.c7 SX2.out.sp.ka
              obtain ⟨g0, g1, g2, g3, g4, g5, g6⟩ := SX2.out.sp.ka.f7
              obtain ⟨y0, y1⟩ := Bk.c2 SX2.out.sp.ks
              obtain ⟨e0, e1, e2, e3⟩ := Bk.c4 SX2.out.kx
              have zl : X < w2.heap.size := SX2.out.kx.lt
              go_wp2_with fail
              refine (CA _).mono ?_
              rintro e w3 ⟨rfl, hww3⟩
              have SX3 : Hid (SX w w3 #[.int .i64 va, .int .i64 vi, .int .i64 vl, .int .i64 vp, .int .i64 vs, .int .i64 vt, .int .i64 vo] b d X va xs xp (.slice ab nb cb)) := SX2.out.keep hww3
              clear hww3 SX2
              clear r0 r1 r2 r3 r4 r5 r6 f0 f1 f2 f3 f4 f5 f6 a0 a1 a2 a3 a4 a5 a6 g0 g1 g2 g3 g4 g5 g6 e0 e1 e2 e3 y0 y1 zl
              obtain ⟨r0, r1, r2, r3, r4, r5, r6⟩ := Bk.c7 SX3.out.sp.kv
              obtain ⟨f0, f1, f2, f3, f4, f5, f6⟩ := SX3.out.sp.kv.f7
              obtain ⟨a0, a1, a2, a3, a4, a5, a6⟩ := Bk.c7 SX3.out.sp.ka
              obtain ⟨g0, g1, g2, g3, g4, g5, g6⟩ := SX3.out.sp.ka.f7
              obtain ⟨y0, y1⟩ := Bk.c2 SX3.out.sp.ks
              obtain ⟨e0, e1, e2, e3⟩ := Bk.c4 SX3.out.kx
              have zl : X < w3.heap.size := SX3.out.kx.lt
              go_wp2_with fail
              refine (CB _).mono ?_
              rintro e w4 ⟨rfl, hw4⟩
              have SX4 : Hid (SX w w4 #[.int .i64 va, .int .i64 vi, .int .i64 vl, .int .i64 vp, .int .i64 vs, .int .i64 vt, .int .i64 vo] b d X va xs xp (.slice ab nb cb)) := SX3.out.keep hw4
              clear hw4 SX3
              clear r0 r1 r2 r3 r4 r5 r6 f0 f1 f2 f3 f4 f5 f6 a0 a1 a2 a3 a4 a5 a6 g0 g1 g2 g3 g4 g5 g6 e0 e1 e2 e3 y0 y1 zl
              obtain ⟨r0, r1, r2, r3, r4, r5, r6⟩ := Bk.c7 SX4.out.sp.kv
              obtain ⟨f0, f1, f2, f3, f4, f5, f6⟩ := SX4.out.sp.kv.f7
              obtain ⟨a0, a1, a2, a3, a4, a5, a6⟩ := Bk.c7 SX4.out.sp.ka
              obtain ⟨g0, g1, g2, g3, g4, g5, g6⟩ := SX4.out.sp.ka.f7
              obtain ⟨y0, y1⟩ := Bk.c2 SX4.out.sp.ks
              obtain ⟨e0, e1, e2, e3⟩ := Bk.c4 SX4.out.kx
              have zl : X < w4.heap.size := SX4.out.kx.lt
              go_upto_region 14 with (fail)
              have ky0 : ∀ p : Kin w4.heap.size w4, p.v.cell? ⟨w.heap.size + 3, 0, none⟩ = some (.int .i64 b) := kin_cell (by omega) y0
              have ky1 : ∀ p : Kin w4.heap.size w4, p.v.cell? ⟨w.heap.size + 3, 1, none⟩ = some (.int .i64 d) := kin_cell (by omega) y1
              have kr1 : ∀ p : Kin w4.heap.size w4, p.v.cell? ⟨w.heap.size + 1, 1, none⟩ = some (.int .i64 vi) := kin_cell (by omega) r1
              have kr2 : ∀ p : Kin w4.heap.size w4, p.v.cell? ⟨w.heap.size + 1, 2, none⟩ = some (.int .i64 vl) := kin_cell (by omega) r2
              refine region_kin_last 10 w4.heap.size rfl (by kernel_rfl) (by kernel_rfl) (by kernel_rfl) (fun hne => ?_)
              simp only [List.take_succ_cons, List.take_zero]
              repeat (go_big_quiet_step (first | (go_at_call 106; exact kin_of (Nat.le_refl _) (CN _)) | (go_at_call 105; exact kin_of (Nat.le_refl _) (CF _))))
              refine wpQuiet_nil ?_
              intro w8 hw'
              obtain ⟨⟨w6, hw5⟩, hw''⟩ := hw'
              obtain rfl : w8 = w6 := hw''
              have SC : Hid (SX w w8 #[.int .i64 va, .int .i64 vi, .int .i64 vl, .int .i64 vp, .int .i64 vs, .int .i64 vt, .int .i64 vo] b d X va xs xp (.slice ab nb cb)) := SX4.out.keep hw5
              clear SX4 ky0 ky1 kr1 kr2 hne hw5
              clear r0 r1 r2 r3 r4 r5 r6 f0 f1 f2 f3 f4 f5 f6 a0 a1 a2 a3 a4 a5 a6 g0 g1 g2 g3 g4 g5 g6 e0 e1 e2 e3 y0 y1 zl
              obtain ⟨r0, r1, r2, r3, r4, r5, r6⟩ := Bk.c7 SC.out.sp.kv
              obtain ⟨f0, f1, f2, f3, f4, f5, f6⟩ := SC.out.sp.kv.f7
              obtain ⟨a0, a1, a2, a3, a4, a5, a6⟩ := Bk.c7 SC.out.sp.ka
              obtain ⟨g0, g1, g2, g3, g4, g5, g6⟩ := SC.out.sp.ka.f7
              obtain ⟨y0, y1⟩ := Bk.c2 SC.out.sp.ks
              obtain ⟨e0, e1, e2, e3⟩ := Bk.c4 SC.out.kx
              have zl : X < w8.heap.size := SC.out.kx.lt
              go_wp2_with fail
              obtain ⟨KA, KB⟩ := SX.ends (vs := [.int .i64 xp, .int .i64 sh, .int .i64 (vl - 1), .int .i64 (vp + 1), .int .i64 vs, .int .i64 vt, .int .i64 vo]) ((((SC.out.set 1 (.int .i64 sh)).set 2 (.int .i64 (vl - 1))).set 0 (.int .i64 xp)).set 3 (.int .i64 (vp + 1)))
              refine bodyPost_ret (results_cell_row Try.results67 _ _ (w.heap.size + 2) _ _ _ _ rfl KA Try.underlying32 rfl (by kernel_rfl)) rfl ⟨?_, ?_⟩
              · rw [HV.out]; rfl
              · exact KB
        · have h6b : decide (0 < vl) = false := decide_eq_false h6
          have HV : Hid (A = #[.int .i64 (peerI ps va).succ, .int .i64 vi, .int .i64 vl, .int .i64 vp, .int .i64 (vs + 1), .int .i64 vt, .int .i64 vo]) := by rw [← HA.out]; unfold stp; rw [if_neg h1, if_neg h2n, if_neg h3, if_neg (fun hh => h6 hh.1)]; rfl
          clear h1 h2 h2n CB
          generalize (peerI ps va).succ = xs at *
          generalize (peerI ps va).point = xp at *
          go_enter Try.func67, Try.ntmps67
          go_wp2_with fail
          refine (CP _ SP0.out.bel).mono ?_
          rintro e w1 ⟨rfl, hw1⟩
          have SP1 : Hid (SP w w1 #[.int .i64 va, .int .i64 vi, .int .i64 vl, .int .i64 vp, .int .i64 vs, .int .i64 vt, .int .i64 vo] b d) := SP0.out.keep hw1
          clear hw1 SP0 CP
          go_upto_region 5 with (fail)
          have SX2 : Hid (SX w (w1.alloc (.cells #[.int .i64 va, .int .i64 xs, .int .i64 xp, .slice ab nb cb] 101)) #[.int .i64 va, .int .i64 vi, .int .i64 vl, .int .i64 vp, .int .i64 vs, .int .i64 vt, .int .i64 vo] b d w1.heap.size va xs xp (.slice ab nb cb)) := ⟨SP1.out.keep (belA _ _), Bk.new _ _ _, SP1.out.ks.lt⟩
          have hX := SX2.out.hX
          clear SP1
          generalize w1.alloc (.cells #[.int .i64 va, .int .i64 xs, .int .i64 xp, .slice ab nb cb] 101) = w2 at *
          generalize w1.heap.size = X at *
          obtain ⟨r0, r1, r2, r3, r4, r5, r6⟩ := Bk.c7 SX2.out.sp.kv
          obtain ⟨f0, f1, f2, f3, f4, f5, f6⟩ := SX2.out.sp.kv.f7
          obtain ⟨a0, a1, a2, a3, a4, a5, a6⟩ := Bk.c7 SX2.out.sp.ka
          obtain ⟨g0, g1, g2, g3, g4, g5, g6⟩ := SX2.out.sp.ka.f7
          obtain ⟨y0, y1⟩ := Bk.c2 SX2.out.sp.ks
          obtain ⟨e0, e1, e2, e3⟩ := Bk.c4 SX2.out.kx
          have zl : X < w2.heap.size := SX2.out.kx.lt
          go_wp2_with fail
          refine (CA _).mono ?_
          rintro e w3 ⟨rfl, hww3⟩
          have SX3 : Hid (SX w w3 #[.int .i64 va, .int .i64 vi, .int .i64 vl, .int .i64 vp, .int .i64 vs, .int .i64 vt, .int .i64 vo] b d X va xs xp (.slice ab nb cb)) := SX2.out.keep hww3
          clear hww3 SX2
          clear r0 r1 r2 r3 r4 r5 r6 f0 f1 f2 f3 f4 f5 f6 a0 a1 a2 a3 a4 a5 a6 g0 g1 g2 g3 g4 g5 g6 e0 e1 e2 e3 y0 y1 zl
          obtain ⟨r0, r1, r2, r3, r4, r5, r6⟩ := Bk.c7 SX3.out.sp.kv
          obtain ⟨f0, f1, f2, f3, f4, f5, f6⟩ := SX3.out.sp.kv.f7
          obtain ⟨a0, a1, a2, a3, a4, a5, a6⟩ := Bk.c7 SX3.out.sp.ka
          obtain ⟨g0, g1, g2, g3, g4, g5, g6⟩ := SX3.out.sp.ka.f7
          obtain ⟨y0, y1⟩ := Bk.c2 SX3.out.sp.ks
          obtain ⟨e0, e1, e2, e3⟩ := Bk.c4 SX3.out.kx
          have zl : X < w3.heap.size := SX3.out.kx.lt
          go_wp2_with fail
          obtain ⟨KA, KB⟩ := SX.ends (vs := [.int .i64 xs, .int .i64 vi, .int .i64 vl, .int .i64 vp, .int .i64 (vs + 1), .int .i64 vt, .int .i64 vo]) ((SX3.out.set 0 (.int .i64 xs)).set 4 (.int .i64 (vs + 1)))
          refine bodyPost_ret (results_cell_row Try.results67 _ _ (w.heap.size + 2) _ _ _ _ rfl KA Try.underlying32 rfl (by kernel_rfl)) rfl ⟨?_, ?_⟩
          · rw [HV.out]; rfl
          · exact KB
    · rw [h2] at CA
      have HV : Hid (A = #[.int .i64 va, .int .i64 vi, .int .i64 vl, .int .i64 vp, .int .i64 vs, .int .i64 1, .int .i64 (peerI ps va).succ]) := by rw [← HA.out]; unfold stp; rw [if_neg h1, if_pos h2]; rfl
      clear h1 h2 CB
      generalize (peerI ps va).succ = xs at *
      generalize (peerI ps va).point = xp at *
      go_enter Try.func67, Try.ntmps67
      go_wp2_with fail
      refine (CP _ SP0.out.bel).mono ?_
      rintro e w1 ⟨rfl, hw1⟩
      have SP1 : Hid (SP w w1 #[.int .i64 va, .int .i64 vi, .int .i64 vl, .int .i64 vp, .int .i64 vs, .int .i64 vt, .int .i64 vo] b d) := SP0.out.keep hw1
      clear hw1 SP0 CP
      go_upto_region 5 with (fail)
      have SX2 : Hid (SX w (w1.alloc (.cells #[.int .i64 va, .int .i64 xs, .int .i64 xp, .slice ab nb cb] 101)) #[.int .i64 va, .int .i64 vi, .int .i64 vl, .int .i64 vp, .int .i64 vs, .int .i64 vt, .int .i64 vo] b d w1.heap.size va xs xp (.slice ab nb cb)) := ⟨SP1.out.keep (belA _ _), Bk.new _ _ _, SP1.out.ks.lt⟩
      have hX := SX2.out.hX
      clear SP1
      generalize w1.alloc (.cells #[.int .i64 va, .int .i64 xs, .int .i64 xp, .slice ab nb cb] 101) = w2 at *
      generalize w1.heap.size = X at *
      obtain ⟨r0, r1, r2, r3, r4, r5, r6⟩ := Bk.c7 SX2.out.sp.kv
      obtain ⟨f0, f1, f2, f3, f4, f5, f6⟩ := SX2.out.sp.kv.f7
      obtain ⟨a0, a1, a2, a3, a4, a5, a6⟩ := Bk.c7 SX2.out.sp.ka
      obtain ⟨g0, g1, g2, g3, g4, g5, g6⟩ := SX2.out.sp.ka.f7
      obtain ⟨y0, y1⟩ := Bk.c2 SX2.out.sp.ks
      obtain ⟨e0, e1, e2, e3⟩ := Bk.c4 SX2.out.kx
      have zl : X < w2.heap.size := SX2.out.kx.lt
      go_wp2_with fail
      refine (CA _).mono ?_
      rintro e w3 ⟨rfl, hww3⟩
      have SX3 : Hid (SX w w3 #[.int .i64 va, .int .i64 vi, .int .i64 vl, .int .i64 vp, .int .i64 vs, .int .i64 vt, .int .i64 vo] b d X va xs xp (.slice ab nb cb)) := SX2.out.keep hww3
      clear hww3 SX2
      clear r0 r1 r2 r3 r4 r5 r6 f0 f1 f2 f3 f4 f5 f6 a0 a1 a2 a3 a4 a5 a6 g0 g1 g2 g3 g4 g5 g6 e0 e1 e2 e3 y0 y1 zl
      obtain ⟨r0, r1, r2, r3, r4, r5, r6⟩ := Bk.c7 SX3.out.sp.kv
      obtain ⟨f0, f1, f2, f3, f4, f5, f6⟩ := SX3.out.sp.kv.f7
      obtain ⟨a0, a1, a2, a3, a4, a5, a6⟩ := Bk.c7 SX3.out.sp.ka
      obtain ⟨g0, g1, g2, g3, g4, g5, g6⟩ := SX3.out.sp.ka.f7
      obtain ⟨y0, y1⟩ := Bk.c2 SX3.out.sp.ks
      obtain ⟨e0, e1, e2, e3⟩ := Bk.c4 SX3.out.kx
      have zl : X < w3.heap.size := SX3.out.kx.lt
      go_wp2_with fail
      obtain ⟨KA, KB⟩ := SX.ends (vs := [.int .i64 va, .int .i64 vi, .int .i64 vl, .int .i64 vp, .int .i64 vs, .int .i64 1, .int .i64 xs]) ((SX3.out.set 5 (.int .i64 1)).set 6 (.int .i64 xs))
      refine bodyPost_ret (results_cell_row Try.results67 _ _ (w.heap.size + 2) _ _ _ _ rfl KA Try.underlying32 rfl (by kernel_rfl)) rfl ⟨?_, ?_⟩
      · rw [HV.out]; rfl
      · exact KB
end Go.Proofs.Ytejajlloipkkhaa
