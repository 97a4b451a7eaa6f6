/- The program's good peers. -/
import Derived.Test.YtejajlloipkkhaaV9
namespace Go.Proofs.Ytejajlloipkkhaa
open Go.RowKit
set_option linter.unusedVariables false

set_option maxHeartbeats 1600000 in
theorem idsOf_any (q : Nat) (a : Option Addr) (cap : Nat) (ps : List Pr) (w : World) (hm : ps.length ≤ 1048576) (hq : q < w.heap.size) (c2 : w.cell? ⟨q, 2, none⟩ = some (.slice a ps.length cap)) (hr : PeersAt w a ps) :
    Calls Try.prog 57 #[.pointer (some ⟨q, 0, none⟩)] w fun e w' => e = .returned (.slice (some ⟨w.heap.size, 0, none⟩) ps.length ps.length) ∧ OwnZ w w' w.heap.size (idsP ps) := by
  have hmk := make_ints ps.length hm
  have hil := idsP_len ps
  have HR : Hid (PeersAt w a ps) := hr
  clear hr
  have hc20 : (w.alloc (.cells (zv (List.replicate ps.length 0)) 3)).cell? ⟨q, 2, none⟩ = some (.slice a ps.length cap) := (cell_alloc_old' _ hq trivial).trans c2
  go_enter Try.func57, Try.ntmps57
  go_wp2_with fail
  clear hmk
  have st0 : OwnZ w (w.alloc (.cells (zv (List.replicate ps.length 0)) 3)) w.heap.size (cop (idsP ps) 0) :=
    ⟨(Below.refl _ _).alloc (Nat.le_refl _) _, Nat.le_refl _, by rw [cop_none, hil]; exact heap_alloc_new _ _⟩
  go_loopw [16] (fun vi wr => ∃ k : Nat, k ≤ ps.length ∧ vi = .int .i64 k ∧ OwnZ w wr w.heap.size (cop (idsP ps) k)) (fun vi _ => ps.length - (intOf vi).toNat)
  case atStart => exact ⟨0, Nat.zero_le _, rfl, st0⟩
  case round =>
    obtain ⟨k, hk, rfl, st⟩ := hrel
    clear st0 hc20
    have hc2 : wr.cell? ⟨q, 2, none⟩ = some (.slice a ps.length cap) := (st.bel.cell (p := ⟨q, 2, none⟩) hq).trans c2
    by_cases hlt : k < ps.length
    · obtain ⟨bk, off, rfl⟩ := peersAt_form HR.out (by omega)
      obtain ⟨c0, _, _, _⟩ := (peersAt_cell (HR.out.keep st.bel) (by omega)).2 k hlt
      obtain ⟨r0, r1⟩ := st.at k (by rw [cop_len (by omega)]; omega)
      have st2 := st.put k ((idsP ps).getD k 0)
      rw [cop_set (by omega)] at st2
      rw [← idsP_get] at c0
      clear st
      generalize (idsP ps).getD k 0 = x0 at c0 st2
      generalize (cop (idsP ps) k).getD k 0 = y at r0
      go_wp2
      go_roundw
      case rel => exact ⟨k + 1, by omega, by go_num, st2⟩
      case measure => simp [intOf]; omega
    · have hkl : k = (idsP ps).length := by omega
      rw [hkl, cop_all] at st
      go_wp2
      go_ret
      exact ⟨rfl, st⟩

def bokB (zs bs : List Int) : Bool := decide (bs.length ≤ 3) && decide (∀ i, i < bs.length → memI zs (bs.getD i 0) = true)
theorem bokB_yes {zs bs : List Int} (h3 : bs.length ≤ 3) (h : ∀ i, i < bs.length → memI zs (bs.getD i 0) = true) : bokB zs bs = true := by
  unfold bokB; rw [decide_eq_true h3, decide_eq_true h]; rfl
theorem bokB_no {zs bs : List Int} {k : Nat} (hk : k < bs.length) (h : memI zs (bs.getD k 0) = false) : bokB zs bs = false := by
  unfold bokB
  rw [decide_eq_false (p := ∀ i, i < bs.length → memI zs (bs.getD i 0) = true) (fun g => by rw [g k hk] at h; cases h), Bool.and_false]
set_option maxHeartbeats 1600000 in
theorem areBacks_any (a ab : Option Addr) (cap cb : Nat) (zs bs : List Int) (w : World) (hm : zs.length ≤ maxLen) (hmb : bs.length ≤ maxLen) (hr : RowAt w a zs) (hrb : RowAt w ab bs) :
    Calls Try.prog 121 #[.slice a zs.length cap, .slice ab bs.length cb] w fun e w' => e = .returned (.bool (bokB zs bs)) ∧ w' = w := by
  have HR : Hid (RowAt w a zs) := hr
  have HRB : Hid (RowAt w ab bs) := hrb
  have HM : Hid (zs.length ≤ maxLen) := hm
  clear hr hrb hm
  unfold maxLen at hmb
  by_cases h3 : bs.length ≤ 3
  · go_enter Try.func121, Try.ntmps121
    go_wp2_with fail
    go_loop [12] (fun v => ∃ j : Nat, j ≤ bs.length ∧ v = .int .i64 j ∧ Hid (∀ i, i < j → memI zs (bs.getD i 0) = true)) (fun v => bs.length - (intOf v).toNat)
    case atStart => exact ⟨0, Nat.zero_le _, rfl, fun i hi => by omega⟩
    case round =>
      obtain ⟨j, hj, rfl, HT⟩ := hrel
      by_cases hjl : j < bs.length
      · obtain ⟨bb, ob, rfl⟩ := rowAt_form HRB.out (by omega)
        have hcb := (rowAt_cell HRB.out (by omega)).2 j hjl
        have CB := isMember_any a cap zs (bs.getD j 0) w HM.out HR.out
        cases h5 : memI zs (bs.getD j 0)
        · rw [h5] at CB
          have hv : Hid (bokB zs bs = false) := bokB_no hjl h5
          clear h5
          generalize bs.getD j 0 = z at hcb CB
          go_wp2_with fail
          refine CB.mono ?_
          rintro e w7 ⟨rfl, hw7⟩
          subst hw7
          go_wp2
          go_ret
          exact ⟨ret_bool hv.out.symm, rfl⟩
        · rw [h5] at CB
          have HT2 : Hid (∀ i, i < j + 1 → memI zs (bs.getD i 0) = true) := fun i hi => by
            by_cases he : i = j
            · subst he; exact h5
            · exact HT.out i (by omega)
          clear h5
          generalize bs.getD j 0 = z at hcb CB
          go_wp2_with fail
          refine CB.mono ?_
          rintro e w7 ⟨rfl, hw7⟩
          subst hw7
          go_wp2
          go_round
          case rel => exact ⟨j + 1, by omega, by go_num, HT2⟩
          case measure => simp [intOf]; omega
      · have hv : Hid (bokB zs bs = true) := bokB_yes h3 (fun i hi => HT.out i (by omega))
        go_wp2
        go_ret
        exact ⟨ret_bool hv.out.symm, rfl⟩
  · have hv : bokB zs bs = false := by unfold bokB; rw [decide_eq_false h3]; rfl
    rw [hv]
    go_enter Try.func121, Try.ntmps121
    go_wp2
    go_ret
    exact ⟨rfl, rfl⟩

def prI (zs : List Int) (p : Pr) : Bool := decide (p.succ = nxtI zs p.id) && memI zs p.point && bokB zs p.backs
theorem prI_eq {b d : Int} {zs : List Int} (R : Ring b d zs) (p : Pr) : prI zs p = prB zs p := by
  unfold prI prB bokB
  rw [mem_has R, Bool.and_assoc, Bool.and_assoc, Bool.and_assoc]
  have e : decide (∀ i, i < p.backs.length → memI zs (p.backs.getD i 0) = true) = decide (∀ i, i < p.backs.length → hasB zs (p.backs.getD i 0) = true) := by
    congr 1
    simp only [mem_has R]
  rw [e]

set_option maxHeartbeats 3200000 in
theorem isPeer_any (a : Option Addr) (cap : Nat) (zs : List Int) (q o : Nat) (p : Pr) (w : World) (l1 : 1 ≤ zs.length) (l2 : zs.length ≤ 16) (hr : RowAt w a zs) (hq : q < w.heap.size) (hp : PeerAt w q o p) :
    Calls Try.prog 95 #[.slice a zs.length cap, .pointer (some ⟨q, o, none⟩)] w fun e w' => e = .returned (.bool (prI zs p)) ∧ Below w.heap.size w w' := by
  obtain ⟨c0, c1, c2, ab, cb, c3, hrb, hmb, _⟩ := hp
  have hmx : zs.length ≤ maxLen := by unfold maxLen; omega
  obtain ⟨x0, x1, x2, bs⟩ := p
  have z0 : ∀ k : Kin w.heap.size w, k.v.cell? ⟨q, o, none⟩ = some (.int .i64 x0) := kin_cell hq c0
  have z1 : ∀ k : Kin w.heap.size w, k.v.cell? ⟨q, o + 1, none⟩ = some (.int .i64 x1) := kin_cell hq c1
  have z2 : ∀ k : Kin w.heap.size w, k.v.cell? ⟨q, o + 2, none⟩ = some (.int .i64 x2) := kin_cell hq c2
  have z3 : ∀ k : Kin w.heap.size w, k.v.cell? ⟨q, o + 3, none⟩ = some (.slice ab bs.length cb) := kin_cell hq c3
  have CN : ∀ w1, Below w.heap.size w w1 → Calls Try.prog 120 #[.slice a zs.length cap, .int .i64 x0] w1 fun e w' => e = .returned (.int .i64 (nxtI zs x0)) ∧ w' = w1 := fun w1 h => nextIn_any a cap zs x0 w1 l1 l2 (hr.keep h)
  have CH : ∀ w1, Below w.heap.size w w1 → Calls Try.prog 107 #[.slice a zs.length cap, .int .i64 x2] w1 fun e w' => e = .returned (.bool (memI zs x2)) ∧ w' = w1 := fun w1 h => isMember_any a cap zs x2 w1 hmx (hr.keep h)
  have CB : ∀ w1, Below w.heap.size w w1 → Calls Try.prog 121 #[.slice a zs.length cap, .slice ab bs.length cb] w1 fun e w' => e = .returned (.bool (bokB zs bs)) ∧ w' = w1 := fun w1 h => areBacks_any a ab cap cb zs bs w1 hmx hmb (hr.keep h) (hrb.keep h)
  have hv : prI zs ⟨x0, x1, x2, bs⟩ = (decide (x1 = nxtI zs x0) && memI zs x2 && bokB zs bs) := rfl
  rw [hv]
  clear hv c0 c1 c2 c3 hrb hmb hr hmx
  generalize nxtI zs x0 = nx at *
  generalize memI zs x2 = mx at *
  generalize bokB zs bs = bx at *
  by_cases h1 : x1 = nx
  · have e1 : (x1 == nx) = true := beq_iff_eq.2 h1
    rw [decide_eq_true h1]
    clear h1
    cases mx
    · go_enter Try.func95, Try.ntmps95
      go_wp2
      refine region_kin w.heap.size (by kernel_rfl) (by kernel_rfl) (fun hne => ?_)
      repeat (go_big_quiet_step (first | (go_at_call 120; exact kin_same (CN _ (Kin.bel _))) | (go_at_call 107; exact kin_same (CH _ (Kin.bel _))) | (go_at_call 121; exact kin_same (CB _ (Kin.bel _)))))
      refine wpQuiet_nil ?_
      intro w5 hw'
      obtain ⟨⟨w6, hw5⟩, hw''⟩ := hw'
      obtain rfl : w5 = w6 := hw''
      clear z0 z1 z2 z3 hne
      go_wp2
      go_ret
      exact ⟨rfl, hw5⟩
    · go_enter Try.func95, Try.ntmps95
      go_wp2
      refine region_kin w.heap.size (by kernel_rfl) (by kernel_rfl) (fun hne => ?_)
      repeat (go_big_quiet_step (first | (go_at_call 120; exact kin_same (CN _ (Kin.bel _))) | (go_at_call 107; exact kin_same (CH _ (Kin.bel _))) | (go_at_call 121; exact kin_same (CB _ (Kin.bel _)))))
      refine wpQuiet_nil ?_
      intro w5 hw'
      obtain ⟨⟨w6, hw5⟩, hw''⟩ := hw'
      obtain rfl : w5 = w6 := hw''
      clear z0 z1 z2 z3 hne
      go_wp2
      go_ret
      exact ⟨ret_bool (by simp), hw5⟩
  · have e1 : (x1 == nx) = false := by simp only [beq_eq_false_iff_ne, ne_eq]; exact h1
    rw [decide_eq_false h1]
    clear h1
    go_enter Try.func95, Try.ntmps95
    go_wp2
    refine region_kin w.heap.size (by kernel_rfl) (by kernel_rfl) (fun hne => ?_)
    repeat (go_big_quiet_step (first | (go_at_call 120; exact kin_same (CN _ (Kin.bel _))) | (go_at_call 107; exact kin_same (CH _ (Kin.bel _))) | (go_at_call 121; exact kin_same (CB _ (Kin.bel _)))))
    refine wpQuiet_nil ?_
    intro w5 hw'
    obtain ⟨⟨w6, hw5⟩, hw''⟩ := hw'
    obtain rfl : w5 = w6 := hw''
    clear z0 z1 z2 z3 hne
    go_wp2
    go_ret
    exact ⟨ret_bool (by simp), hw5⟩
end Go.Proofs.Ytejajlloipkkhaa
