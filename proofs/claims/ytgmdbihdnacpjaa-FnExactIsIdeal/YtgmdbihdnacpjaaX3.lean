/- The program's sameness of peers, and IsIdeal. -/
import Derived.Test.YtgmdbihdnacpjaaX2
import Derived.Test.YtgmdbihdnacpjaaQ6
namespace Go.Proofs.Ytgmdbihdnacpjaa
open Go.RowKit
set_option linter.unusedVariables false
set_option maxHeartbeats 800000 in
theorem equal_any (a a' : Option Addr) (cap cap' : Nat) (xs ys : List Int) (w : World) (hm : xs.length ≤ maxLen) (hx : RowAt w a xs) (hy : RowAt w a' ys) :
    Calls Try.prog 110 #[.slice a xs.length cap, .slice a' ys.length cap'] w fun e w' => e = .returned (.bool (sameB xs ys)) ∧ Below w.heap.size w w' := by
  unfold maxLen at hm
  have HX : Hid (RowAt w a xs) := hx
  have HY : Hid (RowAt w a' ys) := hy
  clear hx hy
  by_cases hl : xs.length = ys.length
  · have HL : Hid (xs.length = ys.length) := hl
    have hle : ((xs.length : Int) != (ys.length : Int)) = false := by simp [hl]
    clear hl
    go_enter Try.func110, Try.ntmps110
    go_wp2_with fail
    go_loopw [13] (fun vi wr => ∃ k : Nat, k ≤ xs.length ∧ vi = .int .i64 k ∧ xs.take k = ys.take k ∧ ∃ n, wr = w.drewN n) (fun vi _ => xs.length - (intOf vi).toNat)
    case atStart => exact ⟨0, Nat.zero_le _, rfl, rfl, 0, rfl⟩
    case round =>
      obtain ⟨k, hk, rfl, hs, n, rfl⟩ := hrel
      have HS : Hid (xs.take k = ys.take k) := hs
      clear hs
      by_cases hlt : k < xs.length
      · have hlt2 : k < ys.length := by have := HL.out; omega
        obtain ⟨bk, off, rfl⟩ := rowAt_form HX.out (by omega)
        obtain ⟨bk2, off2, rfl⟩ := rowAt_form HY.out (by omega)
        have hc1 := (rowAt_cell HX.out (by omega)).2 k hlt
        have hc2 := (rowAt_cell HY.out (by omega)).2 k hlt2
        by_cases he : xs.getD k 0 = ys.getD k 0
        · have ht : Hid (xs.take (k + 1) = ys.take (k + 1)) := same_take hlt hlt2 HS.out he
          have he' : (xs.getD k 0 != ys.getD k 0) = false := by rw [he]; simp
          generalize xs.getD k 0 = x at hc1 he'
          generalize ys.getD k 0 = y at hc2 he'
          clear he
          go_wp2
          go_quiet (fail)
          go_wp2
          go_roundw
          case rel => exact ⟨k + 1, by omega, by go_num, ht.out, _, rfl⟩
          case measure => simp [intOf]; omega
        · have hv : Hid (sameB xs ys = false) := sameB_no he
          have he' : (xs.getD k 0 != ys.getD k 0) = true := by simpa using he
          generalize xs.getD k 0 = x at hc1 he'
          generalize ys.getD k 0 = y at hc2 he'
          clear he
          go_wp2
          go_quiet (fail)
          go_wp2
          go_ret
          exact ⟨ret_bool hv.out.symm, by first | exact below_drewN (below_drewN (Below.refl _ _) _) _ | exact below_drewN (Below.refl _ _) _⟩
      · have hv : Hid (sameB xs ys = true) := sameB_yes HL.out hlt HS.out
        go_wp2
        go_ret
        exact ⟨ret_bool hv.out.symm, below_drewN (Below.refl _ _) _⟩
  · have hv : sameB xs ys = false := decide_eq_false (fun h => hl (by rw [h]))
    rw [hv]
    have hle : ((xs.length : Int) != (ys.length : Int)) = true := by simp; omega
    clear hl hv
    go_enter Try.func110, Try.ntmps110
    go_wp2
    go_ret
    exact ⟨rfl, Below.refl _ _⟩

set_option maxHeartbeats 3200000 in
theorem samePeer_any (q1 o1 q2 o2 : Nat) (p q : Pr) (w : World) (hq1 : q1 < w.heap.size) (hq2 : q2 < w.heap.size) (hp : PeerAt w q1 o1 p) (hq : PeerAt w q2 o2 q) :
    Calls Try.prog 88 #[.pointer (some ⟨q1, o1, none⟩), .pointer (some ⟨q2, o2, none⟩)] w fun e w' => e = .returned (.bool (smP p q)) ∧ Below w.heap.size w w' := by
  obtain ⟨c0, c1, c2, ab, cb, c3, hra, hma, _⟩ := hp
  obtain ⟨d0', d1, d2, ab2, cb2, d3, hrb, hmb, _⟩ := hq
  obtain ⟨x0, x1, x2, xs⟩ := p
  obtain ⟨y0, y1, y2, ys⟩ := q
  have z0 : ∀ k : Kin w.heap.size w, k.v.cell? ⟨q1, o1, none⟩ = some (.int .i64 x0) := kin_cell hq1 c0
  have z1 : ∀ k : Kin w.heap.size w, k.v.cell? ⟨q1, o1 + 1, none⟩ = some (.int .i64 x1) := kin_cell hq1 c1
  have z2 : ∀ k : Kin w.heap.size w, k.v.cell? ⟨q1, o1 + 2, none⟩ = some (.int .i64 x2) := kin_cell hq1 c2
  have z3 : ∀ k : Kin w.heap.size w, k.v.cell? ⟨q1, o1 + 3, none⟩ = some (.slice ab xs.length cb) := kin_cell hq1 c3
  have u0 : ∀ k : Kin w.heap.size w, k.v.cell? ⟨q2, o2, none⟩ = some (.int .i64 y0) := kin_cell hq2 d0'
  have u1 : ∀ k : Kin w.heap.size w, k.v.cell? ⟨q2, o2 + 1, none⟩ = some (.int .i64 y1) := kin_cell hq2 d1
  have u2 : ∀ k : Kin w.heap.size w, k.v.cell? ⟨q2, o2 + 2, none⟩ = some (.int .i64 y2) := kin_cell hq2 d2
  have u3 : ∀ k : Kin w.heap.size w, k.v.cell? ⟨q2, o2 + 3, none⟩ = some (.slice ab2 ys.length cb2) := kin_cell hq2 d3
  have CE : ∀ w1, Below w.heap.size w w1 → Calls Try.prog 110 #[.slice ab xs.length cb, .slice ab2 ys.length cb2] w1 fun e w' => e = .returned (.bool (sameB xs ys)) ∧ Below w1.heap.size w1 w' := fun w1 h => equal_any ab ab2 cb cb2 xs ys w1 hma (hra.keep h) (hrb.keep h)
  have hv : smP ⟨x0, x1, x2, xs⟩ ⟨y0, y1, y2, ys⟩ = (decide (x0 = y0 ∧ x1 = y1 ∧ x2 = y2) && sameB xs ys) := rfl
  rw [hv]
  clear hv c0 c1 c2 c3 hra hma d0' d1 d2 d3 hrb hmb
  generalize sameB xs ys = sx at *
  by_cases h0 : x0 = y0
  ·
    have e0 : (x0 == y0) = true := beq_iff_eq.2 h0
    by_cases h1 : x1 = y1
    ·
      have e1 : (x1 == y1) = true := beq_iff_eq.2 h1
      by_cases h2 : x2 = y2
      ·
        have e2 : (x2 == y2) = true := beq_iff_eq.2 h2
        have hd : decide (x0 = y0 ∧ x1 = y1 ∧ x2 = y2) = true := decide_eq_true ⟨h0, h1, h2⟩
        rw [hd]
        clear hd h0 h1 h2
        go_enter Try.func88, Try.ntmps88
        go_wp2
        refine region_kin w.heap.size (by kernel_rfl) (by kernel_rfl) (fun hne => ?_)
        repeat (go_big_quiet_step ((go_at_call 110; exact kin_of (Nat.le_refl _) (CE _ (Kin.bel _)))))
        refine wpQuiet_nil ?_
        intro w5 hw'
        obtain ⟨⟨w6, hw5⟩, hw''⟩ := hw'
        obtain rfl : w5 = w6 := hw''
        clear z0 z1 z2 z3 u0 u1 u2 u3 hne
        go_wp2
        go_ret
        exact ⟨ret_bool (by simp), hw5⟩
      ·
        have e2 : (x2 == y2) = false := by simp only [beq_eq_false_iff_ne, ne_eq]; exact h2
        have hd : decide (x0 = y0 ∧ x1 = y1 ∧ x2 = y2) = false := decide_eq_false (fun hh => h2 hh.2.2)
        rw [hd]
        clear hd h0 h1 h2
        go_enter Try.func88, Try.ntmps88
        go_wp2
        refine region_kin w.heap.size (by kernel_rfl) (by kernel_rfl) (fun hne => ?_)
        repeat (go_big_quiet_step ((go_at_call 110; exact kin_of (Nat.le_refl _) (CE _ (Kin.bel _)))))
        refine wpQuiet_nil ?_
        intro w5 hw'
        obtain ⟨⟨w6, hw5⟩, hw''⟩ := hw'
        obtain rfl : w5 = w6 := hw''
        clear z0 z1 z2 z3 u0 u1 u2 u3 hne
        go_wp2
        go_ret
        exact ⟨ret_bool (by simp), hw5⟩
    ·
      have e1 : (x1 == y1) = false := by simp only [beq_eq_false_iff_ne, ne_eq]; exact h1
      have hd : decide (x0 = y0 ∧ x1 = y1 ∧ x2 = y2) = false := decide_eq_false (fun hh => h1 hh.2.1)
      rw [hd]
      clear hd h0 h1
      go_enter Try.func88, Try.ntmps88
      go_wp2
      refine region_kin w.heap.size (by kernel_rfl) (by kernel_rfl) (fun hne => ?_)
      repeat (go_big_quiet_step ((go_at_call 110; exact kin_of (Nat.le_refl _) (CE _ (Kin.bel _)))))
      refine wpQuiet_nil ?_
      intro w5 hw'
      obtain ⟨⟨w6, hw5⟩, hw''⟩ := hw'
      obtain rfl : w5 = w6 := hw''
      clear z0 z1 z2 z3 u0 u1 u2 u3 hne
      go_wp2
      go_ret
      exact ⟨ret_bool (by simp), hw5⟩
  ·
    have e0 : (x0 == y0) = false := by simp only [beq_eq_false_iff_ne, ne_eq]; exact h0
    have hd : decide (x0 = y0 ∧ x1 = y1 ∧ x2 = y2) = false := decide_eq_false (fun hh => h0 hh.1)
    rw [hd]
    clear hd h0
    go_enter Try.func88, Try.ntmps88
    go_wp2
    refine region_kin w.heap.size (by kernel_rfl) (by kernel_rfl) (fun hne => ?_)
    repeat (go_big_quiet_step ((go_at_call 110; exact kin_of (Nat.le_refl _) (CE _ (Kin.bel _)))))
    refine wpQuiet_nil ?_
    intro w5 hw'
    obtain ⟨⟨w6, hw5⟩, hw''⟩ := hw'
    obtain rfl : w5 = w6 := hw''
    clear z0 z1 z2 z3 u0 u1 u2 u3 hne
    go_wp2
    go_ret
    exact ⟨ret_bool (by simp), hw5⟩

/-- the box of peers that came in, and another box of peers at X -/
structure IX (w wr : World) (b d : Int) (bk off n cap : Nat) (v : Value) (X : Nat) : Prop where
  st : ISt w wr b d bk off n cap v
  lo : w.heap.size < X
  x : wr.heap[X]? = some (.cells #[.int .i64 0, .int .i64 0, .slice none 0 0] 28 (0, 0))
theorem IX.hi {w wr : World} {b d : Int} {bk off n cap X : Nat} {v : Value} (h : IX w wr b d bk off n cap v X) : X < wr.heap.size := (Array.getElem?_eq_some_iff.1 h.x).1
theorem IX.keep {w wr w1 : World} {b d : Int} {bk off n cap X : Nat} {v : Value} (h : IX w wr b d bk off n cap v X) (hb : Below wr.heap.size wr w1) : IX w w1 b d bk off n cap v X :=
  ⟨h.st.keep hb, h.lo, (hb.block X h.hi).trans h.x⟩
theorem ix_new {w wr : World} {b d : Int} {bk off n cap : Nat} {v : Value} (h : ISt w wr b d bk off n cap v) : IX w (wr.alloc (.cells #[.int .i64 0, .int .i64 0, .slice none 0 0] 28)) b d bk off n cap v wr.heap.size :=
  ⟨h.keep (belA _ _), h.bx.lt, heap_alloc_new _ _⟩
theorem IX.cells {w wr : World} {b d : Int} {bk off n cap X : Nat} {v : Value} (h : IX w wr b d bk off n cap v X) : wr.cell? ⟨X, 0, none⟩ = some (.int .i64 0) ∧ wr.cell? ⟨X, 1, none⟩ = some (.int .i64 0) ∧ wr.cell? ⟨X, 2, none⟩ = some (.slice none 0 0) ∧
    wr.frozen? ⟨X, 0, none⟩ = false ∧ wr.frozen? ⟨X, 1, none⟩ = false ∧ wr.frozen? ⟨X, 2, none⟩ = false :=
  ⟨(cell_of_row wr _ _ _ _ _ h.x).trans rfl, (cell_of_row wr _ _ _ _ _ h.x).trans rfl, (cell_of_row wr _ _ _ _ _ h.x).trans rfl, frozen_of_row wr _ _ _ _ h.x, frozen_of_row wr _ _ _ _ h.x, frozen_of_row wr _ _ _ _ h.x⟩
theorem IX.qq3 {w wr : World} {b d : Int} {bk off n cap X : Nat} {v : Value} (h : IX w wr b d bk off n cap v X) (hbk : bk < w.heap.size) (v0 v1 v2 : Value) :
    (((wr.setCell ⟨X, 0, none⟩ v0).setCell ⟨X, 1, none⟩ v1).setCell ⟨X, 2, none⟩ v2).cell? ⟨w.heap.size, 0, none⟩ = some (.int .i64 b) ∧ (((wr.setCell ⟨X, 0, none⟩ v0).setCell ⟨X, 1, none⟩ v1).setCell ⟨X, 2, none⟩ v2).cell? ⟨w.heap.size, 1, none⟩ = some (.int .i64 d) ∧
    (((wr.setCell ⟨X, 0, none⟩ v0).setCell ⟨X, 1, none⟩ v1).setCell ⟨X, 2, none⟩ v2).cell? ⟨w.heap.size, 2, none⟩ = some (.slice (some ⟨bk, off, none⟩) n cap) ∧ (((wr.setCell ⟨X, 0, none⟩ v0).setCell ⟨X, 1, none⟩ v1).setCell ⟨X, 2, none⟩ v2).cell? ⟨bk, off + 3, none⟩ = some v := by
  have hlo := h.lo
  have hn1 : ¬ w.heap.size = X := by omega
  have hn2 : ¬ bk = X := by omega
  obtain ⟨k0, k1, k2, k3⟩ := h.st.qq
  refine ⟨(World.cell?_of_block (a := ⟨w.heap.size, 0, none⟩) (set3_block (x := v0) (y := v1) (v := v2) hn1)).trans k0, (World.cell?_of_block (a := ⟨w.heap.size, 1, none⟩) (set3_block (x := v0) (y := v1) (v := v2) hn1)).trans k1, (World.cell?_of_block (a := ⟨w.heap.size, 2, none⟩) (set3_block (x := v0) (y := v1) (v := v2) hn1)).trans k2, (World.cell?_of_block (a := ⟨bk, off + 3, none⟩) (set3_block (x := v0) (y := v1) (v := v2) hn2)).trans k3⟩
/-- both boxes, and what the second one reads as -/
structure IY (w wr : World) (b d : Int) (a : Option Addr) (n cap X g : Nat) (qs : List Pr) : Prop where
  bx : BxP w wr b d (.slice a n cap)
  hi : X < wr.heap.size
  x : wr.cell? ⟨X, 2, none⟩ = some (.slice (some ⟨g, 0, none⟩) n n)
  pp : PeersAt wr (some ⟨g, 0, none⟩) qs
theorem IY.keep {w wr w1 : World} {b d : Int} {a : Option Addr} {n cap X g : Nat} {qs : List Pr} (h : IY w wr b d a n cap X g qs) (hb : Below wr.heap.size wr w1) : IY w w1 b d a n cap X g qs :=
  ⟨h.bx.keep hb, Nat.lt_of_lt_of_le h.hi hb.size, (hb.cell (p := ⟨X, 2, none⟩) h.hi).trans h.x, h.pp.keep hb⟩
theorem iy_new {w wr : World} {b d : Int} {bk off n cap g : Nat} {v : Value} {qs : List Pr} (h : ISt w wr b d bk off n cap v) (hp : PeersAt wr (some ⟨g, 0, none⟩) qs) :
    IY w (wr.alloc (.cells #[.int .i64 b, .int .i64 d, .slice (some ⟨g, 0, none⟩) n n] 28)) b d (some ⟨bk, off, none⟩) n cap wr.heap.size g qs :=
  ⟨(h.keep (belA _ _)).bx, by simp, by rw [cell_of_row _ _ _ _ _ _ (heap_alloc_new _ _)]; rfl, hp.keep (belA _ _)⟩
theorem iy_set {w wr : World} {b d : Int} {bk off n cap X g : Nat} {v : Value} {qs : List Pr} {L : List (Pr × Value)} {B T : Nat} (h : IX w wr b d bk off n cap v X) (hp : OwnP B T wr g L) (hB : X < B) (hL : L.map (·.1) = qs) :
    IY w (set3 wr X (.int .i64 b) (.int .i64 d) (.slice (some ⟨g, 0, none⟩) n n)) b d (some ⟨bk, off, none⟩) n cap X g qs := by
  have hlo := h.lo
  have hb := h.st.bx
  have hne : ¬ w.heap.size = X := by omega
  have ck : ∀ i, (set3 wr X (.int .i64 b) (.int .i64 d) (.slice (some ⟨g, 0, none⟩) n n)).cell? ⟨w.heap.size, i, none⟩ = wr.cell? ⟨w.heap.size, i, none⟩ := fun i => World.cell?_of_block (a := ⟨w.heap.size, i, none⟩) (set3_block hne)
  refine ⟨⟨set3_below hb.bel (by omega), by rw [set3_size]; exact hb.lt, (ck 0).trans hb.c0, (ck 1).trans hb.c1, (ck 2).trans hb.c2⟩, by rw [set3_size]; exact h.hi, by rw [cell_of_row _ _ _ _ _ _ (set3_row h.x)]; rfl, ?_⟩
  have := (hp.blocks (w1 := set3 wr X (.int .i64 b) (.int .i64 d) (.slice (some ⟨g, 0, none⟩) n n)) (fun k hk _ _ => set3_block (by omega))).peersAt
  rwa [hL] at this

theorem idlOk_good {b d : Int} {ps : List Pr} (R : ringB b d (idsP ps) = true) {n : Nat} (hn : n ≤ 3) : idlOk b d (idsP ps) (n : Int) = true := by
  unfold idlOk inB
  rw [R]
  simp
  omega
theorem goodP_ring {b d : Int} {ps : List Pr} (h : goodP b d ps = true) : ringB b d (idsP ps) = true := by
  unfold goodP at h
  rw [Bool.and_eq_true] at h
  exact h.1
/-- what the program's IdealPeers answers where it is asked well -/
theorem IdealPeers_ok (b d : Int) (n : Nat) (a : Option Addr) (cap : Nat) (zs : List Int) (w : World) (hm : zs.length ≤ maxLen) (hr : RowAt w a zs) (hok : idlOk b d zs (n : Int) = true) :
    Calls Try.prog 28 #[.agg #[.int .i64 b, .int .i64 d], .slice a zs.length cap, .int .i64 (n : Int)] w fun e w' => ∃ g L, e = .returned (.tuple #[.agg #[.int .i64 b, .int .i64 d, .slice (some ⟨g, 0, none⟩) zs.length zs.length], .bool true]) ∧ L.map (·.1) = idealL b d zs n ∧ OwnP w.heap.size w'.heap.size w' g L ∧ Below w.heap.size w w' := by
  refine (IdealPeers_any b d n a cap zs w hm hr).mono ?_
  rintro e w1 ⟨v, rfl, hw1, ⟨hc, _⟩ | ⟨_, g, L, rfl, hL, ow⟩⟩
  · rw [hok] at hc; cases hc
  · exact ⟨g, L, rfl, hL, ow, hw1⟩
end Go.Proofs.Ytgmdbihdnacpjaa
