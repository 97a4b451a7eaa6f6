/- What is drawn for ShiftIn and GoodSpace. -/
import Derived.Test.YtbnjloepfmiidaaC3
namespace Go.Proofs.Ytbnjloepfmiidaa
open Go.RowKit
set_option linter.unusedVariables false

set_option maxHeartbeats 1600000 in
theorem drawShift_any (a : Option Addr) (cap : Nat) (zs : List Int) (w : World) (hm : zs.length ≤ 1048576) (hr : RowB w a zs) :
    Calls Try.prog 32 #[.slice a zs.length cap] w fun e w' => ∃ b d x y : Int, e = .returned (.tuple #[.agg #[.int .i64 b, .int .i64 d], .int .i64 x, .int .i64 y]) ∧ Below w.heap.size w w' := by
  have hc0 := cur_new (cap := cap) hr hm ((Below.refl _ _).alloc (Nat.le_refl _) (.cells #[.int .i64 0, .int .i64 0] 25))
  have HC0 : Hid _ := hc0
  clear hc0
  go_enter Try.func32, Try.ntmps32
  go_wp2_with fail
  refine (space_any _ _ _ _ _ _ (by simpa using HC0.out) (by omega)).mono ?_
  rintro e w1 ⟨b, d, rfl, b1, b2, d1, d2, mv1, hc1⟩
  have st0 := (drSt_init (b := b) (d := d) mv1 hc1).keep ((Below.refl _ _).drew)
  have hlo := st0.lo
  go_wp2_with fail
  go_region_held (fun w' => w'.cell? ⟨w1.heap.size, 0, none⟩ = some (.int .i64 b) ∧ w'.cell? ⟨w1.heap.size, 1, none⟩ = some (.int .i64 d)) (first | exact ⟨st0.q0, st0.q1⟩ | exact ⟨sta.q0, sta.q1⟩ | exact ⟨stb.q0, stb.q1⟩ | exact ⟨stc.q0, stc.q1⟩ | exact stc.cells_end _ _) (first | (go_at_call 43; refine (num_any _ _ _ _ _ _ _ _ st0.cur (by omega)).mono ?_; rintro e wa ⟨xa, rfl, xa1, xa2, mva, hca⟩; have sta := st0.step mva hca) | (go_at_call_of 48 (Value.int .i64 9); refine (pick_any _ _ _ _ _ _ _ sta.cur (by omega) (by omega) (by omega)).mono ?_; rintro e wb ⟨xb, rfl, xb1, xb2, mvb, hcb⟩; have stb := sta.step mvb hcb) | (go_at_call_of 48 (Value.int .i64 20); refine (pick_any _ _ _ _ _ _ _ stb.cur (by omega) (by omega) (by omega)).mono ?_; rintro e wc ⟨xc, rfl, xc1, xc2, mvc, hcc⟩; have stc := stb.step mvc hcc; obtain ⟨r0, r1, r2, r3⟩ := stc.res))
  go_wp2
  have e0 := (cell_of_row _ _ 0 _ _ _ (stc.res_end (.int .i64 b) (.int .i64 d))).trans rfl
  have e1 := (cell_of_row _ _ 1 _ _ _ (stc.res_end (.int .i64 b) (.int .i64 d))).trans rfl
  exact bodyPost_ret (by simp [results, Try.results32, go_sem, e0, e1]; rfl) rfl ⟨b, d, xa, _, rfl, stc.bel_end _ _⟩

set_option maxHeartbeats 1600000 in
theorem drawGood_any (a : Option Addr) (cap : Nat) (zs : List Int) (w : World) (hm : zs.length ≤ 1048576) (hr : RowB w a zs) :
    Calls Try.prog 36 #[.slice a zs.length cap] w fun e w' => ∃ b d : Int, e = .returned (.agg #[.int .i64 b, .int .i64 d]) ∧ Below w.heap.size w w' := by
  have hc0 := cur_new (cap := cap) hr hm ((Below.refl _ _).alloc (Nat.le_refl _) (.cells #[.int .i64 0, .int .i64 0] 25))
  have HC0 : Hid _ := hc0
  clear hc0
  have gb0 : Below w.heap.size w ((w.alloc (.cells #[.int .i64 0, .int .i64 0] 25)).alloc (.cells #[.slice a zs.length cap, .int .i64 0, .int .u64 0] 56)) := ((Below.refl _ _).alloc (Nat.le_refl _) _).alloc (by simp) _
  go_enter Try.func36, Try.ntmps36
  go_wp2_with fail
  refine (pick_any _ _ (w.heap.size + 1) _ _ _ _ (by simpa using HC0.out) (by omega) (by omega) (by omega)).mono ?_
  rintro e w1 ⟨x1, rfl, p1, p2, mv1, hc1⟩
  go_wp2_with fail
  refine (pick_any _ _ _ _ _ _ _ hc1 (by omega) (by omega) (by omega)).mono ?_
  rintro e w2 ⟨x2, rfl, p3, p4, mv2, hc2⟩
  have hR : w2.heap[w.heap.size]? = some (.cells #[.int .i64 0, .int .i64 0] 25 (0, 0)) := by
    have hs := mv1.size
    simp at hs
    rw [mv2.block _ (by omega) (by omega), mv1.block _ (by simp; omega) (by omega)]
    exact heap_alloc2_old _ _ _
  have r0 := (cell_of_row w2 _ 0 _ _ _ hR).trans rfl
  have r1 := (cell_of_row w2 _ 1 _ _ _ hR).trans rfl
  have r2 := frozen_of_row w2 _ 0 _ _ hR
  have r3 := frozen_of_row w2 _ 1 _ _ hR
  have HR : Hid _ := hR
  clear hR
  go_wp2
  exact bodyPost_ret (results_cell_row Try.results36 _ _ w.heap.size _ _ _ _ rfl (heap_setCell_same _ _ 1 _ _ _ (heap_setCell_same _ _ 0 _ _ _ HR.out)) Try.underlying25 rfl (by kernel_rfl)) rfl ⟨_, _, rfl, ((mv2.below (mv1.below gb0 (by omega)) (by omega)).setCell (Nat.le_refl _) _).setCell (Nat.le_refl _) _⟩
end Go.Proofs.Ytbnjloepfmiidaa
