/- The cursor that draws from bytes: each number that is drawn lies in its bounds, and nothing but the cursor turns. -/
import Derived.Test.YtpgngfdhnoonjaaA0
import Derived.Laws.Rows
import Derived.Laws.Tables
import Derived.OpenShut
import Derived.WalkSmall
import Derived.Laws.Bits64b
namespace Go.Proofs.Ytpgngfdhnoonjaa
open Go.RowKit
set_option linter.unusedVariables false

/-- nothing that was there has turned but block g -/
structure Mv (g : Nat) (w w' : World) : Prop where
  os : w'.os = w.os
  tape : w'.tape = w.tape
  output : w'.output = w.output
  size : w.heap.size ≤ w'.heap.size
  block : ∀ k, k < w.heap.size → ¬ k = g → w'.heap[k]? = w.heap[k]?
theorem Mv.refl (g : Nat) (w : World) : Mv g w w := ⟨rfl, rfl, rfl, Nat.le_refl _, fun _ _ _ => rfl⟩
theorem Mv.of_below {g : Nat} {w w' : World} (h : Below w.heap.size w w') : Mv g w w' := ⟨h.os, h.tape, h.output, h.size, fun k hk _ => h.block k hk⟩
theorem Mv.trans {g : Nat} {a b c : World} (h : Mv g a b) (k : Mv g b c) : Mv g a c :=
  ⟨k.os.trans h.os, k.tape.trans h.tape, k.output.trans h.output, Nat.le_trans h.size k.size, fun i hi hg => (k.block i (Nat.lt_of_lt_of_le hi h.size) hg).trans (h.block i hi hg)⟩
theorem Mv.below {g : Nat} {w0 w w' : World} (h : Mv g w w') (hb : Below w0.heap.size w0 w) (hg : w0.heap.size ≤ g) : Below w0.heap.size w0 w' :=
  hb.trans ⟨h.os, h.tape, h.output, h.size, fun k hk => h.block k (Nat.lt_of_lt_of_le hk hb.size) (by omega)⟩
theorem Mv.drewN {g : Nat} {w w' : World} (h : Mv g w w') (n : Nat) : Mv g w (w'.drewN n) := ⟨h.os, h.tape, h.output, h.size, h.block⟩
theorem Mv.setCell {g : Nat} {w w' : World} (h : Mv g w w') (i : Nat) (v : Value) : Mv g w (w'.setCell ⟨g, i, none⟩ v) :=
  ⟨h.os, h.tape, h.output, by simpa [World.setCell] using h.size, fun k hk hg => (heap_setCell_other _ _ _ _ hg).trans (h.block k hk hg)⟩
theorem Mv.cell {g : Nat} {w w' : World} (h : Mv g w w') {b o : Nat} (hb : b < w.heap.size) (hg : ¬ b = g) : w'.cell? ⟨b, o, none⟩ = w.cell? ⟨b, o, none⟩ := World.cell?_of_block (w := w) (h.block b hb hg)

/-- a row of bytes that is read -/
def RowU (w : World) (g : Nat) (a : Option Addr) (zs : List Int) : Prop :=
  zs = [] ∨ ∃ b off, a = some ⟨b, off, none⟩ ∧ b < w.heap.size ∧ ¬ b = g ∧ ∀ i, i < zs.length → w.cell? ⟨b, off + i, none⟩ = some (.int .u8 (zs.getD i 0)) ∧ 0 ≤ zs.getD i 0 ∧ zs.getD i 0 ≤ 255
theorem RowU.keep {w w1 : World} {g : Nat} {a : Option Addr} {zs : List Int} (h : RowU w g a zs) (hm : Mv g w w1) : RowU w1 g a zs := by
  rcases h with h | ⟨b, off, ha, hl, hg, hc⟩
  · exact .inl h
  · exact .inr ⟨b, off, ha, Nat.lt_of_lt_of_le hl hm.size, hg, fun i hi => ⟨(hm.cell hl hg).trans (hc i hi).1, (hc i hi).2⟩⟩

structure CurAt (w : World) (g n : Nat) (a : Option Addr) (cap : Nat) (zs : List Int) : Prop where
  st : ∃ (k : Nat) (sd : Int), w.heap[g]? = some (.cells #[.slice a zs.length cap, .int .i64 k, .int .u64 sd] 62 (0, 0)) ∧ k ≤ n ∧ (Lit.int .u64 sd).wf = true
  row : RowU w g a zs
  len : zs.length ≤ 1048576

theorem and255 {x : Int} (h : (Lit.int .u64 x).wf = true) : 0 ≤ bits .and .u64 x 255 ∧ bits .and .u64 x 255 ≤ 255 := by
  obtain ⟨h1, h2⟩ := bounds_u64 h
  obtain ⟨n, rfl⟩ := Int.eq_ofNat_of_zero_le h1
  have e := bits_and_u64_nat n 255 (by omega) (by omega)
  rw [show ((255 : Nat) : Int) = 255 from rfl] at e
  rw [e]
  have := @Nat.and_le_right n 255
  omega

theorem next_end {w : World} {g n : Nat} {a : Option Addr} {cap : Nat} {zs : List Int} {k : Nat} {sd : Int} (hB : w.heap[g]? = some (.cells #[.slice a zs.length cap, .int .i64 k, .int .u64 sd] 62 (0, 0))) (hk : k ≤ n) (hR : RowU w g a zs) (hl : zs.length ≤ 1048576) (m1 m2 : Nat) (e : Int) :
    Mv g w ((((w.drewN m1).setCell ⟨g, 1, none⟩ (.int .i64 ((k : Int) + 1))).setCell ⟨g, 2, none⟩ (.int .u64 (IntKind.u64.wrap e))).drewN m2) ∧
    CurAt ((((w.drewN m1).setCell ⟨g, 1, none⟩ (.int .i64 ((k : Int) + 1))).setCell ⟨g, 2, none⟩ (.int .u64 (IntKind.u64.wrap e))).drewN m2) g (n + 1) a cap zs := by
  have hm : Mv g w ((((w.drewN m1).setCell ⟨g, 1, none⟩ (.int .i64 ((k : Int) + 1))).setCell ⟨g, 2, none⟩ (.int .u64 (IntKind.u64.wrap e))).drewN m2) := ((((Mv.refl g w).drewN m1).setCell _ _).setCell _ _).drewN m2
  refine ⟨hm, ⟨k + 1, IntKind.u64.wrap e, ?_, by omega, wf_wrap _ _⟩, hR.keep hm, hl⟩
  have h0 : (w.drewN m1).heap[g]? = some (.cells #[.slice a zs.length cap, .int .i64 k, .int .u64 sd] 62 (0, 0)) := hB
  have h1 := heap_setCell_same _ _ 1 _ _ (.int .i64 ((k : Int) + 1)) h0
  have h2 := heap_setCell_same _ _ 2 _ _ (.int .u64 (IntKind.u64.wrap e)) h1
  exact h2
theorem next_bits {y : Int} (x : Int) (hy : y = IntKind.u64.wrap x / 1099511627776) : 0 ≤ wrap64 (bits .and .u64 y 255) ∧ wrap64 (bits .and .u64 y 255) ≤ 255 := by
  have hw := bounds_u64 (wf_wrap .u64 x)
  have h1 : (Lit.int .u64 y).wf = true := by
    subst hy
    simp [Lit.wf, IntKind.min, IntKind.max, IntKind.signed, IntKind.bits]
    omega
  have h2 := and255 h1
  rw [IntWalk.wrap64_in _ (by omega)]
  exact h2

set_option maxHeartbeats 1600000 in
theorem next_any (w : World) (g n : Nat) (a : Option Addr) (cap : Nat) (zs : List Int) (hc : CurAt w g n a cap zs) (hn : n ≤ 1099511627776) :
    Calls Try.prog 66 #[.pointer (some ⟨g, 0, none⟩)] w fun e w' => ∃ v : Int, e = .returned (.int .i64 v) ∧ 0 ≤ v ∧ v ≤ 255 ∧ Mv g w w' ∧ CurAt w' g (n + 1) a cap zs := by
  obtain ⟨⟨k, sd, hblk, hk, hsd⟩, hrow, hlen⟩ := hc
  have c0 : w.cell? ⟨g, 0, none⟩ = some (.slice a zs.length cap) := (cell_of_row w _ _ _ _ _ hblk).trans rfl
  have c1 : w.cell? ⟨g, 1, none⟩ = some (.int .i64 k) := (cell_of_row w _ _ _ _ _ hblk).trans rfl
  have c2 : w.cell? ⟨g, 2, none⟩ = some (.int .u64 sd) := (cell_of_row w _ _ _ _ _ hblk).trans rfl
  have f1 : w.frozen? ⟨g, 1, none⟩ = false := frozen_of_row w _ _ _ _ hblk
  have f2 : w.frozen? ⟨g, 2, none⟩ = false := frozen_of_row w _ _ _ _ hblk
  have HB : Hid _ := hblk
  have HR : Hid _ := hrow
  have HS : Hid _ := hsd
  clear hblk hrow hsd
  by_cases hlt : k < zs.length
  · obtain ⟨bk, off, rfl⟩ : ∃ bk off, a = some ⟨bk, off, none⟩ := by
      rcases HR.out with h | ⟨b, o, h, _⟩
      · rw [h] at hlt; simp at hlt
      · exact ⟨b, o, h⟩
    have hby : w.cell? ⟨bk, off + k, none⟩ = some (.int .u8 (zs.getD k 0)) ∧ 0 ≤ zs.getD k 0 ∧ zs.getD k 0 ≤ 255 := by
      rcases HR.out with h | ⟨b, o, h, _, _, hc⟩
      · rw [h] at hlt; simp at hlt
      · simp at h; obtain ⟨rfl, rfl⟩ := h; exact hc k hlt
    obtain ⟨hby, z1, z2⟩ := hby
    generalize zs.getD k 0 = z at hby z1 z2
    go_enter Try.func66, Try.ntmps66
    go_wp2_with fail
    go_quiet (fail)
    go_wp2_with fail
    go_quiet (fail)
    go_wp2_with fail
    go_quiet (fail)
    go_wp2
    go_ret
    exact ⟨z, rfl, z1, z2, next_end HB.out hk HR.out hlen _ _ _⟩
  · go_enter Try.func66, Try.ntmps66
    go_wp2_with fail
    go_quiet (fail)
    go_wp2_with fail
    go_quiet (fail)
    go_wp2
    go_ret
    exact ⟨_, rfl, (next_bits _ rfl).1, (next_bits _ rfl).2, next_end HB.out hk HR.out hlen _ _ _⟩

theorem keepM {g : Nat} {W w1 : World} {bk o : Nat} {u : Value} (hm : Mv g W w1) (hl : bk < W.heap.size) (hg : ¬ bk = g) (h : W.cell? ⟨bk, o, none⟩ = some u) : w1.cell? ⟨bk, o, none⟩ = some u := (hm.cell hl hg).trans h
theorem CurAt.lt {w : World} {g n : Nat} {a : Option Addr} {cap : Nat} {zs : List Int} (h : CurAt w g n a cap zs) : g < w.heap.size := by
  obtain ⟨k, sd, hb, _⟩ := h.st
  exact (Array.getElem?_eq_some_iff.1 hb).1
theorem CurAt.keep {w w1 : World} {g n : Nat} {a : Option Addr} {cap : Nat} {zs : List Int} (h : CurAt w g n a cap zs) (hb : Below w.heap.size w w1) : CurAt w1 g n a cap zs := by
  have hlt := h.lt
  obtain ⟨⟨k, sd, hbk, h2⟩, hr, hl⟩ := h
  exact ⟨⟨k, sd, (hb.block g hlt).trans hbk, h2⟩, hr.keep (Mv.of_below hb), hl⟩
theorem CurAt.more {w : World} {g n m : Nat} {a : Option Addr} {cap : Nat} {zs : List Int} (h : CurAt w g n a cap zs) (hm : n ≤ m) : CurAt w g m a cap zs := by
  obtain ⟨⟨k, sd, hbk, h2, h3⟩, hr, hl⟩ := h
  exact ⟨⟨k, sd, hbk, by omega, h3⟩, hr, hl⟩

set_option maxHeartbeats 800000 in
theorem pick_any (m : Int) (w : World) (g n : Nat) (a : Option Addr) (cap : Nat) (zs : List Int) (hc : CurAt w g n a cap zs) (hn : n ≤ 1000000000) (h1 : 1 ≤ m) (h2 : m ≤ 65536) :
    Calls Try.prog 46 #[.pointer (some ⟨g, 0, none⟩), .int .i64 m] w fun e w' => ∃ v : Int, e = .returned (.int .i64 v) ∧ 0 ≤ v ∧ v < m ∧ Mv g w w' ∧ CurAt w' g (n + 2) a cap zs := by
  by_cases hm : m ≤ 1
  · go_enter Try.func46, Try.ntmps46
    go_wp2
    go_ret
    exact ⟨0, rfl, by omega, by omega, Mv.refl _ _, hc.more (by omega)⟩
  · by_cases hb : 200 < m
    · go_enter Try.func46, Try.ntmps46
      go_wp2_with fail
      refine (next_any _ _ _ _ _ _ hc (by omega)).mono ?_
      rintro e w1 ⟨v1, rfl, p1, p2, mv1, hc1⟩
      go_wp2_with fail
      refine (next_any _ _ _ _ _ _ hc1 (by omega)).mono ?_
      rintro e w2 ⟨v2, rfl, p3, p4, mv2, hc2⟩
      go_wp2
      go_ret
      exact ⟨_, rfl, Int.emod_nonneg _ (by omega), Int.emod_lt_of_pos _ (by omega), mv1.trans mv2, hc2⟩
    · go_enter Try.func46, Try.ntmps46
      go_wp2_with fail
      refine (next_any _ _ _ _ _ _ hc (by omega)).mono ?_
      rintro e w1 ⟨v1, rfl, p1, p2, mv1, hc1⟩
      go_wp2
      go_ret
      exact ⟨_, rfl, Int.emod_nonneg _ (by omega), Int.emod_lt_of_pos _ (by omega), mv1, hc1.more (by omega)⟩

theorem one_any (m : Int) (w : World) (g n : Nat) (a : Option Addr) (cap : Nat) (zs : List Int) (hc : CurAt w g n a cap zs) (hn : n ≤ 1000000000) (h1 : 1 ≤ m) (h2 : m ≤ 65536) :
    Calls Try.prog 45 #[.pointer (some ⟨g, 0, none⟩), .int .i64 m] w fun e w' => ∃ v : Bool, e = .returned (.bool v) ∧ Mv g w w' ∧ CurAt w' g (n + 2) a cap zs := by
  go_enter Try.func45, Try.ntmps45
  go_wp2_with fail
  refine (pick_any _ _ _ _ _ _ _ hc hn h1 h2).mono ?_
  rintro e w1 ⟨v1, rfl, p1, p2, mv1, hc1⟩
  go_wp2
  go_ret
  exact ⟨_, rfl, mv1, hc1⟩

/-- one of some numbers that lie in a block of their own -/
theorem among_any (ys : List Int) (q cp : Nat) (w : World) (g n : Nat) (a : Option Addr) (cap : Nat) (zs : List Int) (hc : CurAt w g n a cap zs) (hn : n ≤ 1000000000) (h1 : 1 ≤ ys.length) (h2 : ys.length ≤ 65536)
    (hq : q < w.heap.size) (hg : ¬ q = g) (hy : ∀ i, i < ys.length → w.cell? ⟨q, 0 + i, none⟩ = some (.int .i64 (ys.getD i 0))) :
    Calls Try.prog 47 #[.pointer (some ⟨g, 0, none⟩), .slice (some ⟨q, 0, none⟩) ys.length cp] w fun e w' => ∃ v : Int, e = .returned (.int .i64 v) ∧ v ∈ ys ∧ Mv g w w' ∧ CurAt w' g (n + 2) a cap zs := by
  have HY : Hid _ := hy
  clear hy
  go_enter Try.func47, Try.ntmps47
  go_wp2_with fail
  refine (pick_any _ _ _ _ _ _ _ hc hn (by omega) (by omega)).mono ?_
  rintro e w1 ⟨v1, rfl, p1, p2, mv1, hc1⟩
  obtain ⟨i, rfl⟩ := Int.eq_ofNat_of_zero_le p1
  have hi : i < ys.length := by omega
  have hcell : w1.cell? ⟨q, 0 + i, none⟩ = some (.int .i64 (ys.getD i 0)) := keepM mv1 hq hg (HY.out i hi)
  rw [Nat.zero_add] at hcell
  have hmem : Hid (ys.getD i 0 ∈ ys) := by
    show ys.getD i 0 ∈ ys
    rw [List.getD_eq_getElem?_getD, List.getElem?_eq_getElem hi]
    exact List.getElem_mem hi
  generalize ys.getD i 0 = y at hcell hmem
  go_wp2
  go_ret
  exact ⟨y, rfl, hmem.out, mv1, hc1⟩
end Go.Proofs.Ytpgngfdhnoonjaa
