/- A ring and a number that are drawn. -/
import Derived.Test.YtjolkpfenloobaaT1
namespace Go.Proofs.Ytjolkpfenloobaa
open Go.RowKit
set_option linter.unusedVariables false

theorem SpSt.cells_end {w wr : World} {g n q : Nat} {a : Option Addr} {cap : Nat} {zs : List Int} {b d : Int} (h : SpSt w wr g n q a cap zs b d) (u v : Value) : ((wr.setCell ⟨w.heap.size, 0, none⟩ u).setCell ⟨w.heap.size, 1, none⟩ v).cell? ⟨q, 0, none⟩ = some (.int .i64 b) ∧ ((wr.setCell ⟨w.heap.size, 0, none⟩ u).setCell ⟨w.heap.size, 1, none⟩ v).cell? ⟨q, 1, none⟩ = some (.int .i64 d) := by
  have e := (h.fin u v).2.2.2 q h.hi (by have := h.lo; omega)
  exact ⟨(World.cell?_of_block (w := wr) (a := ⟨q, 0, none⟩) e).trans h.q0, (World.cell?_of_block (w := wr) (a := ⟨q, 1, none⟩) e).trans h.q1⟩

theorem row_mv {g bk off : Nat} {ms : List Int} {w w1 : World} (h : ∀ i, i < ms.length → w.cell? ⟨bk, off + i, none⟩ = some (.int .i64 (ms.getD i 0))) (hm : Mv g w w1) (hl : bk < w.heap.size) (hg : ¬ bk = g) : ∀ i, i < ms.length → w1.cell? ⟨bk, off + i, none⟩ = some (.int .i64 (ms.getD i 0)) :=
  fun i hi => keepM hm hl hg (h i hi)
theorem row_end {r bk off : Nat} {ms : List Int} {w : World} (h : ∀ i, i < ms.length → w.cell? ⟨bk, off + i, none⟩ = some (.int .i64 (ms.getD i 0))) (hg : ¬ bk = r) (u v : Value) : ∀ i, i < ms.length → ((w.setCell ⟨r, 0, none⟩ u).setCell ⟨r, 1, none⟩ v).cell? ⟨bk, off + i, none⟩ = some (.int .i64 (ms.getD i 0)) := by
  intro i hi
  have e : ((w.setCell ⟨r, 0, none⟩ u).setCell ⟨r, 1, none⟩ v).heap[bk]? = w.heap[bk]? := by
    rw [heap_setCell_other _ _ _ _ (by simpa using hg), heap_setCell_other _ _ _ _ (by simpa using hg)]
  exact (World.cell?_of_block (w := w) (a := ⟨bk, off + i, none⟩) e).trans (h i hi)

set_option maxHeartbeats 6400000 in
theorem ringAt_any (w : World) (g n : Nat) (a : Option Addr) (cap : Nat) (zs : List Int) (hc : CurAt w g n a cap zs) (hn : n ≤ 900) :
    Calls Try.prog 41 #[.pointer (some ⟨g, 0, none⟩)] w fun e w' => ∃ (b d : Int) (v : Value) (x : Int), e = .returned (.tuple #[.agg #[.int .i64 b, .int .i64 d], v, .int .i64 x]) ∧ SomeR w.heap.size w' v ∧ Mv g w w' ∧ CurAt w' g (n + 80) a cap zs := by
  have hlt := hc.lt
  have HR0 : Hid (RowU w g a zs) := hc.row
  go_enter Try.func41, Try.ntmps41
  go_wp2_with fail
  refine (ring_any _ _ _ _ _ _ (hc.new _) (by omega)).mono ?_
  rintro e w1 ⟨b, d, v, rfl, sm1, mv1, hc1⟩
  have st1 : SpSt w (w1.alloc (.cells #[.int .i64 b, .int .i64 d] 25)) g (n + 60) w1.heap.size a cap zs b d := spSt_ring mv1 hc1 hlt HR0.out
  have sm2 : SomeR (w.heap.size + 1) (w1.alloc (.cells #[.int .i64 b, .int .i64 d] 25)) v := (sm1.keep ((Below.refl _ _).alloc (Nat.le_refl _) _)).mono (by simp)
  have hs1 := mv1.size
  simp at hs1
  clear sm1 mv1 hc1
  obtain ⟨W2, hW2⟩ : ∃ W2, (w1.alloc (.cells #[.int .i64 b, .int .i64 d] 25)) = W2 := ⟨_, rfl⟩
  rw [hW2] at st1 sm2
  obtain ⟨a0, cp, ms, rfl, hcp, hl9, hr0, hB⟩ := sm2
  have HR : Hid (RowAt W2 a0 ms) := hr0
  have HBB : Hid (ms = [] ∨ ∃ bk off, a0 = some ⟨bk, off, none⟩ ∧ w.heap.size + 1 ≤ bk) := hB
  have SM : Hid (SomeR (w.heap.size + 1) W2 (.slice a0 ms.length cp)) := ⟨a0, cp, ms, rfl, hcp, hl9, hr0, hB⟩
  have ST1 : Hid (SpSt w W2 g (n + 60) w1.heap.size a cap zs b d) := st1
  clear hr0 hB st1
  obtain ⟨q, hq⟩ : ∃ q, w1.heap.size = q := ⟨_, rfl⟩
  rw [hq] at ST1
  by_cases hpos : 0 < ms.length
  · go_wp2_with fail
    refine (one_any _ _ _ _ _ _ _ ST1.out.cur (by omega) (by omega) (by omega)).mono ?_
    rintro e w3 ⟨v3, rfl, mv3, hc3⟩
    have st3 := (ST1.out.step mv3 hc3).keepB ((Below.refl _ _).drew)
    have sm3 : Hid (SomeR (w.heap.size + 1) w3 (.slice a0 ms.length cp)) := SM.out.mv mv3 (by omega)
    have hlo := st3.lo
    cases v3
    · go_wp2_with fail
      go_region_held (fun w' => w'.cell? ⟨q, 0, none⟩ = some (.int .i64 b) ∧ w'.cell? ⟨q, 1, none⟩ = some (.int .i64 d)) (first | exact ⟨st3.q0, st3.q1⟩ | exact ⟨sta.q0, sta.q1⟩ | exact sta.cells_end _ _) ((go_at_call 68; refine (num_any _ _ _ _ _ _ _ _ st3.cur (by omega)).mono ?_; rintro e wa ⟨xa, rfl, xa1, xa2, mva, hca⟩; have sta := st3.step mva hca; obtain ⟨r0, r1, r2, r3⟩ := sta.res))
      obtain ⟨f1, f2, f3, f4⟩ := sta.fin (.int .i64 b) (.int .i64 d)
      have sma : SomeR (w.heap.size + 1) wa (.slice a0 ms.length cp) := (sm3.out.keep ((Below.refl _ _).drew)).mv mva (by omega)
      have smf := (sma.block f4 (by simp [World.setCell])).mono (Nat.le_succ _)
      go_wp2
      have e0 := (cell_of_row _ _ 0 _ _ _ f1).trans rfl
      have e1 := (cell_of_row _ _ 1 _ _ _ f1).trans rfl
      exact bodyPost_ret (by simp [results, Try.results41, go_sem, e0, e1] <;> rfl) rfl ⟨b, d, _, xa, rfl, smf, f2, f3.more (by omega)⟩
    · have sm3' := sm3.out
      obtain ⟨bk, off, rfl, hBk⟩ : ∃ bk off, a0 = some ⟨bk, off, none⟩ ∧ w.heap.size + 1 ≤ bk := by
        rcases HBB.out with h | h
        · rw [h] at hpos; simp at hpos
        · exact h
      have HR3 : Hid (RowAt w3 (some ⟨bk, off, none⟩) ms) := by
        have h0 := rowAt_cell HR.out hpos
        exact .inr ⟨bk, off, rfl, Nat.lt_of_lt_of_le h0.1 mv3.size, fun i hi => keepM mv3 h0.1 (by omega) (h0.2 i hi)⟩
      clear sm3'
      go_wp2_with fail
      have cl3 := (rowAt_cell (HR3.out.keep ((Below.refl _ _).drew)) hpos).2
      have hb3 := (rowAt_cell (HR3.out.keep ((Below.refl _ _).drew)) hpos).1
      go_region_held (fun w' => w'.cell? ⟨q, 0, none⟩ = some (.int .i64 b) ∧ w'.cell? ⟨q, 1, none⟩ = some (.int .i64 d) ∧ ∀ i, i < ms.length → w'.cell? ⟨bk, off + i, none⟩ = some (.int .i64 (ms.getD i 0))) (first | exact ⟨st3.q0, st3.q1, cl3⟩ | exact ⟨sta.q0, sta.q1, cla⟩ | exact ⟨(sta.cells_end _ _).1, (sta.cells_end _ _).2, row_end cla (by omega) _ _⟩) ((go_at_call 67; refine (pick_any _ _ _ _ _ _ _ st3.cur (by omega) (by omega) (by omega)).mono ?_; rintro e wa ⟨xa, rfl, xa1, xa2, mva, hca⟩; obtain ⟨i, rfl⟩ := Int.eq_ofNat_of_zero_le xa1; have sta := st3.step mva hca; have hii : i < ms.length := (by omega); have cla := row_mv cl3 mva hb3 (by omega); clear cl3; obtain ⟨r0, r1, r2, r3⟩ := sta.res))
      obtain ⟨f1, f2, f3, f4⟩ := sta.fin (.int .i64 b) (.int .i64 d)
      have sma : SomeR (w.heap.size + 1) wa (.slice (some ⟨bk, off, none⟩) ms.length cp) := (sm3.out.keep ((Below.refl _ _).drew)).mv mva (by omega)
      have smf := (sma.block f4 (by simp [World.setCell])).mono (Nat.le_succ _)
      clear cla
      go_wp2
      have e0 := (cell_of_row _ _ 0 _ _ _ f1).trans rfl
      have e1 := (cell_of_row _ _ 1 _ _ _ f1).trans rfl
      exact bodyPost_ret (by simp [results, Try.results41, go_sem, e0, e1] <;> rfl) rfl ⟨b, d, _, _, rfl, smf, f2, f3.more (by omega)⟩
  · have st3 := ST1.out.keepB ((Below.refl _ _).drew)
    have hlo := st3.lo
    go_wp2_with fail
    go_region_held (fun w' => w'.cell? ⟨q, 0, none⟩ = some (.int .i64 b) ∧ w'.cell? ⟨q, 1, none⟩ = some (.int .i64 d)) (first | exact ⟨st3.q0, st3.q1⟩ | exact ⟨sta.q0, sta.q1⟩ | exact sta.cells_end _ _) ((go_at_call 68; refine (num_any _ _ _ _ _ _ _ _ st3.cur (by omega)).mono ?_; rintro e wa ⟨xa, rfl, xa1, xa2, mva, hca⟩; have sta := st3.step mva hca; obtain ⟨r0, r1, r2, r3⟩ := sta.res))
    obtain ⟨f1, f2, f3, f4⟩ := sta.fin (.int .i64 b) (.int .i64 d)
    have sma : SomeR (w.heap.size + 1) wa (.slice a0 ms.length cp) := (SM.out.keep ((Below.refl _ _).drew)).mv mva (by omega)
    have smf := (sma.block f4 (by simp [World.setCell])).mono (Nat.le_succ _)
    go_wp2
    have e0 := (cell_of_row _ _ 0 _ _ _ f1).trans rfl
    have e1 := (cell_of_row _ _ 1 _ _ _ f1).trans rfl
    exact bodyPost_ret (by simp [results, Try.results41, go_sem, e0, e1] <;> rfl) rfl ⟨b, d, _, xa, rfl, smf, f2, f3.more (by omega)⟩
end Go.Proofs.Ytjolkpfenloobaa
