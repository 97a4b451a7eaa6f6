/- Lists of ints that a call owns: read, marked, looked at again. -/
import Derived.Test.YtejajlloipkkhaaR4
import Derived.ArgAppend
import Derived.Lib.SmallJoins
import Derived.Laws.OwnMore
import Derived.Laws.AppendOwnNone
namespace Go.Proofs.Ytejajlloipkkhaa
open Go.RowKit
set_option linter.unusedVariables false

/-- block g holds the list l at its head, and it lies at or beyond B -/
structure OwnS (B : Nat) (w : World) (g : Nat) (l : List Int) : Prop where
  lo : B ≤ g
  row : ∃ cur, w.heap[g]? = some (.cells cur 3 (0, 0)) ∧ cur.toList.take l.length = l.map (Value.int .i64)
theorem OwnS.lt {B : Nat} {w : World} {g : Nat} {l : List Int} (h : OwnS B w g l) : g < w.heap.size := by
  obtain ⟨cur, hc, _⟩ := h.row
  exact (Array.getElem?_eq_some_iff.1 hc).1
theorem OwnS.keep {B : Nat} {w w1 : World} {g : Nat} {l : List Int} (h : OwnS B w g l) (hb : Below w.heap.size w w1) : OwnS B w1 g l := by
  obtain ⟨cur, hc, ht⟩ := h.row
  exact ⟨h.lo, cur, (hb.block _ h.lt).trans hc, ht⟩
theorem OwnS.only {B : Nat} {w w1 : World} {g q : Nat} {l : List Int} (h : OwnS B w g l) (hb : Only q w w1) (hq : ¬ g = q) : OwnS B w1 g l := by
  obtain ⟨cur, hc, ht⟩ := h.row
  exact ⟨h.lo, cur, (hb.block _ hq).trans hc, ht⟩
theorem OwnS.size {B : Nat} {w : World} {g : Nat} {l : List Int} (h : OwnS B w g l) : ∃ cur, w.heap[g]? = some (.cells cur 3 (0, 0)) ∧ l.length ≤ cur.size ∧ ∀ i, i < l.length → cur[i]? = some (.int .i64 (l.getD i 0)) := by
  obtain ⟨cur, hc, ht⟩ := h.row
  have hl := congrArg List.length ht
  have hl2 : l.length ≤ cur.size := by
    simp only [List.length_take, List.length_map] at hl
    have : cur.toList.length = cur.size := Array.length_toList
    omega
  refine ⟨cur, hc, hl2, fun i hi => ?_⟩
  have := congrArg (·[i]?) ht
  simp only [List.getElem?_map] at this
  rw [List.getElem?_take_of_lt hi, Array.getElem?_toList] at this
  rw [this, List.getD_eq_getElem?_getD, List.getElem?_eq_getElem hi]
  rfl
theorem OwnS.at {B : Nat} {w : World} {g : Nat} {l : List Int} (h : OwnS B w g l) (i : Nat) (hi : i < l.length) : w.cell? ⟨g, i, none⟩ = some (.int .i64 (l.getD i 0)) ∧ w.frozen? ⟨g, i, none⟩ = false := by
  obtain ⟨cur, hc, hl, ht⟩ := h.size
  exact ⟨(cell_of_row w _ _ _ _ _ hc).trans (ht i hi), frozen_of_row w _ _ _ _ hc⟩
theorem OwnS.rowAt {B : Nat} {w : World} {g : Nat} {l : List Int} (h : OwnS B w g l) : RowAt w (some ⟨g, 0, none⟩) l :=
  .inr ⟨g, 0, rfl, h.lt, fun i hi => by rw [Nat.zero_add]; exact (h.at i hi).1⟩
theorem OwnS.put {B : Nat} {w : World} {g : Nat} {l : List Int} (h : OwnS B w g l) (i : Nat) (hi : i < l.length) (v : Int) : OwnS B (w.setCell ⟨g, i, none⟩ (.int .i64 v)) g (l.set i v) := by
  obtain ⟨cur, hc, ht⟩ := h.row
  refine ⟨h.lo, _, heap_setCell_same _ _ _ _ _ _ hc, ?_⟩
  rw [Array.toList_setIfInBounds, List.length_set, List.take_set, ht, List.map_set]
theorem OwnS.of_owns {B : Nat} {w : World} {g cap : Nat} {l : List Int} {n : Nat} (h : w.ownsRow B 3 1 (.slice (some ⟨g, 0, none⟩) n cap) n (l.map (Value.int .i64))) : OwnS B w g l ∧ l.length = n ∧ n ≤ cap := by
  obtain ⟨hl, h2⟩ := h
  rcases h2 with ⟨h2, _⟩ | ⟨g', cap', cur, hv, hb, hc, hn, _, _, ht⟩
  · cases h2
  · simp at hv
    obtain ⟨rfl, rfl⟩ := hv
    simp at hl
    exact ⟨⟨hb, cur, hc, by rw [hl]; simpa using ht⟩, hl, hn⟩
theorem OwnS.mono {B B' : Nat} {w : World} {g : Nat} {l : List Int} (h : OwnS B w g l) (hb : B' ≤ B) : OwnS B' w g l := ⟨Nat.le_trans hb h.lo, h.row⟩
theorem OwnZ.owns {w wr : World} {g : Nat} {l : List Int} (h : OwnZ w wr g l) : OwnS w.heap.size wr g l :=
  ⟨h.lo, _, h.row, by rw [List.take_of_length_le (by simp [zv])]; simp [zv]⟩

set_option maxHeartbeats 800000 in
theorem markOwn_any (B g cap : Nat) (zs : List Int) (k0 : Int) (w : World) (hm : zs.length ≤ 1048576) (k1 : 0 ≤ k0) (k2 : k0 ≤ 1099511627776) (ho : OwnS B w g zs) :
    Calls Try.prog 46 #[.slice (some ⟨g, 0, none⟩) zs.length cap, .int .i64 k0] w fun e w' => e = .returned (.int .i64 (k0 + (zs.length : Int))) ∧ OwnS B w' g (mrk k0 zs zs.length) ∧ Only g w w' := by
  go_enter Try.func46, Try.ntmps46
  go_wp2_with fail
  go_loopw [1, 5] (fun vk vi wr => ∃ i : Nat, i ≤ zs.length ∧ vi = .int .i64 i ∧ vk = .int .i64 (k0 + (i : Int)) ∧ OwnS B wr g (mrk k0 zs i) ∧ Only g w wr) (fun _ vi _ => zs.length - (intOf vi).toNat)
  case atStart => exact ⟨0, Nat.zero_le _, rfl, by simp, by simpa [mrk] using ho, Only.refl _ _⟩
  case round =>
    obtain ⟨i, hi, rfl, rfl, st, on⟩ := hrel
    clear ho
    by_cases hlt : i < zs.length
    · obtain ⟨r0, r1⟩ := st.at i (by rw [mrk_len hi]; exact hlt)
      have st2 := st.put i (by rw [mrk_len hi]; exact hlt) (k0 + (i : Int))
      rw [mrk_set hlt] at st2
      have on2 := on.put i (.int .i64 (k0 + (i : Int)))
      clear st on
      generalize (mrk k0 zs i).getD i 0 = y at r0
      go_wp2
      go_roundw
      case rel => exact ⟨i + 1, by omega, by go_num, by go_num, st2, on2⟩
      case measure => simp [intOf]; omega
    · have hkl : i = zs.length := by omega
      subst hkl
      go_wp2
      go_ret
      exact ⟨rfl, st, on⟩
end Go.Proofs.Ytejajlloipkkhaa
