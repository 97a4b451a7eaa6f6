/- What the laws of messages share: lists of ints of one's own, boxes, marks, and lists held against each other. Structs in blocks of their own; messages opened, copied, weighed and compared. SameMsg on both sides, and two messages that are the same held against each other. The size of messages and replies; two that read the same; marks that were laid. Messages and replies copied whole, into memory of their own. Messages copied whole. Replies copied whole. Marks on messages and replies: what they are, and that they are found again. Messages and replies that are owned are marked. Replies that are owned are marked. Two lists of messages, two of replies that read the same are told so. Nets in memory: how they are read, how much they hold, when two read the same. Nets of one's own: copied whole, marked, marks found again. -/
import Derived.ArgAppend
import Derived.Lib.SmallJoins
import Derived.Laws.OwnMore
import Derived.Laws.AppendOwnNone
import Derived.Deep.Slices
import Derived.Test.YtdceimnapbblnaaGreatZ0
import Derived.Test.YtdceimnapbblnaaGreatZ1
import Derived.Test.YtdceimnapbblnaaGreatZ2
namespace Go.Proofs.YtdceimnapbblnaaGreat.Wire
open Go.RowKit
set_option linter.unusedVariables false
/-- block g holds the list l at its head, and it lies at or beyond B -/
structure OwnS (B : Nat) (w : World) (g : Nat) (l : List Int) : Prop where
  lo : B ≤ g
  row : ∃ cur, w.heap[g]? = some (.cells cur 3 (0, 0)) ∧ cur.toList.take l.length = l.map (Value.int .i64)
theorem OwnS.lt {B : Nat} {w : World} {g : Nat} {l : List Int} (h : OwnS B w g l) : g < w.heap.size := by
  obtain ⟨cur, hc, _⟩ := h.row
  exact (Array.getElem?_eq_some_iff.1 hc).1
theorem OwnS.keep {B : Nat} {w w1 : World} {g : Nat} {l : List Int} (h : OwnS B w g l) (hb : Below w.heap.size w w1) : OwnS B w1 g l := by
  obtain ⟨cur, hc, ht⟩ := h.row
  exact ⟨h.lo, cur, (hb.block _ h.lt).trans hc, ht⟩
theorem OwnS.only {B : Nat} {w w1 : World} {g q : Nat} {l : List Int} (h : OwnS B w g l) (hb : Only q w w1) (hq : ¬ g = q) : OwnS B w1 g l := by
  obtain ⟨cur, hc, ht⟩ := h.row
  exact ⟨h.lo, cur, (hb.block _ hq).trans hc, ht⟩
theorem OwnS.size {B : Nat} {w : World} {g : Nat} {l : List Int} (h : OwnS B w g l) : ∃ cur, w.heap[g]? = some (.cells cur 3 (0, 0)) ∧ l.length ≤ cur.size ∧ ∀ i, i < l.length → cur[i]? = some (.int .i64 (l.getD i 0)) := by
  obtain ⟨cur, hc, ht⟩ := h.row
  have hl := congrArg List.length ht
  have hl2 : l.length ≤ cur.size := by
    simp only [List.length_take, List.length_map] at hl
    have : cur.toList.length = cur.size := Array.length_toList
    omega
  refine ⟨cur, hc, hl2, fun i hi => ?_⟩
  have := congrArg (·[i]?) ht
  simp only [List.getElem?_map] at this
  rw [List.getElem?_take_of_lt hi, Array.getElem?_toList] at this
  rw [this, List.getD_eq_getElem?_getD, List.getElem?_eq_getElem hi]
  rfl
theorem OwnS.at {B : Nat} {w : World} {g : Nat} {l : List Int} (h : OwnS B w g l) (i : Nat) (hi : i < l.length) : w.cell? ⟨g, i, none⟩ = some (.int .i64 (l.getD i 0)) ∧ w.frozen? ⟨g, i, none⟩ = false := by
  obtain ⟨cur, hc, hl, ht⟩ := h.size
  exact ⟨(cell_of_row w _ _ _ _ _ hc).trans (ht i hi), frozen_of_row w _ _ _ _ hc⟩
theorem OwnS.rowAt {B : Nat} {w : World} {g : Nat} {l : List Int} (h : OwnS B w g l) : RowAt w (some ⟨g, 0, none⟩) l :=
  .inr ⟨g, 0, rfl, h.lt, fun i hi => by rw [Nat.zero_add]; exact (h.at i hi).1⟩
theorem OwnS.put {B : Nat} {w : World} {g : Nat} {l : List Int} (h : OwnS B w g l) (i : Nat) (hi : i < l.length) (v : Int) : OwnS B (w.setCell ⟨g, i, none⟩ (.int .i64 v)) g (l.set i v) := by
  obtain ⟨cur, hc, ht⟩ := h.row
  refine ⟨h.lo, _, heap_setCell_same _ _ _ _ _ _ hc, ?_⟩
  rw [Array.toList_setIfInBounds, List.length_set, List.take_set, ht, List.map_set]
theorem OwnS.of_owns {B : Nat} {w : World} {g cap : Nat} {l : List Int} {n : Nat} (h : w.ownsRow B 3 1 (.slice (some ⟨g, 0, none⟩) n cap) n (l.map (Value.int .i64))) : OwnS B w g l ∧ l.length = n ∧ n ≤ cap := by
  obtain ⟨hl, h2⟩ := h
  rcases h2 with ⟨h2, _⟩ | ⟨g', cap', cur, hv, hb, hc, hn, _, _, ht⟩
  · cases h2
  · simp at hv
    obtain ⟨rfl, rfl⟩ := hv
    simp at hl
    exact ⟨⟨hb, cur, hc, by rw [hl]; simpa using ht⟩, hl, hn⟩
theorem OwnS.mono {B B' : Nat} {w : World} {g : Nat} {l : List Int} (h : OwnS B w g l) (hb : B' ≤ B) : OwnS B' w g l := ⟨Nat.le_trans hb h.lo, h.row⟩
theorem OwnZ.owns {w wr : World} {g : Nat} {l : List Int} (h : OwnZ w wr g l) : OwnS w.heap.size wr g l :=
  ⟨h.lo, _, h.row, by rw [List.take_of_length_le (by simp [zv])]; simp [zv]⟩

set_option maxHeartbeats 800000 in
theorem markOwn_any (B g cap : Nat) (zs : List Int) (k0 : Int) (w : World) (hm : zs.length ≤ 1048576) (k1 : 0 ≤ k0) (k2 : k0 ≤ 1099511627776) (ho : OwnS B w g zs) :
    Calls Tryz.prog 53 #[.slice (some ⟨g, 0, none⟩) zs.length cap, .int .i64 k0] w fun e w' => e = .returned (.int .i64 (k0 + (zs.length : Int))) ∧ OwnS B w' g (mrk k0 zs zs.length) ∧ Only g w w' := by
  go_enter Tryz.func53, Tryz.ntmps53
  go_wp2_with fail
  go_loopw [1, 5] (fun vk vi wr => ∃ i : Nat, i ≤ zs.length ∧ vi = .int .i64 i ∧ vk = .int .i64 (k0 + (i : Int)) ∧ OwnS B wr g (mrk k0 zs i) ∧ Only g w wr) (fun _ vi _ => zs.length - (intOf vi).toNat)
  case atStart => exact ⟨0, Nat.zero_le _, rfl, by simp, by simpa [mrk] using ho, Only.refl _ _⟩
  case round =>
    obtain ⟨i, hi, rfl, rfl, st, on⟩ := hrel
    clear ho
    by_cases hlt : i < zs.length
    · obtain ⟨r0, r1⟩ := st.at i (by rw [mrk_len hi]; exact hlt)
      have st2 := st.put i (by rw [mrk_len hi]; exact hlt) (k0 + (i : Int))
      rw [mrk_set hlt] at st2
      have on2 := on.put i (.int .i64 (k0 + (i : Int)))
      clear st on
      generalize (mrk k0 zs i).getD i 0 = y at r0
      go_wp2
      go_roundw
      case rel => exact ⟨i + 1, by omega, by go_num, by go_num, st2, on2⟩
      case measure => simp [intOf]; omega
    · have hkl : i = zs.length := by omega
      subst hkl
      go_wp2
      go_ret
      exact ⟨rfl, st, on⟩
theorem OwnS.of_block {B : Nat} {w w1 : World} {g : Nat} {l : List Int} (h : OwnS B w g l) (hb : w1.heap[g]? = w.heap[g]?) : OwnS B w1 g l := by
  obtain ⟨cur, hc, ht⟩ := h.row
  exact ⟨h.lo, cur, hb.trans hc, ht⟩
theorem markIntS_empty (a : Option Addr) (cap : Nat) (k0 : Int) (w : World) :
    Calls Tryz.prog 53 #[.slice a 0 cap, .int .i64 k0] w fun e w' => e = .returned (.int .i64 k0) ∧ w' = w := by
  go_enter Tryz.func53, Tryz.ntmps53
  go_wp2
  go_loop [1, 5] (fun k i => i = .int .i64 0 ∧ k = .int .i64 k0) (fun _ i => 0)
  case atStart => exact ⟨rfl, rfl⟩
  case round =>
    obtain ⟨rfl, rfl⟩ := hrel
    go_wp2
    go_ret
    exact ⟨rfl, rfl⟩
theorem mrk_at' {k0 : Int} {zs : List Int} {n : Nat} (h : zs.length = n) : (mrk k0 zs n).length = n ∧ ∀ i, i < (mrk k0 zs n).length → (mrk k0 zs n).getD i 0 = k0 + (i : Int) := by
  subst h
  exact ⟨mrk_len (Nat.le_refl _), fun i hi => mrk_get (by rwa [mrk_len (Nat.le_refl _)] at hi)⟩
/-- a box that was laid in the world w is as it was -/
structure BxV (w wr : World) (cs : Array Value) (T : TypeId) : Prop where
  row : wr.heap[w.heap.size]? = some (.cells cs T (0, 0))
theorem BxV.lt {w wr : World} {cs : Array Value} {T : TypeId} (h : BxV w wr cs T) : w.heap.size < wr.heap.size := (Array.getElem?_eq_some_iff.1 h.row).1
theorem BxV.keep {w wr w1 : World} {cs : Array Value} {T : TypeId} (h : BxV w wr cs T) (hb : Below wr.heap.size wr w1) : BxV w w1 cs T :=
  ⟨(hb.block _ h.lt).trans h.row⟩
theorem bxV1 {w w1 : World} {cs : Array Value} {T : TypeId} (hb : Below (w.alloc (.cells cs T)).heap.size (w.alloc (.cells cs T)) w1) : BxV w w1 cs T := by
  have h0 : BxV w (w.alloc (.cells cs T)) cs T := ⟨heap_alloc_new _ _⟩
  exact h0.keep hb
theorem BxV.c2 {w wr : World} {x y : Value} {T : TypeId} (h : BxV w wr #[x, y] T) : wr.cell? ⟨w.heap.size, 0, none⟩ = some x ∧ wr.cell? ⟨w.heap.size, 1, none⟩ = some y :=
  ⟨(cell_of_row wr _ _ _ _ _ h.row).trans rfl, (cell_of_row wr _ _ _ _ _ h.row).trans rfl⟩
theorem BxV.c3 {w wr : World} {x y z : Value} {T : TypeId} (h : BxV w wr #[x, y, z] T) : wr.cell? ⟨w.heap.size, 0, none⟩ = some x ∧ wr.cell? ⟨w.heap.size, 1, none⟩ = some y ∧ wr.cell? ⟨w.heap.size, 2, none⟩ = some z :=
  ⟨(cell_of_row wr _ _ _ _ _ h.row).trans rfl, (cell_of_row wr _ _ _ _ _ h.row).trans rfl, (cell_of_row wr _ _ _ _ _ h.row).trans rfl⟩
theorem bxv6 {w w4 wr : World} {x y z x' y' z' : Value} {T T' : TypeId} (h : BxV w wr #[x, y, z] T) (k : BxV w4 wr #[x', y', z'] T') : wr.cell? ⟨w.heap.size, 0, none⟩ = some x ∧ wr.cell? ⟨w.heap.size, 1, none⟩ = some y ∧ wr.cell? ⟨w.heap.size, 2, none⟩ = some z ∧ wr.cell? ⟨w4.heap.size, 0, none⟩ = some x' ∧ wr.cell? ⟨w4.heap.size, 1, none⟩ = some y' ∧ wr.cell? ⟨w4.heap.size, 2, none⟩ = some z' :=
  ⟨h.c3.1, h.c3.2.1, h.c3.2.2, k.c3.1, k.c3.2.1, k.c3.2.2⟩
/-- nothing was changed but blocks from B to T; new ones may have come -/
structure Mk (B T : Nat) (w w' : World) : Prop where
  below : ∀ n w0, n ≤ B → Below n w0 w → Below n w0 w'
  block : ∀ k, k < w.heap.size → ¬ (B ≤ k ∧ k < T) → w'.heap[k]? = w.heap[k]?
  size : w.heap.size ≤ w'.heap.size
theorem Mk.refl (B T : Nat) (w : World) : Mk B T w w := ⟨fun _ _ _ h => h, fun _ _ _ => rfl, Nat.le_refl _⟩
theorem Mk.wide {B T B' T' : Nat} {w w' : World} (h : Mk B T w w') (hB : B' ≤ B) (hT : T ≤ T') : Mk B' T' w w' :=
  ⟨fun n w0 hn hb => h.below n w0 (by omega) hb, fun k hk hn => h.block k hk (by omega), h.size⟩
theorem mk_only {g : Nat} {w w' : World} (h : Only g w w') : Mk g (g + 1) w w' :=
  ⟨fun n w0 hn hb => hb.trans ⟨h.os, h.tape, h.output, by rw [h.size]; exact Nat.le_refl _, fun k hk => h.block k (by omega)⟩, fun k _ hk => h.block k (by omega), by rw [h.size]; exact Nat.le_refl _⟩
theorem BxV.mkd {w wr w1 : World} {cs : Array Value} {T0 : TypeId} {B T : Nat} (h : BxV w wr cs T0) (m : Mk B T wr w1) (hB : w.heap.size < B ∨ T ≤ w.heap.size) : BxV w w1 cs T0 :=
  ⟨(m.block _ h.lt (by omega)).trans h.row⟩
/-- a list of one's own among the blocks from B to T, or an empty one -/
def OwnLs (B T : Nat) (w : World) (a : Option Addr) (n : Nat) (l : List Int) : Prop := l.length = n ∧ (l = [] ∨ ∃ g, a = some ⟨g, 0, none⟩ ∧ g < T ∧ OwnS B w g l)
theorem OwnLs.rowAt {B T : Nat} {w : World} {a : Option Addr} {n : Nat} {l : List Int} (h : OwnLs B T w a n l) : RowAt w a l := by
  rcases h.2 with h | ⟨g, ha, _, os⟩
  · exact .inl h
  · rw [ha]; exact os.rowAt
theorem OwnLs.blocks {B T : Nat} {w w1 : World} {a : Option Addr} {n : Nat} {l : List Int} (h : OwnLs B T w a n l) (hb : ∀ k, B ≤ k → k < T → k < w.heap.size → w1.heap[k]? = w.heap[k]?) : OwnLs B T w1 a n l := by
  refine ⟨h.1, ?_⟩
  rcases h.2 with h | ⟨g, ha, ht, os⟩
  · exact .inl h
  · exact .inr ⟨g, ha, ht, os.of_block (hb g os.lo ht os.lt)⟩
theorem OwnLs.keep {B T : Nat} {w w1 : World} {a : Option Addr} {n : Nat} {l : List Int} (h : OwnLs B T w a n l) (hb : Below w.heap.size w w1) : OwnLs B T w1 a n l := h.blocks (fun k _ _ hk => hb.block k hk)
theorem OwnLs.mkd {B T B' T' : Nat} {w w1 : World} {a : Option Addr} {n : Nat} {l : List Int} (h : OwnLs B T w a n l) (m : Mk B' T' w w1) (hd : T ≤ B' ∨ T' ≤ B) : OwnLs B T w1 a n l := h.blocks (fun k h1 h2 hk => m.block k hk (by omega))
theorem toIntS_own (a : Option Addr) (cap : Nat) (zs : List Int) (w : World) (hm : zs.length ≤ 1048576) (hr : RowAt w a zs) :
    Calls Tryz.prog 47 #[.slice a zs.length cap] w fun e w' => ∃ a', e = .returned (.slice a' zs.length zs.length) ∧ OwnLs w.heap.size w'.heap.size w' a' zs.length zs ∧ Below w.heap.size w w' := by
  refine (toIntS_any a cap zs w hm hr).mono ?_
  rintro e w1 ⟨rfl, ow⟩
  exact ⟨_, rfl, ⟨rfl, .inr ⟨_, rfl, ow.lt, (OwnZ.owns ow)⟩⟩, ow.bel⟩
theorem markIntS_own (B T cap : Nat) (a : Option Addr) (n : Nat) (zs : List Int) (k0 : Int) (w : World) (hm : n ≤ 1048576) (k1 : 0 ≤ k0) (k2 : k0 ≤ 1099511627776) (ho : OwnLs B T w a n zs) :
    Calls Tryz.prog 53 #[.slice a n cap, .int .i64 k0] w fun e w' => e = .returned (.int .i64 (k0 + (n : Int))) ∧ Mk B T w w' ∧ OwnLs B T w' a n (mrk k0 zs n) := by
  obtain ⟨rfl, ho⟩ := ho
  rcases ho with rfl | ⟨g, rfl, ht, os⟩
  · refine (markIntS_empty a cap k0 w).mono ?_
    rintro e w1 ⟨rfl, rfl⟩
    exact ⟨by simp, Mk.refl _ _ _, rfl, .inl rfl⟩
  · refine (markOwn_any B g cap zs k0 w hm k1 k2 os).mono ?_
    rintro e w1 ⟨rfl, os1, on⟩
    exact ⟨rfl, (mk_only on).wide os.lo (by omega), mrk_len (Nat.le_refl _), .inr ⟨g, rfl, ht, os1⟩⟩
theorem heldIntS_own (B T cap : Nat) (a : Option Addr) (n : Nat) (zs : List Int) (k0 : Int) (w : World) (hm : n ≤ 1048576) (hz : zs.length = n) (k1 : 0 ≤ k0) (k2 : k0 ≤ 1099511627776) (ho : OwnLs B T w a n (mrk k0 zs n)) :
    Calls Tryz.prog 54 #[.slice a n cap, .int .i64 k0] w fun e w' => e = .returned (.int .i64 (k0 + (n : Int))) ∧ Below w.heap.size w w' := by
  obtain ⟨h1, h2⟩ := mrk_at' (k0 := k0) hz
  have := heldIntS_any a cap (mrk k0 zs n) k0 w (by rw [h1]; exact hm) k1 k2 ho.rowAt h2
  rw [h1] at this
  refine this.mono ?_
  rintro e w1 ⟨rfl, rfl⟩
  exact ⟨rfl, Below.refl _ _⟩
theorem eqIntS_own (a a' : Option Addr) (cap cap' n : Nat) (l : List Int) (w : World) (hn : l.length = n) (hm : n ≤ 1048576) (hx : RowAt w a l) (hy : RowAt w a' l) :
    Calls Tryz.prog 50 #[.slice a n cap, .slice a' n cap'] w fun e w' => e = .returned (.bool true) ∧ Below w.heap.size w w' := by
  subst hn
  have := eqIntS_any a a' cap cap' l l w (by unfold maxLen; omega) hx hy
  have hs : sameB l l = true := decide_eq_true rfl
  rwa [hs] at this
theorem mk_below {B T : Nat} {w w' : World} (h : Below w.heap.size w w') (hB : B ≤ w.heap.size) : Mk B T w w' :=
  ⟨fun n w0 hn hb => hb.trans (h.mono (by omega)), fun k hk _ => h.block k hk, h.size⟩
theorem bne_self_bool (b : Bool) : (b != b) = false := by cases b <;> rfl
/-- a list that a call has answered in memory of its own -/
theorem ownLs_of {B T : Nat} {w : World} {g n : Nat} {l : List Int} (h : OwnS B w g l) (ht : w.heap.size ≤ T) (hn : l.length = n) : OwnLs B T w (some ⟨g, 0, none⟩) n l := ⟨hn, .inr ⟨g, rfl, Nat.lt_of_lt_of_le h.lt ht, h⟩⟩
theorem ownLs_nil (B T : Nat) (w : World) (a : Option Addr) : OwnLs B T w a 0 [] := ⟨rfl, .inl rfl⟩
set_option maxHeartbeats 800000 in
theorem equal_any (a a' : Option Addr) (cap cap' : Nat) (xs ys : List Int) (w : World) (hm : xs.length ≤ maxLen) (hx : RowAt w a xs) (hy : RowAt w a' ys) :
    Calls Tryz.prog 248 #[.slice a xs.length cap, .slice a' ys.length cap'] w fun e w' => e = .returned (.bool (sameB xs ys)) ∧ Below w.heap.size w w' := by
  unfold maxLen at hm
  have HX : Hid (RowAt w a xs) := hx
  have HY : Hid (RowAt w a' ys) := hy
  clear hx hy
  by_cases hl : xs.length = ys.length
  · have HL : Hid (xs.length = ys.length) := hl
    have hle : ((xs.length : Int) != (ys.length : Int)) = false := by simp [hl]
    clear hl
    go_enter Tryz.func248, Tryz.ntmps248
    go_wp2_with fail
    go_loopw [13] (fun vi wr => ∃ k : Nat, k ≤ xs.length ∧ vi = .int .i64 k ∧ xs.take k = ys.take k ∧ ∃ n, wr = w.drewN n) (fun vi _ => xs.length - (intOf vi).toNat)
    case atStart => exact ⟨0, Nat.zero_le _, rfl, rfl, 0, rfl⟩
    case round =>
      obtain ⟨k, hk, rfl, hs, n, rfl⟩ := hrel
      have HS : Hid (xs.take k = ys.take k) := hs
      clear hs
      by_cases hlt : k < xs.length
      · have hlt2 : k < ys.length := by have := HL.out; omega
        obtain ⟨bk, off, rfl⟩ := rowAt_form HX.out (by omega)
        obtain ⟨bk2, off2, rfl⟩ := rowAt_form HY.out (by omega)
        have hc1 := (rowAt_cell HX.out (by omega)).2 k hlt
        have hc2 := (rowAt_cell HY.out (by omega)).2 k hlt2
        by_cases he : xs.getD k 0 = ys.getD k 0
        · have ht : Hid (xs.take (k + 1) = ys.take (k + 1)) := same_take hlt hlt2 HS.out he
          have he' : (xs.getD k 0 != ys.getD k 0) = false := by rw [he]; simp
          generalize xs.getD k 0 = x at hc1 he'
          generalize ys.getD k 0 = y at hc2 he'
          clear he
          go_wp2
          go_quiet (fail)
          go_wp2
          go_roundw
          case rel => exact ⟨k + 1, by omega, by go_num, ht.out, _, rfl⟩
          case measure => simp [intOf]; omega
        · have hv : Hid (sameB xs ys = false) := sameB_no he
          have he' : (xs.getD k 0 != ys.getD k 0) = true := by simpa using he
          generalize xs.getD k 0 = x at hc1 he'
          generalize ys.getD k 0 = y at hc2 he'
          clear he
          go_wp2
          go_quiet (fail)
          go_wp2
          go_ret
          exact ⟨ret_bool hv.out.symm, by first | exact below_drewN (below_drewN (Below.refl _ _) _) _ | exact below_drewN (Below.refl _ _) _⟩
      · have hv : Hid (sameB xs ys = true) := sameB_yes HL.out hlt HS.out
        go_wp2
        go_ret
        exact ⟨ret_bool hv.out.symm, below_drewN (Below.refl _ _) _⟩
  · have hv : sameB xs ys = false := decide_eq_false (fun h => hl (by rw [h]))
    rw [hv]
    have hle : ((xs.length : Int) != (ys.length : Int)) = true := by simp; omega
    clear hl hv
    go_enter Tryz.func248, Tryz.ntmps248
    go_wp2
    go_ret
    exact ⟨rfl, Below.refl _ _⟩

/-- a slice of ints or bytes that came in: nil, or a row of 'cap' cells of which the first 'len' are its elements -/
def IsRow (k : IntKind) (w : World) (a : Option Addr) (len cap : Nat) (zs : List Int) : Prop :=
  (a = none ∧ len = 0 ∧ cap = 0 ∧ zs = []) ∨
  ∃ x, a = some x ∧ len ≤ cap ∧ cap ≤ maxLen ∧ zs.length = cap ∧ (∀ i, i < zs.length → w.cell? (x.add i) = some (.int k (zs.getD i 0))) ∧ ∀ n ∈ zs, (Lit.int k n).wf = true
theorem add_none' (b o j : Nat) : (⟨b, o, none⟩ : Addr).add j = ⟨b, o + j, none⟩ := by unfold Addr.add; split <;> simp_all
theorem isRow_rowAt {w : World} {a : Option Addr} {len cap : Nat} {zs : List Int} (h : IsRow .i64 w a len cap zs) : ∃ ys : List Int, ys.length = len ∧ len ≤ maxLen ∧ RowAt w a ys := by
  rcases h with ⟨rfl, rfl, rfl, rfl⟩ | ⟨⟨b, off, spot⟩, rfl, hl, hm, hz, hc, _⟩
  · exact ⟨[], rfl, Nat.zero_le _, .inl rfl⟩
  · by_cases h0 : len = 0
    · subst h0; exact ⟨[], rfl, Nat.zero_le _, .inl rfl⟩
    · have hc0 := hc 0 (by omega)
      have hs : spot = none := by simpa [Addr.add] using World.cell?_spot hc0
      subst hs
      refine ⟨zs.take len, by simp; omega, by omega, .inr ⟨b, off, rfl, by simpa [add_none'] using block_lt_of_cell hc0, fun i hi => ?_⟩⟩
      have hi' : i < len := by simp at hi; omega
      have := hc i (by omega)
      rw [add_none'] at this
      rw [this]
      simp [List.getD_eq_getElem?_getD, hi']
end Go.Proofs.YtdceimnapbblnaaGreat.Wire
namespace Go.Proofs.YtdceimnapbblnaaGreat.Wire
open Go.RowKit Go.ChangeShapes Go.WideShapes Go.Deep
set_option linter.unusedVariables false
/-- block g holds these cells -/
def Bk (w : World) (g : Nat) (C : Array Value) (T : TypeId) : Prop := w.heap[g]? = some (.cells C T (0, 0))
theorem Bk.lt {w : World} {g : Nat} {C : Array Value} {T : TypeId} (h : Bk w g C T) : g < w.heap.size := (Array.getElem?_eq_some_iff.1 h).1
theorem Bk.keepN {w w1 : World} {g n : Nat} {C : Array Value} {T : TypeId} (h : Bk w g C T) (hb : Below n w w1) (hg : g < n) : Bk w1 g C T := (hb.block g hg).trans h
theorem Bk.keep {w w1 : World} {g : Nat} {C : Array Value} {T : TypeId} (h : Bk w g C T) (hb : Below w.heap.size w w1) : Bk w1 g C T := h.keepN hb h.lt
theorem Bk.new (w : World) (C : Array Value) (T : TypeId) : Bk (w.alloc (.cells C T)) w.heap.size C T := heap_alloc_new _ _
theorem Bk.alloc {w : World} {g : Nat} {C : Array Value} {T : TypeId} (h : Bk w g C T) (o : Obj) : Bk (w.alloc o) g C T := h.keep ((Below.refl _ _).alloc (Nat.le_refl _) o)
theorem Bk.cell {w : World} {g : Nat} {C : Array Value} {T : TypeId} (h : Bk w g C T) (i : Nat) : w.cell? ⟨g, i, none⟩ = C[i]? := cell_of_row w _ _ _ _ _ h
theorem Bk.fr {w : World} {g : Nat} {C : Array Value} {T : TypeId} (h : Bk w g C T) (i : Nat) : w.frozen? ⟨g, i, none⟩ = false := frozen_of_row w _ _ _ _ h
theorem Bk.set {w : World} {g : Nat} {C : Array Value} {T : TypeId} (h : Bk w g C T) (i : Nat) (v : Value) : Bk (w.setCell ⟨g, i, none⟩ v) g (C.setIfInBounds i v) T := heap_setCell_same _ _ _ _ _ _ h
theorem Bk.oth {w : World} {g k : Nat} {C : Array Value} {T : TypeId} (h : Bk w g C T) (hk : ¬ g = k) (i : Nat) (v : Value) : Bk (w.setCell ⟨k, i, none⟩ v) g C T := (heap_setCell_other _ _ _ _ (by simpa using hk)).trans h
theorem Bk.c3 {w : World} {g : Nat} {a b c : Value} {T : TypeId} (h : Bk w g #[a, b, c] T) : w.cell? ⟨g, 0, none⟩ = some a ∧ w.cell? ⟨g, 1, none⟩ = some b ∧ w.cell? ⟨g, 2, none⟩ = some c := ⟨h.cell 0, h.cell 1, h.cell 2⟩
theorem Bk.c2 {w : World} {g : Nat} {a b : Value} {T : TypeId} (h : Bk w g #[a, b] T) : w.cell? ⟨g, 0, none⟩ = some a ∧ w.cell? ⟨g, 1, none⟩ = some b := ⟨h.cell 0, h.cell 1⟩
theorem Bk.c4 {w : World} {g : Nat} {a b c d : Value} {T : TypeId} (h : Bk w g #[a, b, c, d] T) : w.cell? ⟨g, 0, none⟩ = some a ∧ w.cell? ⟨g, 1, none⟩ = some b ∧ w.cell? ⟨g, 2, none⟩ = some c ∧ w.cell? ⟨g, 3, none⟩ = some d := ⟨h.cell 0, h.cell 1, h.cell 2, h.cell 3⟩
theorem Bk.f4 {w : World} {g : Nat} {C : Array Value} {T : TypeId} (h : Bk w g C T) : w.frozen? ⟨g, 0, none⟩ = false ∧ w.frozen? ⟨g, 1, none⟩ = false ∧ w.frozen? ⟨g, 2, none⟩ = false ∧ w.frozen? ⟨g, 3, none⟩ = false := ⟨h.fr 0, h.fr 1, h.fr 2, h.fr 3⟩
theorem Bk.c7 {w : World} {g : Nat} {a b c d e f k : Value} {T : TypeId} (h : Bk w g #[a, b, c, d, e, f, k] T) : w.cell? ⟨g, 0, none⟩ = some a ∧ w.cell? ⟨g, 1, none⟩ = some b ∧ w.cell? ⟨g, 2, none⟩ = some c ∧ w.cell? ⟨g, 3, none⟩ = some d ∧ w.cell? ⟨g, 4, none⟩ = some e ∧ w.cell? ⟨g, 5, none⟩ = some f ∧ w.cell? ⟨g, 6, none⟩ = some k := ⟨h.cell 0, h.cell 1, h.cell 2, h.cell 3, h.cell 4, h.cell 5, h.cell 6⟩
theorem Bk.f7 {w : World} {g : Nat} {C : Array Value} {T : TypeId} (h : Bk w g C T) : w.frozen? ⟨g, 0, none⟩ = false ∧ w.frozen? ⟨g, 1, none⟩ = false ∧ w.frozen? ⟨g, 2, none⟩ = false ∧ w.frozen? ⟨g, 3, none⟩ = false ∧ w.frozen? ⟨g, 4, none⟩ = false ∧ w.frozen? ⟨g, 5, none⟩ = false ∧ w.frozen? ⟨g, 6, none⟩ = false := ⟨h.fr 0, h.fr 1, h.fr 2, h.fr 3, h.fr 4, h.fr 5, h.fr 6⟩
theorem Bk.drew {w : World} {g : Nat} {C : Array Value} {T : TypeId} (h : Bk w g C T) : Bk w.drew g C T := h
/-- cells from i on are written, one by one -/
def setL (w : World) (g : Nat) : Nat → List Value → World
  | _, [] => w
  | i, v :: vs => setL (w.setCell ⟨g, i, none⟩ v) g (i + 1) vs
def ovr (C : Array Value) : Nat → List Value → Array Value
  | _, [] => C
  | i, v :: vs => ovr (C.setIfInBounds i v) (i + 1) vs
theorem Bk.setL {g : Nat} {T : TypeId} : ∀ (vs : List Value) {w : World} {C : Array Value} (i : Nat), Bk w g C T → Bk (setL w g i vs) g (ovr C i vs) T
  | [], _, _, _, h => h
  | v :: vs, _, _, i, h => Bk.setL vs (i + 1) (h.set i v)
theorem setL_oth {g k : Nat} (hk : ¬ k = g) : ∀ (vs : List Value) (w : World) (i : Nat), (setL w g i vs).heap[k]? = w.heap[k]?
  | [], _, _ => rfl
  | v :: vs, w, i => by
    unfold setL
    rw [setL_oth hk vs _ (i + 1), heap_setCell_other _ _ _ _ (by simpa using hk)]
theorem setL_size {g : Nat} : ∀ (vs : List Value) (w : World) (i : Nat), (setL w g i vs).heap.size = w.heap.size
  | [], _, _ => rfl
  | v :: vs, w, i => by
    unfold setL
    rw [setL_size vs _ (i + 1)]
    simp [World.setCell]
theorem setL_below {g n : Nat} {w0 : World} (hg : n ≤ g) : ∀ (vs : List Value) {w : World} (i : Nat), Below n w0 w → Below n w0 (setL w g i vs)
  | [], _, _, h => h
  | v :: vs, _, i, h => setL_below hg vs (i + 1) (h.setCell (p := ⟨g, i, none⟩) hg v)
theorem Bk.c9 {w : World} {g : Nat} {e0 e1 e2 e3 e4 e5 e6 e7 e8 : Value} {T : TypeId} (h : Bk w g #[e0, e1, e2, e3, e4, e5, e6, e7, e8] T) : w.cell? ⟨g, 0, none⟩ = some e0 ∧ w.cell? ⟨g, 1, none⟩ = some e1 ∧ w.cell? ⟨g, 2, none⟩ = some e2 ∧ w.cell? ⟨g, 3, none⟩ = some e3 ∧ w.cell? ⟨g, 4, none⟩ = some e4 ∧ w.cell? ⟨g, 5, none⟩ = some e5 ∧ w.cell? ⟨g, 6, none⟩ = some e6 ∧ w.cell? ⟨g, 7, none⟩ = some e7 ∧ w.cell? ⟨g, 8, none⟩ = some e8 := ⟨h.cell 0, h.cell 1, h.cell 2, h.cell 3, h.cell 4, h.cell 5, h.cell 6, h.cell 7, h.cell 8⟩
theorem Bk.f9 {w : World} {g : Nat} {C : Array Value} {T : TypeId} (h : Bk w g C T) : w.frozen? ⟨g, 0, none⟩ = false ∧ w.frozen? ⟨g, 1, none⟩ = false ∧ w.frozen? ⟨g, 2, none⟩ = false ∧ w.frozen? ⟨g, 3, none⟩ = false ∧ w.frozen? ⟨g, 4, none⟩ = false ∧ w.frozen? ⟨g, 5, none⟩ = false ∧ w.frozen? ⟨g, 6, none⟩ = false ∧ w.frozen? ⟨g, 7, none⟩ = false ∧ w.frozen? ⟨g, 8, none⟩ = false := ⟨h.fr 0, h.fr 1, h.fr 2, h.fr 3, h.fr 4, h.fr 5, h.fr 6, h.fr 7, h.fr 8⟩
theorem array9 {α : Type} {cs : Array α} (h : cs.size = 9) : ∃ c0 c1 c2 c3 c4 c5 c6 c7 c8, cs = #[c0, c1, c2, c3, c4, c5, c6, c7, c8] := by
  obtain ⟨l⟩ := cs
  match l, h with
  | [c0, c1, c2, c3, c4, c5, c6, c7, c8], _ => exact ⟨c0, c1, c2, c3, c4, c5, c6, c7, c8, rfl⟩
theorem list9 {α : Type} {l : List α} (h : l.length = 9) : ∃ c0 c1 c2 c3 c4 c5 c6 c7 c8, l = [c0, c1, c2, c3, c4, c5, c6, c7, c8] := by
  match l, h with
  | [c0, c1, c2, c3, c4, c5, c6, c7, c8], _ => exact ⟨c0, c1, c2, c3, c4, c5, c6, c7, c8, rfl⟩
theorem cellsM : Tryz.prog.cellsOf 200 = 9 := by kernel_rfl
section
variable {H : Type} {enc : TypeId × Value → H} {W : World} {base : Nat} {held : Bool}
theorem ints_row {fuel : Nat} {a : Option Addr} {n cap : Nat} {x : DataW H × List MemPlace} (h : DataW.trod enc Tryz.prog W base (fun _ => true) held fuel 30 [.slice a n cap] = some x) :
    ∃ ys : List Int, ys.length = n ∧ n ≤ maxLen ∧ (n ≤ cap ∧ (a = none → cap = 0)) ∧ RowAt W a ys := by
  rcases open_ints Tryz.underlying30 Tryz.underlying3 (by kernel_rfl) h with ⟨hcs, _⟩ | ⟨x, l, c, zs, hcs, _, hl, hm, hz, _, hcell, hwz⟩
  · simp at hcs
    obtain ⟨rfl, rfl, rfl⟩ := hcs
    exact ⟨[], rfl, Nat.zero_le _, ⟨Nat.zero_le _, fun _ => rfl⟩, .inl rfl⟩
  · simp at hcs
    obtain ⟨rfl, rfl, rfl⟩ := hcs
    obtain ⟨ys, h1, h2, h3⟩ := isRow_rowAt (w := W) (a := some x) (len := n) (cap := cap) (zs := zs) (.inr ⟨_, rfl, hl, hm, by simpa using hz, hcell, hwz⟩)
    exact ⟨ys, h1, h2, ⟨hl, fun h => by cases h⟩, h3⟩
theorem slice_of_trod {t e : TypeId} {fuel : Nat} {v : Value} {x : DataW H × List MemPlace} (ht : Tryz.prog.underlying t = some (.slice e)) (h : DataW.trod enc Tryz.prog W base (fun _ => true) held fuel t [v] = some x) : ∃ a n cap, v = .slice a n cap := by
  rcases open_slice ht h with ⟨hcs, _⟩ | ⟨a, l, c, _, _, _, _, hcs, _⟩
  · simp at hcs; exact ⟨_, _, _, hcs⟩
  · simp at hcs; exact ⟨_, _, _, hcs⟩
theorem cellsI : Tryz.prog.cellsOf 3 = 1 := by kernel_rfl
theorem cellsIs : Tryz.prog.cellsOf 30 = 1 := by kernel_rfl
set_option maxRecDepth 100000 in
/-- a message that came in: eight numbers and a list -/
theorem open_msg {b0 : Nat} {v : Value} {d : DataW H} {p : List MemPlace} (hv : Value.okWide Tryz.prog W .any b0 200 v) (h : DataW.Trod enc Tryz.prog W base (fun _ => true) held 200 v d p) :
    ∃ y0 y1 y2 y3 y4 y5 y6 y7 : Int, ∃ (a : Option Addr) (cap : Nat) (zs : List Int), v = .agg #[.int .i64 y0, .int .i64 y1, .int .i64 y2, .int .i64 y3, .int .i64 y4, .int .i64 y5, .int .i64 y6, .int .i64 y7, .slice a zs.length cap] ∧ zs.length ≤ maxLen ∧ RowAt W a zs := by
  obtain ⟨cs, rfl, hsz⟩ := okWide_struct Tryz.underlying200 hv
  obtain ⟨c0, c1, c2, c3, c4, c5, c6, c7, c8, rfl⟩ := array9 (hsz.trans cellsM)
  obtain ⟨fuel, hf⟩ := h
  obtain ⟨xs, n, _, _, hl, hlen, hf⟩ := DataW.trod_struct Tryz.underlying200 hf
  obtain ⟨x0, x1, x2, x3, x4, x5, x6, x7, x8, rfl⟩ := list9 (l := xs) hlen
  have g0 := hf 0 _ rfl
  have g1 := hf 1 _ rfl
  have g2 := hf 2 _ rfl
  have g3 := hf 3 _ rfl
  have g4 := hf 4 _ rfl
  have g5 := hf 5 _ rfl
  have g6 := hf 6 _ rfl
  have g7 := hf 7 _ rfl
  have g8 := hf 8 _ rfl
  simp [Value.cells, cellsI, cellsIs] at g0 g1 g2 g3 g4 g5 g6 g7 g8
  obtain ⟨a0, e0, _, _⟩ := DataW.trod_int Tryz.underlying3 g0
  obtain ⟨a1, e1, _, _⟩ := DataW.trod_int Tryz.underlying3 g1
  obtain ⟨a2, e2, _, _⟩ := DataW.trod_int Tryz.underlying3 g2
  obtain ⟨a3, e3, _, _⟩ := DataW.trod_int Tryz.underlying3 g3
  obtain ⟨a4, e4, _, _⟩ := DataW.trod_int Tryz.underlying3 g4
  obtain ⟨a5, e5, _, _⟩ := DataW.trod_int Tryz.underlying3 g5
  obtain ⟨a6, e6, _, _⟩ := DataW.trod_int Tryz.underlying3 g6
  obtain ⟨a7, e7, _, _⟩ := DataW.trod_int Tryz.underlying3 g7
  simp at e0 e1 e2 e3 e4 e5 e6 e7
  subst e0 e1 e2 e3 e4 e5 e6 e7
  obtain ⟨ab, nb, cb, rfl⟩ := slice_of_trod Tryz.underlying30 g8
  obtain ⟨ys, rfl, hm, hc, hr⟩ := ints_row g8
  exact ⟨a0, a1, a2, a3, a4, a5, a6, a7, ab, cb, ys, rfl, hm, hr⟩
end
theorem OwnLs.wide {B T B' T' : Nat} {w : World} {a : Option Addr} {n : Nat} {l : List Int} (h : OwnLs B T w a n l) (hB : B' ≤ B) (hT : T ≤ T') : OwnLs B' T' w a n l := by
  refine ⟨h.1, ?_⟩
  rcases h.2 with h | ⟨g, ha, ht, os⟩
  · exact .inl h
  · exact .inr ⟨g, ha, by omega, os.mono hB⟩
theorem ovr9 (z0 z1 z2 z3 z4 z5 z6 z7 z8 v0 v1 v2 v3 v4 v5 v6 v7 v8 : Value) : ovr #[z0, z1, z2, z3, z4, z5, z6, z7, z8] 0 [v0, v1, v2, v3, v4, v5, v6, v7, v8] = #[v0, v1, v2, v3, v4, v5, v6, v7, v8] := by simp [ovr]
def szl (k : Int) (n : Nat) : Int := if k < n then -1 else k - n
theorem szl_lo {k : Int} {n : Nat} (h : k < n) : szl k n = -1 := if_pos h
theorem szl_hi {k : Int} {n : Nat} (h : ¬ k < n) : szl k n = k - n := if_neg h
theorem szIntS_any (a : Option Addr) (cap n : Nat) (k : Int) (w : World) (hm : n ≤ maxLen) (h1 : 0 ≤ k) (h2 : k ≤ 1048576) :
    Calls Tryz.prog 104 #[.slice a n cap, .int .i64 k] w fun e w' => e = .returned (.int .i64 (szl k n)) ∧ w' = w := by
  unfold maxLen at hm
  by_cases h : k < n
  · have h3 : k - n < 0 := by omega
    go_enter Tryz.func104, Tryz.ntmps104
    go_wp2
    go_ret
    exact ⟨ret_int (szl_lo h).symm, rfl⟩
  · have h3 : ¬ k - n < 0 := by omega
    go_enter Tryz.func104, Tryz.ntmps104
    go_wp2
    go_ret
    exact ⟨ret_int (szl_hi (by omega)).symm, rfl⟩
theorem szMsg_any (x0 x1 x2 x3 x4 x5 x6 x7 : Int) (a : Option Addr) (cap n : Nat) (k : Int) (w : World) (hm : n ≤ maxLen) (h1 : 0 ≤ k) (h2 : k ≤ 1048576) :
    Calls Tryz.prog 161 #[.agg #[.int .i64 x0, .int .i64 x1, .int .i64 x2, .int .i64 x3, .int .i64 x4, .int .i64 x5, .int .i64 x6, .int .i64 x7, .slice a n cap], .int .i64 k] w fun e w' => e = .returned (.int .i64 (szl k n)) ∧ Below w.heap.size w w' := by
  by_cases h : k < n
  · have h3 : Hid (szl k n = -1) := szl_lo h
    clear h
    go_enter Tryz.func161, Tryz.ntmps161
    go_wp2_with (go_at_call 104; refine (szIntS_any _ _ _ _ _ hm h1 h2).mono ?_; rintro e w' ⟨rfl, rfl⟩; rw [h3.out])
    go_ret
    exact ⟨ret_int h3.out.symm, (Below.refl _ _).alloc (Nat.le_refl _) _⟩
  · have h3 : Hid (szl k n = k - n) := szl_hi h
    have h4 : ¬ k - n < 0 := by omega
    clear h
    go_enter Tryz.func161, Tryz.ntmps161
    go_wp2_with (go_at_call 104; refine (szIntS_any _ _ _ _ _ hm h1 h2).mono ?_; rintro e w' ⟨rfl, rfl⟩; rw [h3.out])
    go_ret
    exact ⟨ret_int h3.out.symm, (Below.refl _ _).alloc (Nat.le_refl _) _⟩
theorem bk3 {w w1 : World} {A B C : Array Value} {S T U : TypeId} (hb : Below (((w.alloc (.cells A S)).alloc (.cells B T)).alloc (.cells C U)).heap.size (((w.alloc (.cells A S)).alloc (.cells B T)).alloc (.cells C U)) w1) :
    Bk w1 w.heap.size A S ∧ Bk w1 (w.heap.size + 1) B T ∧ Bk w1 (w.heap.size + 1 + 1) C U ∧ Below w.heap.size w w1 := by
  have h1 := (((Bk.new w A S).alloc (.cells B T)).alloc (.cells C U)).keep hb
  have h2 := ((Bk.new (w.alloc (.cells A S)) B T).alloc (.cells C U)).keep hb
  have h3 := (Bk.new ((w.alloc (.cells A S)).alloc (.cells B T)) C U).keep hb
  simp only [World.size_alloc] at h2 h3
  exact ⟨h1, h2, h3, (((( Below.refl _ _).alloc (Nat.le_refl _) _).alloc (by simp) _).alloc (by simp; try omega) _).trans (hb.mono (by simp; try omega))⟩
theorem bkAB {w w1 : World} {A B : Array Value} {S T : TypeId} (hb : Below ((w.alloc (.cells A S)).alloc (.cells B T)).heap.size ((w.alloc (.cells A S)).alloc (.cells B T)) w1) :
    Bk w1 w.heap.size A S ∧ Bk w1 (w.heap.size + 1) B T ∧ Below w.heap.size w w1 := by
  have h1 := ((Bk.new w A S).alloc (.cells B T)).keep hb
  have h2 := (Bk.new (w.alloc (.cells A S)) B T).keep hb
  simp only [World.size_alloc] at h2
  exact ⟨h1, h2, ((( Below.refl _ _).alloc (Nat.le_refl _) _).alloc (by simp) _).trans (hb.mono (by simp; try omega))⟩
theorem to_end {w w1 : World} {a : Option Addr} {n : Nat} {l : List Int} {R : Array Value} {T : TypeId} (h : Bk w1 (w.heap.size + 1) R T) (hb : Below w.heap.size w w1) (o : OwnLs (w.heap.size + 1 + 1 + 1) w1.heap.size w1 a n l) (v : Value) (vs : List Value) (i : Nat) :
    Bk (setL (w1.setCell ⟨w.heap.size + 1 + 1, i, none⟩ v) (w.heap.size + 1) 0 vs) (w.heap.size + 1) (ovr R 0 vs) T ∧
    OwnLs w.heap.size (setL (w1.setCell ⟨w.heap.size + 1 + 1, i, none⟩ v) (w.heap.size + 1) 0 vs).heap.size (setL (w1.setCell ⟨w.heap.size + 1 + 1, i, none⟩ v) (w.heap.size + 1) 0 vs) a n l ∧
    Below w.heap.size w (setL (w1.setCell ⟨w.heap.size + 1 + 1, i, none⟩ v) (w.heap.size + 1) 0 vs) := by
  refine ⟨(h.oth (by omega) i v).setL vs 0, ?_, setL_below (by omega) vs 0 (hb.setCell (p := ⟨w.heap.size + 1 + 1, i, none⟩) (by simp; try omega) v)⟩
  have hs : (setL (w1.setCell ⟨w.heap.size + 1 + 1, i, none⟩ v) (w.heap.size + 1) 0 vs).heap.size = w1.heap.size := by rw [setL_size]; simp [World.setCell]
  rw [hs]
  refine (o.blocks (fun k h1 h2 h3 => ?_)).wide (by omega) (Nat.le_refl _)
  rw [setL_oth (by omega), heap_setCell_other _ _ _ _ (by simp; omega)]
set_option maxRecDepth 100000 in
set_option maxHeartbeats 1600000 in
theorem toMsg_any (x0 x1 x2 x3 x4 x5 x6 x7 : Int) (a : Option Addr) (cap n : Nat) (zs : List Int) (w : World) (hn : zs.length = n) (hm : n ≤ 1048576) (hr : RowAt w a zs) :
    Calls Tryz.prog 162 #[.agg #[.int .i64 x0, .int .i64 x1, .int .i64 x2, .int .i64 x3, .int .i64 x4, .int .i64 x5, .int .i64 x6, .int .i64 x7, .slice a n cap]] w fun e w' => ∃ a', e = .returned (.agg #[.int .i64 x0, .int .i64 x1, .int .i64 x2, .int .i64 x3, .int .i64 x4, .int .i64 x5, .int .i64 x6, .int .i64 x7, .slice a' n n]) ∧ OwnLs w.heap.size w'.heap.size w' a' n zs ∧ Below w.heap.size w w' := by
  subst hn
  have HR : Hid (RowAt w a zs) := hr
  clear hr
  go_enter Tryz.func162, Tryz.ntmps162
  go_wp2_with fail
  refine (toIntS_own a cap zs _ hm (HR.out.keep (((( Below.refl _ _).alloc (Nat.le_refl _) _).alloc (by simp) _).alloc (by simp; try omega) _))).mono ?_
  rintro e w1 ⟨a', rfl, ow, hw⟩
  obtain ⟨RB, RR, RO, HB⟩ := bk3 hw
  have OW : Hid (OwnLs (w.heap.size + 1 + 1 + 1) w1.heap.size w1 a' zs.length zs) := ow.wide (by simp) (Nat.le_refl _)
  have l2 := RO.lt
  obtain ⟨q0, q1, q2, q3, q4, q5, q6, q7, q8⟩ := RO.c9
  obtain ⟨p0, p1, p2, p3, p4, p5, p6, p7, p8⟩ := RO.f9
  obtain ⟨t0, t1, t2, t3, t4, t5, t6, t7, t8⟩ := RR.f9
  obtain ⟨r0, r1, r2, r3, r4, r5, r6, r7, r8⟩ := RR.c9
  have HRO : Hid (Bk w1 (w.heap.size + 1 + 1) _ _) := RO
  have HRR : Hid (Bk w1 (w.heap.size + 1) _ _) := RR
  have HBB : Hid (Below w.heap.size w w1) := HB
  clear RB RR RO HB hw ow
  go_wp2
  obtain ⟨E1, E2, E3⟩ := to_end HRR.out HBB.out OW.out (.slice a' zs.length zs.length) [.int .i64 x0, .int .i64 x1, .int .i64 x2, .int .i64 x3, .int .i64 x4, .int .i64 x5, .int .i64 x6, .int .i64 x7, .slice a' zs.length zs.length] 8
  rw [ovr9] at E1
  refine bodyPost_ret (results_cell_row Tryz.results162 _ _ (w.heap.size + 1) _ _ _ _ rfl E1 Tryz.underlying102 rfl (by kernel_rfl)) rfl ⟨a', rfl, E2, E3⟩
end Go.Proofs.YtdceimnapbblnaaGreat.Wire
namespace Go.Proofs.YtdceimnapbblnaaGreat.Wire
open Go.RowKit
set_option linter.unusedVariables false
def hdB (x0 x1 x2 x3 x4 x5 x6 x7 y0 y1 y2 y3 y4 y5 y6 y7 : Int) : Bool := decide (x0 = y0 ∧ x1 = y1 ∧ x2 = y2 ∧ x3 = y3 ∧ x4 = y4 ∧ x5 = y5 ∧ x6 = y6 ∧ x7 = y7)
theorem hdB_yes (x0 x1 x2 x3 x4 x5 x6 x7 : Int) : hdB x0 x1 x2 x3 x4 x5 x6 x7 x0 x1 x2 x3 x4 x5 x6 x7 = true := decide_eq_true ⟨rfl, rfl, rfl, rfl, rfl, rfl, rfl, rfl⟩
theorem hdB_true {x0 x1 x2 x3 x4 x5 x6 x7 y0 y1 y2 y3 y4 y5 y6 y7 : Int} (h : hdB x0 x1 x2 x3 x4 x5 x6 x7 y0 y1 y2 y3 y4 y5 y6 y7 = true) : x0 = y0 ∧ x1 = y1 ∧ x2 = y2 ∧ x3 = y3 ∧ x4 = y4 ∧ x5 = y5 ∧ x6 = y6 ∧ x7 = y7 := of_decide_eq_true h
theorem hdB_no0 {x0 x1 x2 x3 x4 x5 x6 x7 y0 y1 y2 y3 y4 y5 y6 y7 : Int} (b : Bool) (h : ¬ x0 = y0) : (hdB x0 x1 x2 x3 x4 x5 x6 x7 y0 y1 y2 y3 y4 y5 y6 y7 && b) = false := by rw [show hdB x0 x1 x2 x3 x4 x5 x6 x7 y0 y1 y2 y3 y4 y5 y6 y7 = false from decide_eq_false (fun k => h k.1)]; rfl
theorem hdB_no1 {x0 x1 x2 x3 x4 x5 x6 x7 y0 y1 y2 y3 y4 y5 y6 y7 : Int} (b : Bool) (h : ¬ x1 = y1) : (hdB x0 x1 x2 x3 x4 x5 x6 x7 y0 y1 y2 y3 y4 y5 y6 y7 && b) = false := by rw [show hdB x0 x1 x2 x3 x4 x5 x6 x7 y0 y1 y2 y3 y4 y5 y6 y7 = false from decide_eq_false (fun k => h k.2.1)]; rfl
theorem hdB_no2 {x0 x1 x2 x3 x4 x5 x6 x7 y0 y1 y2 y3 y4 y5 y6 y7 : Int} (b : Bool) (h : ¬ x2 = y2) : (hdB x0 x1 x2 x3 x4 x5 x6 x7 y0 y1 y2 y3 y4 y5 y6 y7 && b) = false := by rw [show hdB x0 x1 x2 x3 x4 x5 x6 x7 y0 y1 y2 y3 y4 y5 y6 y7 = false from decide_eq_false (fun k => h k.2.2.1)]; rfl
theorem hdB_no3 {x0 x1 x2 x3 x4 x5 x6 x7 y0 y1 y2 y3 y4 y5 y6 y7 : Int} (b : Bool) (h : ¬ x3 = y3) : (hdB x0 x1 x2 x3 x4 x5 x6 x7 y0 y1 y2 y3 y4 y5 y6 y7 && b) = false := by rw [show hdB x0 x1 x2 x3 x4 x5 x6 x7 y0 y1 y2 y3 y4 y5 y6 y7 = false from decide_eq_false (fun k => h k.2.2.2.1)]; rfl
theorem hdB_no4 {x0 x1 x2 x3 x4 x5 x6 x7 y0 y1 y2 y3 y4 y5 y6 y7 : Int} (b : Bool) (h : ¬ x4 = y4) : (hdB x0 x1 x2 x3 x4 x5 x6 x7 y0 y1 y2 y3 y4 y5 y6 y7 && b) = false := by rw [show hdB x0 x1 x2 x3 x4 x5 x6 x7 y0 y1 y2 y3 y4 y5 y6 y7 = false from decide_eq_false (fun k => h k.2.2.2.2.1)]; rfl
theorem hdB_no5 {x0 x1 x2 x3 x4 x5 x6 x7 y0 y1 y2 y3 y4 y5 y6 y7 : Int} (b : Bool) (h : ¬ x5 = y5) : (hdB x0 x1 x2 x3 x4 x5 x6 x7 y0 y1 y2 y3 y4 y5 y6 y7 && b) = false := by rw [show hdB x0 x1 x2 x3 x4 x5 x6 x7 y0 y1 y2 y3 y4 y5 y6 y7 = false from decide_eq_false (fun k => h k.2.2.2.2.2.1)]; rfl
theorem hdB_no6 {x0 x1 x2 x3 x4 x5 x6 x7 y0 y1 y2 y3 y4 y5 y6 y7 : Int} (b : Bool) (h : ¬ x6 = y6) : (hdB x0 x1 x2 x3 x4 x5 x6 x7 y0 y1 y2 y3 y4 y5 y6 y7 && b) = false := by rw [show hdB x0 x1 x2 x3 x4 x5 x6 x7 y0 y1 y2 y3 y4 y5 y6 y7 = false from decide_eq_false (fun k => h k.2.2.2.2.2.2.1)]; rfl
theorem hdB_no7 {x0 x1 x2 x3 x4 x5 x6 x7 y0 y1 y2 y3 y4 y5 y6 y7 : Int} (b : Bool) (h : ¬ x7 = y7) : (hdB x0 x1 x2 x3 x4 x5 x6 x7 y0 y1 y2 y3 y4 y5 y6 y7 && b) = false := by rw [show hdB x0 x1 x2 x3 x4 x5 x6 x7 y0 y1 y2 y3 y4 y5 y6 y7 = false from decide_eq_false (fun k => h k.2.2.2.2.2.2.2)]; rfl
set_option maxHeartbeats 1600000 in
theorem SameMsg_any (x0 x1 x2 x3 x4 x5 x6 x7 y0 y1 y2 y3 y4 y5 y6 y7 : Int) (a a' : Option Addr) (cap cap' n n' : Nat) (l l' : List Int) (w : World) (hn : l.length = n) (hn' : l'.length = n') (hm : n ≤ maxLen) (hx : RowAt w a l) (hy : RowAt w a' l') :
    Calls Tryz.prog 212 #[.agg #[.int .i64 x0, .int .i64 x1, .int .i64 x2, .int .i64 x3, .int .i64 x4, .int .i64 x5, .int .i64 x6, .int .i64 x7, .slice a n cap], .agg #[.int .i64 y0, .int .i64 y1, .int .i64 y2, .int .i64 y3, .int .i64 y4, .int .i64 y5, .int .i64 y6, .int .i64 y7, .slice a' n' cap']] w fun e w' => e = .returned (.bool (hdB x0 x1 x2 x3 x4 x5 x6 x7 y0 y1 y2 y3 y4 y5 y6 y7 && sameB l l')) ∧ Below w.heap.size w w' := by
  subst hn hn'
  have HX : Hid (RowAt w a l) := hx
  have HY : Hid (RowAt w a' l') := hy
  clear hx hy
  by_cases h0 : x0 = y0
  · subst h0
    by_cases h1 : x1 = y1
    · subst h1
      by_cases h2 : x2 = y2
      · subst h2
        by_cases h3 : x3 = y3
        · subst h3
          by_cases h4 : x4 = y4
          · subst h4
            by_cases h5 : x5 = y5
            · subst h5
              by_cases h6 : x6 = y6
              · subst h6
                by_cases h7 : x7 = y7
                · subst h7
                  obtain ⟨sb, hsb⟩ : ∃ z, Hid (sameB l l' = z) := ⟨_, rfl⟩
                  have HV : Hid ((hdB x0 x1 x2 x3 x4 x5 x6 x7 x0 x1 x2 x3 x4 x5 x6 x7 && sameB l l') = sb) := by unfold Hid; rw [hdB_yes, hsb.out]; rfl
                  go_enter Tryz.func212, Tryz.ntmps212
                  go_wp2_with (go_at_call 248; refine (equal_any a a' cap cap' l l' _ hm (HX.out.keep (((Below.refl _ _).alloc (Nat.le_refl _) _).alloc (by simp) _)) (HY.out.keep (((Below.refl _ _).alloc (Nat.le_refl _) _).alloc (by simp) _))).mono ?_; rintro e w1 ⟨rfl, hw⟩; rw [hsb.out])
                  all_goals go_ret
                  all_goals exact ⟨ret_bool HV.out.symm, bel2 hw (by simp; try omega)⟩
                · have HV : Hid ((hdB x0 x1 x2 x3 x4 x5 x6 x7 x0 x1 x2 x3 x4 x5 x6 y7 && sameB l l') = false) := hdB_no7 _ h7
                  have g : (x7 == y7) = false := beq_eq_false_iff_ne.2 h7
                  clear h7
                  go_enter Tryz.func212, Tryz.ntmps212
                  go_wp2
                  go_ret
                  exact ⟨ret_bool HV.out.symm, ((Below.refl _ _).alloc (Nat.le_refl _) _).alloc (by simp) _⟩
              · have HV : Hid ((hdB x0 x1 x2 x3 x4 x5 x6 x7 x0 x1 x2 x3 x4 x5 y6 y7 && sameB l l') = false) := hdB_no6 _ h6
                have g : (x6 == y6) = false := beq_eq_false_iff_ne.2 h6
                clear h6
                go_enter Tryz.func212, Tryz.ntmps212
                go_wp2
                go_ret
                exact ⟨ret_bool HV.out.symm, ((Below.refl _ _).alloc (Nat.le_refl _) _).alloc (by simp) _⟩
            · have HV : Hid ((hdB x0 x1 x2 x3 x4 x5 x6 x7 x0 x1 x2 x3 x4 y5 y6 y7 && sameB l l') = false) := hdB_no5 _ h5
              have g : (x5 == y5) = false := beq_eq_false_iff_ne.2 h5
              clear h5
              go_enter Tryz.func212, Tryz.ntmps212
              go_wp2
              go_ret
              exact ⟨ret_bool HV.out.symm, ((Below.refl _ _).alloc (Nat.le_refl _) _).alloc (by simp) _⟩
          · have HV : Hid ((hdB x0 x1 x2 x3 x4 x5 x6 x7 x0 x1 x2 x3 y4 y5 y6 y7 && sameB l l') = false) := hdB_no4 _ h4
            have g : (x4 == y4) = false := beq_eq_false_iff_ne.2 h4
            clear h4
            go_enter Tryz.func212, Tryz.ntmps212
            go_wp2
            go_ret
            exact ⟨ret_bool HV.out.symm, ((Below.refl _ _).alloc (Nat.le_refl _) _).alloc (by simp) _⟩
        · have HV : Hid ((hdB x0 x1 x2 x3 x4 x5 x6 x7 x0 x1 x2 y3 y4 y5 y6 y7 && sameB l l') = false) := hdB_no3 _ h3
          have g : (x3 == y3) = false := beq_eq_false_iff_ne.2 h3
          clear h3
          go_enter Tryz.func212, Tryz.ntmps212
          go_wp2
          go_ret
          exact ⟨ret_bool HV.out.symm, ((Below.refl _ _).alloc (Nat.le_refl _) _).alloc (by simp) _⟩
      · have HV : Hid ((hdB x0 x1 x2 x3 x4 x5 x6 x7 x0 x1 y2 y3 y4 y5 y6 y7 && sameB l l') = false) := hdB_no2 _ h2
        have g : (x2 == y2) = false := beq_eq_false_iff_ne.2 h2
        clear h2
        go_enter Tryz.func212, Tryz.ntmps212
        go_wp2
        go_ret
        exact ⟨ret_bool HV.out.symm, ((Below.refl _ _).alloc (Nat.le_refl _) _).alloc (by simp) _⟩
    · have HV : Hid ((hdB x0 x1 x2 x3 x4 x5 x6 x7 x0 y1 y2 y3 y4 y5 y6 y7 && sameB l l') = false) := hdB_no1 _ h1
      have g : (x1 == y1) = false := beq_eq_false_iff_ne.2 h1
      clear h1
      go_enter Tryz.func212, Tryz.ntmps212
      go_wp2
      go_ret
      exact ⟨ret_bool HV.out.symm, ((Below.refl _ _).alloc (Nat.le_refl _) _).alloc (by simp) _⟩
  · have HV : Hid ((hdB x0 x1 x2 x3 x4 x5 x6 x7 y0 y1 y2 y3 y4 y5 y6 y7 && sameB l l') = false) := hdB_no0 _ h0
    have g : (x0 == y0) = false := beq_eq_false_iff_ne.2 h0
    clear h0
    go_enter Tryz.func212, Tryz.ntmps212
    go_wp2
    go_ret
    exact ⟨ret_bool HV.out.symm, ((Below.refl _ _).alloc (Nat.le_refl _) _).alloc (by simp) _⟩
set_option maxHeartbeats 1600000 in
theorem eqMsg_own (x0 x1 x2 x3 x4 x5 x6 x7 : Int) (a a' : Option Addr) (cap cap' n : Nat) (l : List Int) (w : World) (hn : l.length = n) (hm : n ≤ 1048576) (hx : RowAt w a l) (hy : RowAt w a' l) :
    Calls Tryz.prog 164 #[.agg #[.int .i64 x0, .int .i64 x1, .int .i64 x2, .int .i64 x3, .int .i64 x4, .int .i64 x5, .int .i64 x6, .int .i64 x7, .slice a n cap], .agg #[.int .i64 x0, .int .i64 x1, .int .i64 x2, .int .i64 x3, .int .i64 x4, .int .i64 x5, .int .i64 x6, .int .i64 x7, .slice a' n cap']] w fun e w' => e = .returned (.bool true) ∧ Below w.heap.size w w' := by
  have HX : Hid (RowAt w a l) := hx
  have HY : Hid (RowAt w a' l) := hy
  clear hx hy
  go_enter Tryz.func164, Tryz.ntmps164
  go_wp2_with (go_at_call 50; refine (eqIntS_own a a' cap cap' n l _ hn hm (HX.out.keep (((Below.refl _ _).alloc (Nat.le_refl _) _).alloc (by simp) _)) (HY.out.keep (((Below.refl _ _).alloc (Nat.le_refl _) _).alloc (by simp) _))).mono ?_; rintro e w1 ⟨rfl, hw⟩)
  go_ret
  exact ⟨rfl, bel2 hw (by simp; try omega)⟩
end Go.Proofs.YtdceimnapbblnaaGreat.Wire
namespace Go.Proofs.YtdceimnapbblnaaGreat
open Go.RowKit
set_option linter.unusedVariables false
set_option linter.unusedSimpArgs false
/-- one message, from a cell on -/
theorem msAt_cell {w : World} {bk off : Nat} {ms : List Mg} (h : LsAt tyMg w (some ⟨bk, off, none⟩) ms) {i : Nat} (hi : i < ms.length) : bk < w.heap.size ∧ ∃ a c, CellsAt w bk (off + i * 9) (mgV (ms.getD i mg0) (.slice a (ms.getD i mg0).l.length c)) ∧ RowAt w a (ms.getD i mg0).l ∧ (ms.getD i mg0).l.length ≤ maxLen ∧ (ms.getD i mg0).l.length ≤ c ∧ (a = none → c = 0) := by
  obtain ⟨h1, ci, h2, a, c, rfl, h3⟩ := lsAt_cell h hi
  exact ⟨h1, a, c, h2, h3⟩
theorem rsAt_cell {w : World} {bk off : Nat} {ms : List Rp} (h : LsAt tyRp w (some ⟨bk, off, none⟩) ms) {i : Nat} (hi : i < ms.length) : bk < w.heap.size ∧ CellsAt w bk (off + i * 5) (rpV (ms.getD i rp0)) := by
  obtain ⟨h1, ci, h2, rfl⟩ := lsAt_cell h hi
  exact ⟨h1, h2⟩
def lsum (ms : List Mg) : Nat := sumL (fun m => m.l.length) ms
theorem lsum_take {ms : List Mg} {k : Nat} (h : k < ms.length) : lsum (ms.take (k + 1)) = lsum (ms.take k) + (ms.getD k mg0).l.length := sumL_take _ mg0 h
theorem lsum_mem {ms : List Mg} {k : Nat} (h : k < ms.length) : (ms.getD k mg0).l.length ≤ lsum ms := sumL_mem (fun m : Mg => m.l.length) mg0 h
theorem lsum_le (ms : List Mg) (i : Nat) : lsum (ms.take i) ≤ lsum ms := sumL_le _ ms i
theorem szMsg_if (x0 x1 x2 x3 x4 x5 x6 x7 : Int) (a : Option Addr) (n cap : Nat) (k : Int) (w : World) (hm : n ≤ maxLen) (h1 : 0 ≤ k) (h2 : k ≤ 1048576) :
    Calls Tryz.prog 161 #[.agg #[.int .i64 x0, .int .i64 x1, .int .i64 x2, .int .i64 x3, .int .i64 x4, .int .i64 x5, .int .i64 x6, .int .i64 x7, .slice a n cap], .int .i64 k] w fun e w' => e = .returned (.int .i64 (if k - (n : Int) < 0 then -1 else k - (n : Int))) ∧ Below w.heap.size w w' := by
  refine (Wire.szMsg_any x0 x1 x2 x3 x4 x5 x6 x7 a cap n k w hm h1 h2).mono ?_
  rintro e w1 ⟨rfl, hw⟩
  refine ⟨?_, hw⟩
  unfold Wire.szl
  by_cases h : k < (n : Int)
  · rw [if_pos h, if_pos (by omega)]
  · rw [if_neg h, if_neg (by omega)]
set_option maxHeartbeats 1600000 in
theorem szMsgS_any (a : Option Addr) (cap : Nat) (ms : List Mg) (l0 : Int) (w : World) (hm : ms.length ≤ maxLen) (p1 : 0 ≤ l0) (p2 : l0 ≤ 1048576) (hr : LsAt tyMg w a ms) :
    Calls Tryz.prog 103 #[.slice a ms.length cap, .int .i64 l0] w fun e w' => ∃ v : Int, e = .returned (.int .i64 v) ∧ (v < 0 ∨ (0 ≤ v ∧ ms.length + lsum ms ≤ 1048576)) ∧ -1 ≤ v ∧ v ≤ 1048576 ∧ Below w.heap.size w w' := by
  unfold maxLen at hm
  have HR : Hid (LsAt tyMg w a ms) := hr
  clear hr
  by_cases hbig : l0 - (ms.length : Int) < 0
  · go_enter Tryz.func103, Tryz.ntmps103
    go_wp2
    go_ret
    exact ⟨-1, rfl, .inl (by omega), by omega, by omega, Below.refl _ _⟩
  · have hz : ms.length ≤ 1048576 := by omega
    go_enter Tryz.func103, Tryz.ntmps103
    go_wp2_with fail
    go_loopw [1, 5] (fun vl vi wr => ∃ (k : Nat) (l : Int), k ≤ ms.length ∧ vi = .int .i64 k ∧ vl = .int .i64 l ∧ 0 ≤ l ∧ l = l0 - (ms.length : Int) - (lsum (ms.take k) : Int) ∧ Below w.heap.size w wr) (fun _ vi _ => ms.length - (intOf vi).toNat)
    case atStart => exact ⟨0, _, Nat.zero_le _, rfl, rfl, by omega, by simp [lsum, sumL], Below.refl _ _⟩
    case round =>
      obtain ⟨k, l, hk, rfl, rfl, l1, hl, hbel⟩ := hrel
      have HL : Hid (l = l0 - (ms.length : Int) - (lsum (ms.take k) : Int)) := hl
      have l2 : l ≤ 1048576 := by omega
      clear hl
      by_cases hlt : k < ms.length
      · obtain ⟨bk, off, rfl⟩ := lsAt_form HR.out (by show 0 < ms.length; omega)
        obtain ⟨_, ab, cb, hc, _, hn, _⟩ := msAt_cell (HR.out.keep hbel) hlt
        obtain ⟨c0, c1, c2, c3, c4, c5, c6, c7, c8⟩ := hc.m9
        clear hc
        have HBT : Hid (lsum (ms.take (k + 1)) = lsum (ms.take k) + (ms.getD k mg0).l.length) := lsum_take hlt
        obtain ⟨nb, hnb⟩ : ∃ nb, nb = (ms.getD k mg0).l.length := ⟨_, rfl⟩
        rw [← hnb] at c8 hn HBT
        clear hnb
        generalize (ms.getD k mg0).x0 = x0 at c0
        generalize (ms.getD k mg0).x1 = x1 at c1
        generalize (ms.getD k mg0).x2 = x2 at c2
        generalize (ms.getD k mg0).x3 = x3 at c3
        generalize (ms.getD k mg0).x4 = x4 at c4
        generalize (ms.getD k mg0).x5 = x5 at c5
        generalize (ms.getD k mg0).x6 = x6 at c6
        generalize (ms.getD k mg0).x7 = x7 at c7
        have C := szMsg_if x0 x1 x2 x3 x4 x5 x6 x7 ab nb cb l wr hn l1 l2
        by_cases hneg : l - (nb : Int) < 0
        · rw [if_pos hneg] at C
          go_wp2_with fail
          refine C.mono ?_
          rintro e w1 ⟨rfl, hw1⟩
          go_wp2
          go_ret
          exact ⟨-1, rfl, .inl (by omega), by omega, by omega, belt hbel hw1⟩
        · rw [if_neg hneg] at C
          go_wp2_with fail
          refine C.mono ?_
          rintro e w1 ⟨rfl, hw1⟩
          have hbel1 := belt hbel hw1
          go_wp2_with fail
          go_roundw
          case rel => exact ⟨k + 1, _, by omega, by go_num, rfl, by omega, by rw [HBT.out]; have := HL.out; omega, hbel1⟩
          case measure => simp [intOf]; omega
      · have hh := HL.out
        rw [List.take_of_length_le (by omega)] at hh
        have HH : Hid (ms.length + lsum ms ≤ 1048576) := by unfold Hid; omega
        clear hh
        go_wp2
        go_ret
        exact ⟨l, rfl, .inr ⟨l1, HH.out⟩, by omega, by omega, hbel⟩
theorem szReplyS_any (a : Option Addr) (cap n : Nat) (l : Int) (w : World) (hn : n ≤ maxLen) (l1 : 0 ≤ l) (l2 : l ≤ 1048576) :
    Calls Tryz.prog 105 #[.slice a n cap, .int .i64 l] w fun e w' => e = .returned (.int .i64 (if l - (n : Int) < 0 then -1 else l - (n : Int))) ∧ w' = w := by
  unfold maxLen at hn
  by_cases h : l - (n : Int) < 0
  · rw [if_pos h]
    go_enter Tryz.func105, Tryz.ntmps105
    go_wp2
    go_ret
    exact ⟨rfl, rfl⟩
  · rw [if_neg h]
    go_enter Tryz.func105, Tryz.ntmps105
    go_wp2
    go_ret
    exact ⟨rfl, rfl⟩
end Go.Proofs.YtdceimnapbblnaaGreat
namespace Go.Proofs.YtdceimnapbblnaaGreat
open Go.RowKit
set_option linter.unusedVariables false
set_option linter.unusedSimpArgs false
theorem made_at (z : Array Value) (n i j : Nat) (hj : j < z.size) (hi : i * z.size + j < n) : (madeCells z n)[i * z.size + j]? = z[j]? := by
  unfold madeCells
  rw [Array.getElem?_map, Array.getElem?_range, if_pos hi]
  have e : (i * z.size + j) % z.size = j := by rw [Nat.mul_comm, Nat.mul_add_mod, Nat.mod_eq_of_lt hj]
  simp [e, hj]
theorem made_own (t : TypeId) (e : TyI) (z : Array Value) (n : Nat) (w : World) (hz : z.size = e.wide) (ho : ∀ w' : World, e.own w.heap.size (w.heap.size + 1) w' z.toList e.dflt []) (hn : n ≤ 1048576) :
    (tySlice t e).own w.heap.size (w.alloc (.cells (madeCells z (n * e.wide)) t)).heap.size (w.alloc (.cells (madeCells z (n * e.wide)) t)) [.slice (some ⟨w.heap.size, 0, none⟩) (List.replicate n e.dflt).length n] (List.replicate n e.dflt) (w.heap.size :: (List.replicate n ([] : List Nat)).flatten) := by
  have hrow := heap_alloc_new w (.cells (madeCells z (n * e.wide)) t)
  refine ⟨_, n, rfl, by rw [List.length_replicate]; exact hn, by rw [List.length_replicate]; exact Nat.le_refl _, fun h => (by cases h), .inr ⟨w.heap.size, _, List.replicate n [], rfl, Nat.le_refl _, by simp, hrow, by rw [List.length_replicate, List.length_replicate], rfl, fun i hi => ?_⟩⟩
  rw [List.length_replicate] at hi
  have e1 : (List.replicate n e.dflt).getD i e.dflt = e.dflt := by simp [List.getD_eq_getElem?_getD, hi]
  have e2 : (List.replicate n ([] : List Nat)).getD i [] = [] := by simp [List.getD_eq_getElem?_getD, hi]
  rw [e1, e2]
  refine ⟨z.toList, fun j v hj => ?_, by rw [World.size_alloc]; exact ho _⟩
  have hjl : j < z.size := by have := (List.getElem?_eq_some_iff.1 hj).1; simpa using this
  refine (cell_of_row _ _ _ _ _ _ hrow).trans ?_
  rw [← hz]
  have hlt : i * z.size + j < n * z.size := by
    have : (i + 1) * z.size ≤ n * z.size := Nat.mul_le_mul_right _ hi
    rw [Nat.add_mul, Nat.one_mul] at this
    omega
  rw [made_at z _ i j hjl hlt]
  simpa using hj
theorem info_msg : (Tryz.prog.info? 102).map (fun i => (i.zero, i.size, i.bytes)) = some (some (.agg #[.int .i64 0, .int .i64 0, .int .i64 0, .int .i64 0, .int .i64 0, .int .i64 0, .int .i64 0, .int .i64 0, .slice none 0 0]), 9, 88) := by kernel_rfl
theorem make_msgs (n : Nat) (hn : n ≤ 1048576) (w : World) :
    (Instr.makeSlice 33 (.int .i64 (n : Int)) (.int .i64 (n : Int))).run Tryz.prog w = .ok (.slice (some ⟨w.heap.size, 0, none⟩) n n) (w.alloc (.cells (madeCells #[.int .i64 0, .int .i64 0, .int .i64 0, .int .i64 0, .int .i64 0, .int .i64 0, .int .i64 0, .int .i64 0, .slice none 0 0] (n * 9)) 102)) := by
  obtain ⟨i0, hi, hz0, hz1, hz2⟩ := info_parts info_msg
  have := run_make (P := Tryz.prog) w 33 102 i0 _ Tryz.underlying33 hi hz0 .i64 .i64 (n : Int) (n : Int) (by omega) (by omega) (by rw [hz2]; omega) (by omega)
  rw [hz1] at this
  rw [this]
  simp
  rfl
theorem info_reply : (Tryz.prog.info? 45).map (fun i => (i.zero, i.size, i.bytes)) = some (some (.agg #[.int .i64 0, .int .i64 0, .int .i64 0, .int .i64 0, .bool false]), 5, 40) := by kernel_rfl
theorem make_replies (n : Nat) (hn : n ≤ 1048576) (w : World) :
    (Instr.makeSlice 34 (.int .i64 (n : Int)) (.int .i64 (n : Int))).run Tryz.prog w = .ok (.slice (some ⟨w.heap.size, 0, none⟩) n n) (w.alloc (.cells (madeCells #[.int .i64 0, .int .i64 0, .int .i64 0, .int .i64 0, .bool false] (n * 5)) 45)) := by
  obtain ⟨i0, hi, hz0, hz1, hz2⟩ := info_parts info_reply
  have := run_make (P := Tryz.prog) w 34 45 i0 _ Tryz.underlying34 hi hz0 .i64 .i64 (n : Int) (n : Int) (by omega) (by omega) (by rw [hz2]; omega) (by omega)
  rw [hz1] at this
  rw [this]
  simp
  rfl
theorem own9 (B T : Nat) (w : World) : tyMg.own B T w (#[.int .i64 0, .int .i64 0, .int .i64 0, .int .i64 0, .int .i64 0, .int .i64 0, .int .i64 0, .int .i64 0, .slice none 0 0] : Array Value).toList mg0 [] := ⟨none, 0, rfl, by simp [mg0], by simp [mg0], fun _ => rfl, .inl ⟨rfl, rfl⟩⟩
theorem own5 (B T : Nat) (w : World) : tyRp.own B T w (#[.int .i64 0, .int .i64 0, .int .i64 0, .int .i64 0, .bool false] : Array Value).toList rp0 [] := ⟨rfl, rfl⟩
theorem wireS {B : Nat} {w : World} {g : Nat} {l : List Int} (h : Wire.OwnS B w g l) : OwnS B w g l := ⟨h.lo, h.row⟩
theorem toMsg_own (x0 x1 x2 x3 x4 x5 x6 x7 : Int) (a : Option Addr) (cap : Nat) (zs : List Int) (w : World) (hm : zs.length ≤ 1048576) (hr : RowAt w a zs) :
    Calls Tryz.prog 162 #[.agg #[.int .i64 x0, .int .i64 x1, .int .i64 x2, .int .i64 x3, .int .i64 x4, .int .i64 x5, .int .i64 x6, .int .i64 x7, .slice a zs.length cap]] w fun e w' => ∃ a' F, e = .returned (.agg #[.int .i64 x0, .int .i64 x1, .int .i64 x2, .int .i64 x3, .int .i64 x4, .int .i64 x5, .int .i64 x6, .int .i64 x7, .slice a' zs.length zs.length]) ∧ tyMg.own w.heap.size w'.heap.size w' (mgV ⟨x0, x1, x2, x3, x4, x5, x6, x7, zs⟩ (.slice a' zs.length zs.length)) ⟨x0, x1, x2, x3, x4, x5, x6, x7, zs⟩ F ∧ F.Nodup ∧ Below w.heap.size w w' := by
  refine (Wire.toMsg_any x0 x1 x2 x3 x4 x5 x6 x7 a cap zs.length zs w rfl hm hr).mono ?_
  rintro e w1 ⟨a', rfl, ⟨_, ho⟩, hw⟩
  rcases ho with h | ⟨g, ha, ht, os⟩
  · subst h
    exact ⟨a', [], rfl, ⟨a', 0, rfl, by simp, by simp, fun _ => rfl, .inl ⟨rfl, rfl⟩⟩, by simp, hw⟩
  · exact ⟨a', [g], rfl, ⟨a', zs.length, rfl, hm, Nat.le_refl _, fun h => (by rw [ha] at h; cases h), .inr ⟨g, ha, rfl, ht, wireS os⟩⟩, by simp, hw⟩
def set9 (w : World) (q o : Nat) (v0 v1 v2 v3 v4 v5 v6 v7 v8 : Value) : World := ((((((((w.setCell ⟨q, o, none⟩ v0).setCell ⟨q, o + 1, none⟩ v1).setCell ⟨q, o + 2, none⟩ v2).setCell ⟨q, o + 3, none⟩ v3).setCell ⟨q, o + 4, none⟩ v4).setCell ⟨q, o + 5, none⟩ v5).setCell ⟨q, o + 6, none⟩ v6).setCell ⟨q, o + 7, none⟩ v7).setCell ⟨q, o + 8, none⟩ v8
theorem set9_eq (w : World) (q o : Nat) (v0 v1 v2 v3 v4 v5 v6 v7 v8 : Value) : set9 w q o v0 v1 v2 v3 v4 v5 v6 v7 v8 = setO w q o [v0, v1, v2, v3, v4, v5, v6, v7, v8] := rfl
def set5 (w : World) (q o : Nat) (v0 v1 v2 v3 v4 : Value) : World := ((((w.setCell ⟨q, o, none⟩ v0).setCell ⟨q, o + 1, none⟩ v1).setCell ⟨q, o + 2, none⟩ v2).setCell ⟨q, o + 3, none⟩ v3).setCell ⟨q, o + 4, none⟩ v4
theorem set5_eq (w : World) (q o : Nat) (v0 v1 v2 v3 v4 : Value) : set5 w q o v0 v1 v2 v3 v4 = setO w q o [v0, v1, v2, v3, v4] := rfl
theorem own_slot9 {t : TypeId} {B T : Nat} {w : World} {g cap : Nat} {M : List Mg} {F : List Nat} (h : (tySlice t tyMg).own B T w [.slice (some ⟨g, 0, none⟩) M.length cap] M F) {i : Nat} (hi : i < M.length) : (∃ cur, w.heap[g]? = some (.cells cur t (0, 0))) ∧ ∃ m s, CellsAt w g (i * 9) (mgV m s) := by
  obtain ⟨ad, cap', h0, h1, h2, h3, h4⟩ := h
  simp at h0
  obtain ⟨rfl, h0⟩ := h0
  have hcc : cap = cap' := by first | exact h0 | exact h0.2
  subst hcc
  rcases h4 with ⟨h4, _⟩ | ⟨g', cur, Fs, ha, hB, hT, hg, hl, hF, hc⟩
  · have hl0 : M.length = 0 := by rw [h4]; rfl
    omega
  · simp at ha
    subst ha
    obtain ⟨ci, p1, a, c, rfl, _⟩ := hc i hi
    exact ⟨⟨cur, hg⟩, _, _, p1⟩
theorem own_slot5 {t : TypeId} {B T : Nat} {w : World} {g cap : Nat} {M : List Rp} {F : List Nat} (h : (tySlice t tyRp).own B T w [.slice (some ⟨g, 0, none⟩) M.length cap] M F) {i : Nat} (hi : i < M.length) : (∃ cur, w.heap[g]? = some (.cells cur t (0, 0))) ∧ ∃ m, CellsAt w g (i * 5) (rpV m) := by
  obtain ⟨ad, cap', h0, h1, h2, h3, h4⟩ := h
  simp at h0
  obtain ⟨rfl, h0⟩ := h0
  have hcc : cap = cap' := by first | exact h0 | exact h0.2
  subst hcc
  rcases h4 with ⟨h4, _⟩ | ⟨g', cur, Fs, ha, hB, hT, hg, hl, hF, hc⟩
  · have hl0 : M.length = 0 := by rw [h4]; rfl
    omega
  · simp at ha
    subst ha
    obtain ⟨ci, p1, rfl, _⟩ := hc i hi
    exact ⟨⟨cur, hg⟩, _, p1⟩
theorem getD_seq {α : Type} {L M : List α} {x0 : α} (hl : L.length = M.length) (h : ∀ i, i < M.length → L.getD i x0 = M.getD i x0) : L = M := by
  refine List.ext_getElem hl (fun i h1 h2 => ?_)
  have := h i h2
  simp [List.getD_eq_getElem?_getD, List.getElem?_eq_getElem h1, List.getElem?_eq_getElem h2] at this
  exact this
theorem getD_set' {α : Type} {L : List α} {x0 : α} {i j : Nat} {e : α} (hj : j < L.length) : (L.set i e).getD j x0 = if i = j then e else L.getD j x0 := by
  rw [List.getD_eq_getElem?_getD, List.getElem?_set]
  by_cases hij : i = j
  · subst hij; simp [hj]
  · rw [if_neg hij, if_neg hij, List.getD_eq_getElem?_getD]
theorem set9_below {n : Nat} {w0 w : World} {q o : Nat} (v0 v1 v2 v3 v4 v5 v6 v7 v8 : Value) (h : Below n w0 w) (hq : n ≤ q) : Below n w0 (set9 w q o v0 v1 v2 v3 v4 v5 v6 v7 v8) := by
  rw [set9_eq]
  exact setO_below hq _ _ h
theorem set5_below {n : Nat} {w0 w : World} {q o : Nat} (v0 v1 v2 v3 v4 : Value) (h : Below n w0 w) (hq : n ≤ q) : Below n w0 (set5 w q o v0 v1 v2 v3 v4) := by
  rw [set5_eq]
  exact setO_below hq _ _ h
theorem own_put9 {t : TypeId} {B : Nat} {w w1 : World} {g cap n : Nat} {M : List Mg} {F : List Nat} (h : (tySlice t tyMg).own B w.heap.size w [.slice (some ⟨g, 0, none⟩) M.length cap] M F) (hn : F.Nodup) (hb : Below w.heap.size w w1) {i : Nat} (hi : i < M.length) (hM : M.length = n)
    (m : Mg) (s : Value) {F1 : List Nat} (ho : tyMg.own w.heap.size w1.heap.size w1 (mgV m s) m F1) (hn1 : F1.Nodup) :
    ∃ F2, (tySlice t tyMg).own B (set9 w1 g (i * 9) (.int .i64 m.x0) (.int .i64 m.x1) (.int .i64 m.x2) (.int .i64 m.x3) (.int .i64 m.x4) (.int .i64 m.x5) (.int .i64 m.x6) (.int .i64 m.x7) s).heap.size (set9 w1 g (i * 9) (.int .i64 m.x0) (.int .i64 m.x1) (.int .i64 m.x2) (.int .i64 m.x3) (.int .i64 m.x4) (.int .i64 m.x5) (.int .i64 m.x6) (.int .i64 m.x7) s) [.slice (some ⟨g, 0, none⟩) (M.set i m).length cap] (M.set i m) F2 ∧ F2.Nodup ∧ (M.set i m).length = n := by
  obtain ⟨F2, q1, q2⟩ := own_put h hn hb hi ho hn1
  have hsl : (M.set i m).length = M.length := List.length_set
  refine ⟨F2, ?_, q2, by rw [hsl]; exact hM⟩
  rw [hsl, set9_eq]
  exact q1
theorem own_put5 {t : TypeId} {B : Nat} {w w1 : World} {g cap n : Nat} {M : List Rp} {F : List Nat} (h : (tySlice t tyRp).own B w.heap.size w [.slice (some ⟨g, 0, none⟩) M.length cap] M F) (hn : F.Nodup) (hb : Below w.heap.size w w1) {i : Nat} (hi : i < M.length) (hM : M.length = n) (m : Rp) :
    ∃ F2, (tySlice t tyRp).own B (set5 w1 g (i * 5) (.int .i64 m.x0) (.int .i64 m.x1) (.int .i64 m.x2) (.int .i64 m.x3) (.bool m.b)).heap.size (set5 w1 g (i * 5) (.int .i64 m.x0) (.int .i64 m.x1) (.int .i64 m.x2) (.int .i64 m.x3) (.bool m.b)) [.slice (some ⟨g, 0, none⟩) (M.set i m).length cap] (M.set i m) F2 ∧ F2.Nodup ∧ (M.set i m).length = n := by
  obtain ⟨F2, q1, q2⟩ := own_put (e := tyRp) (m1 := m) (F1 := []) (c1 := rpV m) h hn hb hi ⟨rfl, rfl⟩ (by simp)
  have hsl : (M.set i m).length = M.length := List.length_set
  refine ⟨F2, ?_, q2, by rw [hsl]; exact hM⟩
  rw [hsl, set5_eq]
  exact q1
end Go.Proofs.YtdceimnapbblnaaGreat
namespace Go.Proofs.YtdceimnapbblnaaGreat
open Go.RowKit
set_option linter.unusedVariables false
set_option linter.unusedSimpArgs false
set_option maxRecDepth 100000 in
set_option maxHeartbeats 6400000 in
theorem toMsgS_any (a : Option Addr) (cap : Nat) (ms : List Mg) (w : World) (hb : ms.length + lsum ms ≤ 1048576) (hr : LsAt tyMg w a ms) :
    Calls Tryz.prog 106 #[.slice a ms.length cap] w fun e w' => ∃ a', e = .returned (.slice a' ms.length ms.length) ∧ OwnEs tyMg 102 w.heap.size w'.heap.size w' a' ms.length ms ∧ Below w.heap.size w w' := by
  have HR : Hid (LsAt tyMg w a ms) := hr
  have HBB : Hid (ms.length + lsum ms ≤ 1048576) := hb
  have hz : ms.length ≤ 1048576 := by omega
  clear hr hb
  have hmk := make_msgs ms.length hz
  have OW0 : Hid (∃ F : List Nat, F.Nodup ∧ (tySlice 102 tyMg).own w.heap.size (w.alloc (.cells (madeCells #[.int .i64 0, .int .i64 0, .int .i64 0, .int .i64 0, .int .i64 0, .int .i64 0, .int .i64 0, .int .i64 0, .slice none 0 0] (ms.length * 9)) 102)).heap.size (w.alloc (.cells (madeCells #[.int .i64 0, .int .i64 0, .int .i64 0, .int .i64 0, .int .i64 0, .int .i64 0, .int .i64 0, .int .i64 0, .slice none 0 0] (ms.length * 9)) 102)) [.slice (some ⟨w.heap.size, 0, none⟩) (List.replicate ms.length mg0).length ms.length] (List.replicate ms.length mg0) F) :=
    ⟨_, by simp, made_own 102 tyMg #[.int .i64 0, .int .i64 0, .int .i64 0, .int .i64 0, .int .i64 0, .int .i64 0, .int .i64 0, .int .i64 0, .slice none 0 0] ms.length w rfl (fun w' => own9 _ _ _) hz⟩
  go_enter Tryz.func106, Tryz.ntmps106
  go_wp2_with fail
  clear hmk
  go_loopw [4] (fun vi wr => ∃ (k : Nat) (M : List Mg) (F : List Nat), k ≤ ms.length ∧ vi = .int .i64 k ∧ M.length = ms.length ∧ Hid (∀ i, i < k → M.getD i mg0 = ms.getD i mg0) ∧ Hid (F.Nodup) ∧ (tySlice 102 tyMg).own w.heap.size wr.heap.size wr [.slice (some ⟨w.heap.size, 0, none⟩) M.length ms.length] M F ∧ Below w.heap.size w wr) (fun vi _ => ms.length - (intOf vi).toNat)
  case atStart =>
    obtain ⟨F0, hF0, ho0⟩ := OW0.out
    exact ⟨0, List.replicate ms.length mg0, F0, Nat.zero_le _, rfl, List.length_replicate, fun i hi => by omega, hF0, ho0, (Below.refl _ _).alloc (Nat.le_refl _) _⟩
  case round =>
    obtain ⟨k, M, F, hk, rfl, hM, hs, HF, ow, hbel⟩ := hrel
    have HOW : Hid ((tySlice 102 tyMg).own w.heap.size wr.heap.size wr [.slice (some ⟨w.heap.size, 0, none⟩) M.length ms.length] M F) := ow
    have HB : Hid (Below w.heap.size w wr) := hbel
    have HM : Hid (M.length = ms.length) := hM
    clear ow hbel hM OW0
    by_cases hlt : k < ms.length
    · obtain ⟨bk, off, rfl⟩ := lsAt_form HR.out (by show 0 < ms.length; omega)
      obtain ⟨hb1, ab, cb, hc, hrb, hn, hcb⟩ := msAt_cell (HR.out.keep HB.out) hlt
      obtain ⟨c0, c1, c2, c3, c4, c5, c6, c7, c8⟩ := hc.m9
      have hzs : (ms.getD k mg0).l.length ≤ 1048576 := by have := lsum_mem hlt; have := HBB.out; omega
      obtain ⟨p, hp⟩ : ∃ p, p = ms.getD k mg0 := ⟨_, rfl⟩
      have HP : Hid (p = ms.getD k mg0) := hp
      rw [← hp] at c0 c1 c2 c3 c4 c5 c6 c7 c8 hrb hzs
      clear hp hn hcb hc
      obtain ⟨x0, x1, x2, x3, x4, x5, x6, x7, zs⟩ := p
      have HRB : Hid (RowAt wr ab zs) := hrb
      have hzs' : zs.length ≤ 1048576 := hzs
      clear hrb hzs
      go_wp2_with fail
      refine (toMsg_own x0 x1 x2 x3 x4 x5 x6 x7 ab cb zs _ hzs' HRB.out).mono ?_
      rintro e w1 ⟨a', F1, rfl, os1, hF1, hw1⟩
      have hkM : k < M.length := by rw [HM.out]; exact hlt
      have ow1 := (tySlice 102 tyMg).own_keep HOW.out hw1
      obtain ⟨⟨cur, hcur⟩, mo, so, hco⟩ := own_slot9 ow1 hkM
      obtain ⟨e0, e1, e2, e3, e4, e5, e6, e7, e8⟩ := hco.m9
      have f0 : w1.frozen? ⟨w.heap.size, k * 9, none⟩ = false := frozen_of_row w1 _ _ _ _ hcur
      have f1 : w1.frozen? ⟨w.heap.size, k * 9 + 1, none⟩ = false := frozen_of_row w1 _ _ _ _ hcur
      have f2 : w1.frozen? ⟨w.heap.size, k * 9 + 2, none⟩ = false := frozen_of_row w1 _ _ _ _ hcur
      have f3 : w1.frozen? ⟨w.heap.size, k * 9 + 3, none⟩ = false := frozen_of_row w1 _ _ _ _ hcur
      have f4 : w1.frozen? ⟨w.heap.size, k * 9 + 4, none⟩ = false := frozen_of_row w1 _ _ _ _ hcur
      have f5 : w1.frozen? ⟨w.heap.size, k * 9 + 5, none⟩ = false := frozen_of_row w1 _ _ _ _ hcur
      have f6 : w1.frozen? ⟨w.heap.size, k * 9 + 6, none⟩ = false := frozen_of_row w1 _ _ _ _ hcur
      have f7 : w1.frozen? ⟨w.heap.size, k * 9 + 7, none⟩ = false := frozen_of_row w1 _ _ _ _ hcur
      have f8 : w1.frozen? ⟨w.heap.size, k * 9 + 8, none⟩ = false := frozen_of_row w1 _ _ _ _ hcur
      obtain ⟨F2, ho2, hf2, hl2⟩ := own_put9 HOW.out HF.out hw1 hkM HM.out (⟨x0, x1, x2, x3, x4, x5, x6, x7, zs⟩ : Mg) (.slice a' zs.length zs.length) os1 hF1
      have HO2 : Hid ((tySlice 102 tyMg).own w.heap.size (set9 w1 w.heap.size (k * 9) (.int .i64 x0) (.int .i64 x1) (.int .i64 x2) (.int .i64 x3) (.int .i64 x4) (.int .i64 x5) (.int .i64 x6) (.int .i64 x7) (.slice a' zs.length zs.length)).heap.size (set9 w1 w.heap.size (k * 9) (.int .i64 x0) (.int .i64 x1) (.int .i64 x2) (.int .i64 x3) (.int .i64 x4) (.int .i64 x5) (.int .i64 x6) (.int .i64 x7) (.slice a' zs.length zs.length)) [.slice (some ⟨w.heap.size, 0, none⟩) (M.set k (⟨x0, x1, x2, x3, x4, x5, x6, x7, zs⟩ : Mg)).length ms.length] (M.set k (⟨x0, x1, x2, x3, x4, x5, x6, x7, zs⟩ : Mg)) F2) := ho2
      have HF2 : Hid (F2.Nodup) := hf2
      have HML : Hid ((M.set k (⟨x0, x1, x2, x3, x4, x5, x6, x7, zs⟩ : Mg)).length = ms.length) := hl2
      clear ho2 hf2 hl2
      have HB1 : Hid (Below w.heap.size w (set9 w1 w.heap.size (k * 9) (.int .i64 x0) (.int .i64 x1) (.int .i64 x2) (.int .i64 x3) (.int .i64 x4) (.int .i64 x5) (.int .i64 x6) (.int .i64 x7) (.slice a' zs.length zs.length))) := set9_below _ _ _ _ _ _ _ _ _ (belt HB.out hw1) (Nat.le_refl _)
      have HS1 : Hid (∀ i, i < k + 1 → (M.set k (⟨x0, x1, x2, x3, x4, x5, x6, x7, zs⟩ : Mg)).getD i mg0 = ms.getD i mg0) := fun i hi => by
        rw [getD_set' (by have := HM.out; omega)]
        by_cases hik : k = i
        · subst hik; rw [if_pos rfl]; exact HP.out
        · rw [if_neg hik]; exact hs.out i (by omega)
      generalize mo.x0 = y0 at e0
      generalize mo.x1 = y1 at e1
      generalize mo.x2 = y2 at e2
      generalize mo.x3 = y3 at e3
      generalize mo.x4 = y4 at e4
      generalize mo.x5 = y5 at e5
      generalize mo.x6 = y6 at e6
      generalize mo.x7 = y7 at e7
      clear os1 hcur ow1 hco
      go_wp2
      go_roundw
      case rel => exact ⟨k + 1, _, F2, by omega, by go_num, HML.out, HS1, HF2, HO2.out, HB1.out⟩
      case measure => simp [intOf]; omega
    · have hke : k = ms.length := by omega
      subst hke
      have HME : Hid (M = ms) := getD_seq HM.out hs.out
      go_wp2
      go_ret
      refine ⟨_, rfl, ⟨rfl, hz, .inr ⟨w.heap.size, F, ms.length, rfl, HF.out, ?_⟩⟩, HB.out⟩
      have := HOW.out
      rw [HME.out] at this
      exact this
end Go.Proofs.YtdceimnapbblnaaGreat
namespace Go.Proofs.YtdceimnapbblnaaGreat
open Go.RowKit
set_option linter.unusedVariables false
set_option linter.unusedSimpArgs false
set_option maxHeartbeats 3200000 in
theorem toReply_own (x0 x1 x2 x3 : Int) (b : Bool) (w : World) :
    Calls Tryz.prog 163 #[.agg #[.int .i64 x0, .int .i64 x1, .int .i64 x2, .int .i64 x3, .bool b]] w fun e w' => e = .returned (.agg #[.int .i64 x0, .int .i64 x1, .int .i64 x2, .int .i64 x3, .bool b]) ∧ Below w.heap.size w w' := by
  go_enter Tryz.func163, Tryz.ntmps163
  go_wp2
  have K : Wire.Bk (((w.alloc (.cells #[.int .i64 x0, .int .i64 x1, .int .i64 x2, .int .i64 x3, .bool b] 203)).alloc (.cells #[.int .i64 x0, .int .i64 x1, .int .i64 x2, .int .i64 x3, .bool b] 45)).alloc (.cells #[.int .i64 x0, .int .i64 x1, .int .i64 x2, .int .i64 x3, .bool b] 45)) (w.heap.size + 1) #[.int .i64 x0, .int .i64 x1, .int .i64 x2, .int .i64 x3, .bool b] 45 := by
    have h := (Wire.Bk.new (w.alloc (.cells #[.int .i64 x0, .int .i64 x1, .int .i64 x2, .int .i64 x3, .bool b] 203)) #[.int .i64 x0, .int .i64 x1, .int .i64 x2, .int .i64 x3, .bool b] 45).alloc (.cells #[.int .i64 x0, .int .i64 x1, .int .i64 x2, .int .i64 x3, .bool b] 45)
    simp only [World.size_alloc] at h
    exact h
  refine bodyPost_ret (results_cell_row Tryz.results163 _ _ (w.heap.size + 1) _ _ _ _ rfl K Tryz.underlying45 rfl (by kernel_rfl)) rfl ⟨rfl, (((Below.refl _ _).alloc (Nat.le_refl _) _).alloc (by simp) _).alloc (by simp; omega) _⟩
set_option maxRecDepth 100000 in
set_option maxHeartbeats 6400000 in
theorem toReplyS_any (a : Option Addr) (cap : Nat) (ms : List Rp) (w : World) (hz : ms.length ≤ 1048576) (hr : LsAt tyRp w a ms) :
    Calls Tryz.prog 107 #[.slice a ms.length cap] w fun e w' => ∃ a', e = .returned (.slice a' ms.length ms.length) ∧ OwnEs tyRp 45 w.heap.size w'.heap.size w' a' ms.length ms ∧ Below w.heap.size w w' := by
  have HR : Hid (LsAt tyRp w a ms) := hr
  clear hr
  have hmk := make_replies ms.length hz
  have OW0 : Hid (∃ F : List Nat, F.Nodup ∧ (tySlice 45 tyRp).own w.heap.size (w.alloc (.cells (madeCells #[.int .i64 0, .int .i64 0, .int .i64 0, .int .i64 0, .bool false] (ms.length * 5)) 45)).heap.size (w.alloc (.cells (madeCells #[.int .i64 0, .int .i64 0, .int .i64 0, .int .i64 0, .bool false] (ms.length * 5)) 45)) [.slice (some ⟨w.heap.size, 0, none⟩) (List.replicate ms.length rp0).length ms.length] (List.replicate ms.length rp0) F) :=
    ⟨_, by simp, made_own 45 tyRp #[.int .i64 0, .int .i64 0, .int .i64 0, .int .i64 0, .bool false] ms.length w rfl (fun w' => own5 _ _ _) hz⟩
  go_enter Tryz.func107, Tryz.ntmps107
  go_wp2_with fail
  clear hmk
  go_loopw [4] (fun vi wr => ∃ (k : Nat) (M : List Rp) (F : List Nat), k ≤ ms.length ∧ vi = .int .i64 k ∧ M.length = ms.length ∧ Hid (∀ i, i < k → M.getD i rp0 = ms.getD i rp0) ∧ Hid (F.Nodup) ∧ (tySlice 45 tyRp).own w.heap.size wr.heap.size wr [.slice (some ⟨w.heap.size, 0, none⟩) M.length ms.length] M F ∧ Below w.heap.size w wr) (fun vi _ => ms.length - (intOf vi).toNat)
  case atStart =>
    obtain ⟨F0, hF0, ho0⟩ := OW0.out
    exact ⟨0, List.replicate ms.length rp0, F0, Nat.zero_le _, rfl, List.length_replicate, fun i hi => by omega, hF0, ho0, (Below.refl _ _).alloc (Nat.le_refl _) _⟩
  case round =>
    obtain ⟨k, M, F, hk, rfl, hM, hs, HF, ow, hbel⟩ := hrel
    have HOW : Hid ((tySlice 45 tyRp).own w.heap.size wr.heap.size wr [.slice (some ⟨w.heap.size, 0, none⟩) M.length ms.length] M F) := ow
    have HB : Hid (Below w.heap.size w wr) := hbel
    have HM : Hid (M.length = ms.length) := hM
    clear ow hbel hM OW0
    by_cases hlt : k < ms.length
    · obtain ⟨bk, off, rfl⟩ := lsAt_form HR.out (by show 0 < ms.length; omega)
      obtain ⟨hb1, hc⟩ := rsAt_cell (HR.out.keep HB.out) hlt
      obtain ⟨c0, c1, c2, c3, c4⟩ := hc.r5
      obtain ⟨p, hp⟩ : ∃ p, p = ms.getD k rp0 := ⟨_, rfl⟩
      have HP : Hid (p = ms.getD k rp0) := hp
      rw [← hp] at c0 c1 c2 c3 c4
      clear hp hc
      obtain ⟨x0, x1, x2, x3, b⟩ := p
      go_wp2_with fail
      refine (toReply_own x0 x1 x2 x3 b _).mono ?_
      rintro e w1 ⟨rfl, hw1⟩
      have hkM : k < M.length := by rw [HM.out]; exact hlt
      have ow1 := (tySlice 45 tyRp).own_keep HOW.out hw1
      obtain ⟨⟨cur, hcur⟩, mo, hco⟩ := own_slot5 ow1 hkM
      obtain ⟨e0, e1, e2, e3, e4⟩ := hco.r5
      have f0 : w1.frozen? ⟨w.heap.size, k * 5, none⟩ = false := frozen_of_row w1 _ _ _ _ hcur
      have f1 : w1.frozen? ⟨w.heap.size, k * 5 + 1, none⟩ = false := frozen_of_row w1 _ _ _ _ hcur
      have f2 : w1.frozen? ⟨w.heap.size, k * 5 + 2, none⟩ = false := frozen_of_row w1 _ _ _ _ hcur
      have f3 : w1.frozen? ⟨w.heap.size, k * 5 + 3, none⟩ = false := frozen_of_row w1 _ _ _ _ hcur
      have f4 : w1.frozen? ⟨w.heap.size, k * 5 + 4, none⟩ = false := frozen_of_row w1 _ _ _ _ hcur
      obtain ⟨F2, ho2, hf2, hl2⟩ := own_put5 HOW.out HF.out hw1 hkM HM.out (⟨x0, x1, x2, x3, b⟩ : Rp)
      have HO2 : Hid ((tySlice 45 tyRp).own w.heap.size (set5 w1 w.heap.size (k * 5) (.int .i64 x0) (.int .i64 x1) (.int .i64 x2) (.int .i64 x3) (.bool b)).heap.size (set5 w1 w.heap.size (k * 5) (.int .i64 x0) (.int .i64 x1) (.int .i64 x2) (.int .i64 x3) (.bool b)) [.slice (some ⟨w.heap.size, 0, none⟩) (M.set k (⟨x0, x1, x2, x3, b⟩ : Rp)).length ms.length] (M.set k (⟨x0, x1, x2, x3, b⟩ : Rp)) F2) := ho2
      have HF2 : Hid (F2.Nodup) := hf2
      have HML : Hid ((M.set k (⟨x0, x1, x2, x3, b⟩ : Rp)).length = ms.length) := hl2
      clear ho2 hf2 hl2
      have HB1 : Hid (Below w.heap.size w (set5 w1 w.heap.size (k * 5) (.int .i64 x0) (.int .i64 x1) (.int .i64 x2) (.int .i64 x3) (.bool b))) := set5_below _ _ _ _ _ (belt HB.out hw1) (Nat.le_refl _)
      have HS1 : Hid (∀ i, i < k + 1 → (M.set k (⟨x0, x1, x2, x3, b⟩ : Rp)).getD i rp0 = ms.getD i rp0) := fun i hi => by
        rw [getD_set' (by have := HM.out; omega)]
        by_cases hik : k = i
        · subst hik; rw [if_pos rfl]; exact HP.out
        · rw [if_neg hik]; exact hs.out i (by omega)
      generalize mo.x0 = y0 at e0
      generalize mo.x1 = y1 at e1
      generalize mo.x2 = y2 at e2
      generalize mo.x3 = y3 at e3
      generalize mo.b = y4 at e4
      clear hcur ow1 hco
      go_wp2
      go_roundw
      case rel => exact ⟨k + 1, _, F2, by omega, by go_num, HML.out, HS1, HF2, HO2.out, HB1.out⟩
      case measure => simp [intOf]; omega
    · have hke : k = ms.length := by omega
      subst hke
      have HME : Hid (M = ms) := getD_seq HM.out hs.out
      go_wp2
      go_ret
      refine ⟨_, rfl, ⟨rfl, hz, .inr ⟨w.heap.size, F, ms.length, rfl, HF.out, ?_⟩⟩, HB.out⟩
      have := HOW.out
      rw [HME.out] at this
      exact this
end Go.Proofs.YtdceimnapbblnaaGreat
namespace Go.Proofs.YtdceimnapbblnaaGreat
open Go.RowKit
set_option linter.unusedVariables false
set_option linter.unusedSimpArgs false
def mrkM (k : Int) (ms : List Mg) : List Mg := (mrkL tyMg.mrk k ms).1
def kM (k : Int) (ms : List Mg) (i : Nat) : Int := kAtT tyMg k ms i
theorem mrkM_len (k : Int) (ms : List Mg) : (mrkM k ms).length = ms.length := mrkL_len _ _ _
theorem mrkM_get {k : Int} {ms : List Mg} {i : Nat} (h : i < ms.length) : (mrkM k ms).getD i mg0 = mgK (kM k ms i) (ms.getD i mg0) := mrkL_get (e := tyMg) k ms i h
theorem kM_zero (k : Int) (ms : List Mg) : kM k ms 0 = k := by
  show k + ((0 : Nat) : Int) = k
  omega
theorem kM_succ {k : Int} {ms : List Mg} {i : Nat} (h : i < ms.length) : kM k ms (i + 1) = kM k ms i + 8 + ((ms.getD i mg0).l.length : Int) := by
  have h1 : kM k ms (i + 1) = kM k ms i + ((8 + (ms.getD i mg0).l.length : Nat) : Int) := kAtT_succ (e := tyMg) h
  omega
theorem kM_bd {k : Int} {ms : List Mg} (i : Nat) (hb : ms.length + lsum ms ≤ 1048576) : k ≤ kM k ms i ∧ kM k ms i ≤ k + 8388608 := by
  have h1 := kAtT_bd (e := tyMg) k ms i
  have h2 : sumL tyMg.cnt ms ≤ 8 * (ms.length + lsum ms) := mul_sum (f := fun m : Mg => m.l.length) (c := tyMg.cnt) tyMg.cnt_tot ms
  unfold kM
  omega
def mrkR (k : Int) (ms : List Rp) : List Rp := (mrkL tyRp.mrk k ms).1
theorem mrkR_len (k : Int) (ms : List Rp) : (mrkR k ms).length = ms.length := mrkL_len _ _ _
theorem sum5 (ms : List Rp) (i : Nat) (h : i ≤ ms.length) : sumL tyRp.cnt (ms.take i) = 5 * i := by
  have : ∀ l : List Rp, sumL tyRp.cnt l = 5 * l.length := fun l => by
    induction l with
    | nil => rfl
    | cons x xs ih => simp only [sumL, List.length_cons]; rw [ih]; show 5 + 5 * xs.length = _; omega
  exact (this (ms.take i)).trans (by rw [List.length_take, Nat.min_eq_left h])
theorem mrkR_get {k : Int} {ms : List Rp} {i : Nat} (h : i < ms.length) : (mrkR k ms).getD i rp0 = rpK (k + 5 * (i : Int)) := by
  have h1 := mrkL_get (e := tyRp) k ms i h
  unfold kAtT at h1
  rw [sum5 ms i (by omega)] at h1
  have e : k + 5 * (i : Int) = k + ((5 * i : Nat) : Int) := by omega
  rw [e]
  exact h1
set_option maxRecDepth 100000 in
set_option maxHeartbeats 6400000 in
theorem heldMsgS_any (a : Option Addr) (cap : Nat) (ms : List Mg) (k0 : Int) (w : World) (hb : ms.length + lsum ms ≤ 1048576) (k1 : 0 ≤ k0) (k2 : k0 ≤ 1000000000000) (hr : LsAt tyMg w a (mrkM k0 ms)) :
    Calls Tryz.prog 113 #[.slice a ms.length cap, .int .i64 k0] w fun e w' => e = .returned (.int .i64 (kM k0 ms ms.length)) ∧ w' = w := by
  have HR : Hid (LsAt tyMg w a (mrkM k0 ms)) := hr
  clear hr
  have HL : Hid ((mrkM k0 ms).length = ms.length) := mrkM_len k0 ms
  have hz : ms.length ≤ 1048576 := by omega
  go_enter Tryz.func113, Tryz.ntmps113
  go_wp2_with fail
  go_loop [1, 5] (fun vk vi => ∃ i : Nat, i ≤ ms.length ∧ vi = .int .i64 i ∧ vk = .int .i64 (kM k0 ms i)) (fun _ vi => ms.length - (intOf vi).toNat)
  case atStart => exact ⟨0, Nat.zero_le _, rfl, by rw [kM_zero]⟩
  case round =>
    obtain ⟨i, hi, rfl, rfl⟩ := hrel
    by_cases hlt : i < ms.length
    · obtain ⟨bk, off, rfl⟩ := lsAt_form HR.out (by show 0 < (mrkM k0 ms).length; rw [HL.out]; omega)
      obtain ⟨hb1, ab, cb, hc, hr, _, _⟩ := msAt_cell HR.out (by rw [HL.out]; exact hlt)
      rw [mrkM_get hlt] at hc hr
      obtain ⟨c0, c1, c2, c3, c4, c5, c6, c7, c8⟩ := hc.m9
      clear hc
      have HS : Hid (kM k0 ms (i + 1) = kM k0 ms i + 8 + ((ms.getD i mg0).l.length : Int)) := kM_succ hlt
      have hbd := kM_bd (k := k0) i hb
      have hnb := lsum_mem hlt
      obtain ⟨nb, hnbe⟩ : ∃ nb, nb = (ms.getD i mg0).l.length := ⟨_, rfl⟩
      simp only [mgK] at c0 c1 c2 c3 c4 c5 c6 c7 c8 hr
      generalize (ms.getD i mg0).l = zs at *
      rw [mrk_len (Nat.le_refl _)] at c8
      rw [← hnbe] at c8 hr HS hnb
      obtain ⟨u1, u2⟩ := hbd
      generalize kM k0 ms i = K at *
      obtain ⟨m1, m2⟩ := mrk_at' (k0 := K + 8) hnbe.symm
      have C := heldIntS_any ab cb (mrk (K + 8) zs nb) (K + 8) w (by rw [m1]; omega) (by omega) (by omega) hr m2
      rw [m1] at C
      clear m1 m2 hnbe hr
      have e7 : K + 7 + 1 = K + 8 := by omega
      have e6 : K + 6 + 1 = K + 7 := by omega
      have e5 : K + 5 + 1 = K + 6 := by omega
      have e4 : K + 4 + 1 = K + 5 := by omega
      have e3 : K + 3 + 1 = K + 4 := by omega
      have e2 : K + 2 + 1 = K + 3 := by omega
      have e1 : K + 1 + 1 = K + 2 := by omega
      go_wp2_with fail
      try rw [e7]
      refine C.mono ?_
      rintro e w1 ⟨rfl, he1⟩
      have he1 := he1.symm
      subst he1
      go_wp2
      go_round
      case rel => exact ⟨i + 1, by omega, by go_num, by rw [HS.out]⟩
      case measure => simp [intOf]; omega
    · have hkl : i = ms.length := by omega
      subst hkl
      go_wp2
      go_ret
      exact ⟨rfl, rfl⟩
set_option maxRecDepth 100000 in
set_option maxHeartbeats 6400000 in
theorem heldReplyS_any (a : Option Addr) (cap : Nat) (ms : List Rp) (k0 : Int) (w : World) (hz : ms.length ≤ 1048576) (k1 : 0 ≤ k0) (k2 : k0 ≤ 1000000000000) (hr : LsAt tyRp w a (mrkR k0 ms)) :
    Calls Tryz.prog 114 #[.slice a ms.length cap, .int .i64 k0] w fun e w' => e = .returned (.int .i64 (k0 + 5 * (ms.length : Int))) ∧ w' = w := by
  have HR : Hid (LsAt tyRp w a (mrkR k0 ms)) := hr
  clear hr
  have HL : Hid ((mrkR k0 ms).length = ms.length) := mrkR_len k0 ms
  go_enter Tryz.func114, Tryz.ntmps114
  go_wp2_with fail
  go_loop [1, 5] (fun vk vi => ∃ i : Nat, i ≤ ms.length ∧ vi = .int .i64 i ∧ vk = .int .i64 (k0 + 5 * (i : Int))) (fun _ vi => ms.length - (intOf vi).toNat)
  case atStart => exact ⟨0, Nat.zero_le _, rfl, by simp⟩
  case round =>
    obtain ⟨i, hi, rfl, rfl⟩ := hrel
    by_cases hlt : i < ms.length
    · obtain ⟨bk, off, rfl⟩ := lsAt_form HR.out (by show 0 < (mrkR k0 ms).length; rw [HL.out]; omega)
      obtain ⟨hb1, hc⟩ := rsAt_cell HR.out (by rw [HL.out]; exact hlt)
      rw [mrkR_get hlt] at hc
      obtain ⟨c0, c1, c2, c3, c4⟩ := hc.r5
      clear hc
      simp only [rpK] at c0 c1 c2 c3 c4
      have HS : Hid (k0 + 5 * ((i + 1 : Nat) : Int) = k0 + 5 * (i : Int) + 5) := by unfold Hid; omega
      obtain ⟨K, hK⟩ : ∃ K, K = k0 + 5 * (i : Int) := ⟨_, rfl⟩
      have u1 : 0 ≤ K := by omega
      have u2 : K ≤ 1000100000000 := by omega
      rw [← hK] at c0 c1 c2 c3 c4 HS ⊢
      clear hK
      have e4 : K + 4 + 1 = K + 5 := by omega
      have e3 : K + 3 + 1 = K + 4 := by omega
      have e2 : K + 2 + 1 = K + 3 := by omega
      have e1 : K + 1 + 1 = K + 2 := by omega
      by_cases h3 : (K + 4) % 3 = 0
      · rw [decide_eq_true h3] at c4
        go_wp2
        go_round
        case rel => exact ⟨i + 1, by omega, by go_num, by rw [HS.out]⟩
        case measure => simp [intOf]; omega
      · rw [decide_eq_false h3] at c4
        go_wp2
        go_round
        case rel => exact ⟨i + 1, by omega, by go_num, by rw [HS.out]⟩
        case measure => simp [intOf]; omega
    · have hkl : i = ms.length := by omega
      subst hkl
      go_wp2
      go_ret
      exact ⟨rfl, rfl⟩
end Go.Proofs.YtdceimnapbblnaaGreat
namespace Go.Proofs.YtdceimnapbblnaaGreat
open Go.RowKit
set_option linter.unusedVariables false
set_option linter.unusedSimpArgs false
theorem within_setO {B T g : Nat} {w0 : World} (h1 : B ≤ g) (h2 : g < T) : ∀ (vs : List Value) {w : World} (o : Nat), Within B T w0 w → Within B T w0 (setO w g o vs)
  | [], w, o, h => h
  | v :: vs, w, o, h => within_setO h1 h2 vs (o + 1) (h.put h1 h2 o v)
theorem setO_more {g : Nat} {vs old rest : List Value} {w : World} {o : Nat} (h : CellsAt w g o (old ++ rest)) (hl : old.length = vs.length) : CellsAt (setO w g o vs) g o (vs ++ rest) := by
  intro j v hj
  by_cases hlt : j < vs.length
  · rw [List.getElem?_append_left hlt] at hj
    refine setO_in vs o (fun q hq => ?_) j v hj
    have hq2 : q < (old ++ rest).length := by rw [List.length_append]; omega
    exact ⟨_, h q _ (List.getElem?_eq_getElem hq2)⟩
  · rw [List.getElem?_append_right (by omega)] at hj
    refine setO_out vs o (.inr (by omega)) (h j v ?_)
    rw [List.getElem?_append_right (by omega), hl]
    exact hj
def set8 (w : World) (q o : Nat) (v0 v1 v2 v3 v4 v5 v6 v7 : Value) : World := (((((((w.setCell ⟨q, o, none⟩ v0).setCell ⟨q, o + 1, none⟩ v1).setCell ⟨q, o + 2, none⟩ v2).setCell ⟨q, o + 3, none⟩ v3).setCell ⟨q, o + 4, none⟩ v4).setCell ⟨q, o + 5, none⟩ v5).setCell ⟨q, o + 6, none⟩ v6).setCell ⟨q, o + 7, none⟩ v7
theorem set8_eq (w : World) (q o : Nat) (v0 v1 v2 v3 v4 v5 v6 v7 : Value) : set8 w q o v0 v1 v2 v3 v4 v5 v6 v7 = setO w q o [v0, v1, v2, v3, v4, v5, v6, v7] := rfl
def mgV8 (m : Mg) : List Value := [.int .i64 m.x0, .int .i64 m.x1, .int .i64 m.x2, .int .i64 m.x3, .int .i64 m.x4, .int .i64 m.x5, .int .i64 m.x6, .int .i64 m.x7]
theorem mgV_split (m : Mg) (s : Value) : mgV m s = mgV8 m ++ [s] := rfl
/-- one message's own list is marked -/
theorem markTail (B T : Nat) (w : World) (a : Option Addr) (c : Nat) (m m1 : Mg) (F : List Nat) (k : Int) (k1 : 0 ≤ k) (k2 : k ≤ 1099511627776) (hl : m1.l = mrk k m.l m.l.length) (h : tyMg.own B T w (mgV m (.slice a m.l.length c)) m F) :
    Calls Tryz.prog 53 #[.slice a m.l.length c, .int .i64 k] w fun e w' => e = .returned (.int .i64 (k + (m.l.length : Int))) ∧ (∀ q, ¬ q ∈ F → w'.heap[q]? = w.heap[q]?) ∧ Within B T w w' ∧ tyMg.own B T w' (mgV m1 (.slice a m1.l.length c)) m1 F ∧ m1.l.length = m.l.length := by
  obtain ⟨a', c', e, h1, h2, h3, h4⟩ := h
  have ee : a = a' ∧ c = c' := by
    have h9 : (mgV m (.slice a m.l.length c))[8]? = (mgV m (.slice a' m.l.length c'))[8]? := by rw [e]
    simp [mgV] at h9
    exact h9
  obtain ⟨rfl, rfl⟩ := ee
  have hml : m1.l.length = m.l.length := by rw [hl]; exact mrk_len (Nat.le_refl _)
  rcases h4 with ⟨h4, hF⟩ | ⟨g, ha, hF, hT, os⟩
  · have hz : m.l.length = 0 := by rw [h4]; rfl
    rw [hz]
    refine (markIntS_empty a c k w).mono ?_
    rintro e w1 ⟨rfl, he⟩
    have he' := he.symm
    subst he'
    refine ⟨by simp, fun _ _ => rfl, Within.refl _ _ _, ⟨a, c, rfl, by omega, by omega, fun hh => h3 hh, .inl ⟨?_, hF⟩⟩, by omega⟩
    exact List.length_eq_zero_iff.1 (by omega)
  · subst ha
    refine (markOwn_any B g c m.l k w h1 k1 k2 os).mono ?_
    rintro e w1 ⟨rfl, os1, on⟩
    refine ⟨rfl, fun q hq => on.block q (fun he => hq (by rw [hF, he]; simp)), (Within.refl B T w).only on os.lo hT, ⟨_, c, rfl, by omega, by omega, fun hh => (by cases hh), .inr ⟨g, rfl, hF, hT, by rw [hl]; exact os1⟩⟩, hml⟩
theorem own_elem9 {t : TypeId} {B T : Nat} {w : World} {g cap : Nat} {m : List Mg} {F : List Nat} (h : (tySlice t tyMg).own B T w [.slice (some ⟨g, 0, none⟩) m.length cap] m F) (hn : F.Nodup) {i : Nat} (hi : i < m.length) :
    ∃ a c Fi, CellsAt w g (i * 9) (mgV (m.getD i mg0) (.slice a (m.getD i mg0).l.length c)) ∧ tyMg.own B T w (mgV (m.getD i mg0) (.slice a (m.getD i mg0).l.length c)) (m.getD i mg0) Fi ∧ ¬ g ∈ Fi ∧ B ≤ g ∧ g < T ∧ (∃ cur, w.heap[g]? = some (.cells cur t (0, 0))) ∧
      ∀ (w1 : World) (m1 : Mg), (∃ cur1, w1.heap[g]? = some (.cells cur1 t (0, 0))) → (∀ k, ¬ k = g → ¬ k ∈ Fi → w1.heap[k]? = w.heap[k]?) →
        CellsAt w1 g (i * 9) (mgV m1 (.slice a m1.l.length c)) → (∀ j v, (j < i * 9 ∨ (i + 1) * 9 ≤ j) → w.cell? ⟨g, j, none⟩ = some v → w1.cell? ⟨g, j, none⟩ = some v) → tyMg.own B T w1 (mgV m1 (.slice a m1.l.length c)) m1 Fi →
        (tySlice t tyMg).own B T w1 [.slice (some ⟨g, 0, none⟩) m.length cap] (List.set m i m1) F := by
  obtain ⟨ci, Fi, q1, q2, q3, q4, q5, q6, q7, q8⟩ := own_focus h hn hi
  have q2' := q2
  obtain ⟨a, c, rfl, _⟩ := q2
  have bd := (tySlice t tyMg).own_bd h g q5
  exact ⟨a, c, Fi, q1, q2', q4, bd.1, bd.2.1, q7, fun w1 m1 ⟨cur1, r1⟩ r2 r3 r4 r5 => q8 w1 _ m1 cur1 r1 (fun k _ hk1 hk2 => r2 k hk1 hk2) r3 r4 r5⟩
set_option maxRecDepth 100000 in
set_option maxHeartbeats 6400000 in
theorem markMsgS_any (B T g cap0 cap : Nat) (ms : List Mg) (F : List Nat) (k0 : Int) (w : World) (hb : ms.length + lsum ms ≤ 1048576) (k1 : 0 ≤ k0) (k2 : k0 ≤ 1000000000000) (h : (tySlice 102 tyMg).own B T w [.slice (some ⟨g, 0, none⟩) ms.length cap0] ms F) (hn : F.Nodup) :
    Calls Tryz.prog 110 #[.slice (some ⟨g, 0, none⟩) ms.length cap, .int .i64 k0] w fun e w' => e = .returned (.int .i64 (kM k0 ms ms.length)) ∧ Within B T w w' ∧ (tySlice 102 tyMg).own B T w' [.slice (some ⟨g, 0, none⟩) (mrkM k0 ms).length cap0] (mrkM k0 ms) F := by
  have hz : ms.length ≤ 1048576 := by omega
  have HO : Hid ((tySlice 102 tyMg).own B T w [.slice (some ⟨g, 0, none⟩) ms.length cap0] ms F) := h
  have HN : Hid (F.Nodup) := hn
  have HBB : Hid (ms.length + lsum ms ≤ 1048576) := hb
  clear h hn hb
  go_enter Tryz.func110, Tryz.ntmps110
  go_wp2_with fail
  go_loopw [1, 5] (fun vk vi wr => ∃ (i : Nat) (M : List Mg), i ≤ ms.length ∧ vi = .int .i64 i ∧ vk = .int .i64 (kM k0 ms i) ∧ M.length = ms.length ∧ Hid (∀ j, j < i → M.getD j mg0 = (mrkM k0 ms).getD j mg0) ∧ Hid (∀ j, i ≤ j → j < ms.length → M.getD j mg0 = ms.getD j mg0) ∧ (tySlice 102 tyMg).own B T wr [.slice (some ⟨g, 0, none⟩) M.length cap0] M F ∧ Within B T w wr) (fun _ vi _ => ms.length - (intOf vi).toNat)
  case atStart => exact ⟨0, ms, Nat.zero_le _, rfl, by rw [kM_zero], rfl, fun j hj => by omega, fun j _ hj => rfl, HO.out, Within.refl _ _ _⟩
  case round =>
    obtain ⟨i, M, hi, rfl, rfl, hM, hs1, hs2, ow, wi⟩ := hrel
    have HML : Hid (M.length = ms.length) := hM
    have HOW : Hid ((tySlice 102 tyMg).own B T wr [.slice (some ⟨g, 0, none⟩) M.length cap0] M F) := ow
    have HW : Hid (Within B T w wr) := wi
    clear hM ow wi
    by_cases hlt : i < ms.length
    · have hiM : i < M.length := by rw [HML.out]; exact hlt
      have HS : Hid (kM k0 ms (i + 1) = kM k0 ms i + 8 + ((ms.getD i mg0).l.length : Int)) := kM_succ hlt
      have hbd := kM_bd (k := k0) i HBB.out
      have HMK : Hid ((mrkM k0 ms).getD i mg0 = mgK (kM k0 ms i) (ms.getD i mg0)) := mrkM_get hlt
      obtain ⟨u1, u2⟩ := hbd
      have HNB : Hid ((ms.getD i mg0).l.length ≤ 1048576) := by have := lsum_mem hlt; have := HBB.out; unfold Hid; omega
      obtain ⟨K, hK⟩ : ∃ K, K = kM k0 ms i := ⟨_, rfl⟩
      rw [← hK] at u1 u2 HS HMK ⊢
      clear hK
      obtain ⟨a, c, Fi, fc, fo, fg, fB, fT, ⟨cur, hcur⟩, fput⟩ := own_elem9 HOW.out HN.out hiM
      rw [hs2.out i (Nat.le_refl _) hlt] at fc fo
      obtain ⟨p, hp⟩ : ∃ p, p = ms.getD i mg0 := ⟨_, rfl⟩
      rw [← hp] at fc fo HS HMK HNB
      clear hp
      obtain ⟨c0, c1, c2, c3, c4, c5, c6, c7, c8⟩ := fc.m9
      have f0 : wr.frozen? ⟨g, i * 9, none⟩ = false := frozen_of_row wr _ _ _ _ hcur
      have f1 : wr.frozen? ⟨g, i * 9 + 1, none⟩ = false := frozen_of_row wr _ _ _ _ hcur
      have f2 : wr.frozen? ⟨g, i * 9 + 2, none⟩ = false := frozen_of_row wr _ _ _ _ hcur
      have f3 : wr.frozen? ⟨g, i * 9 + 3, none⟩ = false := frozen_of_row wr _ _ _ _ hcur
      have f4 : wr.frozen? ⟨g, i * 9 + 4, none⟩ = false := frozen_of_row wr _ _ _ _ hcur
      have f5 : wr.frozen? ⟨g, i * 9 + 5, none⟩ = false := frozen_of_row wr _ _ _ _ hcur
      have f6 : wr.frozen? ⟨g, i * 9 + 6, none⟩ = false := frozen_of_row wr _ _ _ _ hcur
      have f7 : wr.frozen? ⟨g, i * 9 + 7, none⟩ = false := frozen_of_row wr _ _ _ _ hcur
      have ho8 : ∀ q, ¬ q = g → (set8 wr g (i * 9) (.int .i64 K) (.int .i64 (K + 1)) (.int .i64 (K + 2)) (.int .i64 (K + 3)) (.int .i64 (K + 4)) (.int .i64 (K + 5)) (.int .i64 (K + 6)) (.int .i64 (K + 7))).heap[q]? = wr.heap[q]? := fun q hq => setO_oth hq [.int .i64 K, .int .i64 (K + 1), .int .i64 (K + 2), .int .i64 (K + 3), .int .i64 (K + 4), .int .i64 (K + 5), .int .i64 (K + 6), .int .i64 (K + 7)] wr (i * 9)
      have fo8 : tyMg.own B T (set8 wr g (i * 9) (.int .i64 K) (.int .i64 (K + 1)) (.int .i64 (K + 2)) (.int .i64 (K + 3)) (.int .i64 (K + 4)) (.int .i64 (K + 5)) (.int .i64 (K + 6)) (.int .i64 (K + 7))) (mgV p (.slice a p.l.length c)) p Fi := tyMg.own_blocks fo (fun q hq => ho8 q (fun he => fg (he ▸ hq)))
      have C := markTail B T (set8 wr g (i * 9) (.int .i64 K) (.int .i64 (K + 1)) (.int .i64 (K + 2)) (.int .i64 (K + 3)) (.int .i64 (K + 4)) (.int .i64 (K + 5)) (.int .i64 (K + 6)) (.int .i64 (K + 7))) a c p (mgK K p) Fi (K + 8) (by omega) (by omega) rfl fo8
      have HR8 : Hid (∃ cur, (set8 wr g (i * 9) (.int .i64 K) (.int .i64 (K + 1)) (.int .i64 (K + 2)) (.int .i64 (K + 3)) (.int .i64 (K + 4)) (.int .i64 (K + 5)) (.int .i64 (K + 6)) (.int .i64 (K + 7))).heap[g]? = some (.cells cur 102 (0, 0))) := setO_row [.int .i64 K, .int .i64 (K + 1), .int .i64 (K + 2), .int .i64 (K + 3), .int .i64 (K + 4), .int .i64 (K + 5), .int .i64 (K + 6), .int .i64 (K + 7)] (i * 9) ⟨cur, hcur⟩
      have HC8 : Hid (CellsAt (set8 wr g (i * 9) (.int .i64 K) (.int .i64 (K + 1)) (.int .i64 (K + 2)) (.int .i64 (K + 3)) (.int .i64 (K + 4)) (.int .i64 (K + 5)) (.int .i64 (K + 6)) (.int .i64 (K + 7))) g (i * 9) (mgV (mgK K p) (.slice a p.l.length c))) := setO_more (old := mgV8 p) (rest := [.slice a p.l.length c]) (vs := [.int .i64 K, .int .i64 (K + 1), .int .i64 (K + 2), .int .i64 (K + 3), .int .i64 (K + 4), .int .i64 (K + 5), .int .i64 (K + 6), .int .i64 (K + 7)]) fc rfl
      have HT8 : Hid (∀ j v, (j < i * 9 ∨ (i + 1) * 9 ≤ j) → wr.cell? ⟨g, j, none⟩ = some v → (set8 wr g (i * 9) (.int .i64 K) (.int .i64 (K + 1)) (.int .i64 (K + 2)) (.int .i64 (K + 3)) (.int .i64 (K + 4)) (.int .i64 (K + 5)) (.int .i64 (K + 6)) (.int .i64 (K + 7))).cell? ⟨g, j, none⟩ = some v) := fun j v hj hv => setO_out [.int .i64 K, .int .i64 (K + 1), .int .i64 (K + 2), .int .i64 (K + 3), .int .i64 (K + 4), .int .i64 (K + 5), .int .i64 (K + 6), .int .i64 (K + 7)] (i * 9) (by simp only [List.length_cons, List.length_nil]; omega) hv
      have HW8 : Hid (Within B T w (set8 wr g (i * 9) (.int .i64 K) (.int .i64 (K + 1)) (.int .i64 (K + 2)) (.int .i64 (K + 3)) (.int .i64 (K + 4)) (.int .i64 (K + 5)) (.int .i64 (K + 6)) (.int .i64 (K + 7)))) := within_setO fB fT [.int .i64 K, .int .i64 (K + 1), .int .i64 (K + 2), .int .i64 (K + 3), .int .i64 (K + 4), .int .i64 (K + 5), .int .i64 (K + 6), .int .i64 (K + 7)] (i * 9) HW.out
      have HO8 : Hid (∀ q, ¬ q = g → (set8 wr g (i * 9) (.int .i64 K) (.int .i64 (K + 1)) (.int .i64 (K + 2)) (.int .i64 (K + 3)) (.int .i64 (K + 4)) (.int .i64 (K + 5)) (.int .i64 (K + 6)) (.int .i64 (K + 7))).heap[q]? = wr.heap[q]?) := ho8
      have HP : Hid (∀ (w1 : World) (m1 : Mg), (∃ cur1, w1.heap[g]? = some (.cells cur1 102 (0, 0))) → (∀ k, ¬ k = g → ¬ k ∈ Fi → w1.heap[k]? = wr.heap[k]?) →
        CellsAt w1 g (i * 9) (mgV m1 (.slice a m1.l.length c)) → (∀ j v, (j < i * 9 ∨ (i + 1) * 9 ≤ j) → wr.cell? ⟨g, j, none⟩ = some v → w1.cell? ⟨g, j, none⟩ = some v) → tyMg.own B T w1 (mgV m1 (.slice a m1.l.length c)) m1 Fi →
        (tySlice 102 tyMg).own B T w1 [.slice (some ⟨g, 0, none⟩) M.length cap0] (List.set M i m1) F) := fput
      have HG : Hid (¬ g ∈ Fi) := fg
      clear fput fc fo fo8 ho8 hcur fg
      obtain ⟨nb, hnb⟩ : ∃ nb, nb = p.l.length := ⟨_, rfl⟩
      have HNE : Hid (nb = p.l.length) := hnb
      rw [← hnb] at c8 C HS HNB
      clear hnb
      have hnb3 : nb ≤ 1048576 := HNB.out
      generalize p.x0 = y0 at c0
      generalize p.x1 = y1 at c1
      generalize p.x2 = y2 at c2
      generalize p.x3 = y3 at c3
      generalize p.x4 = y4 at c4
      generalize p.x5 = y5 at c5
      generalize p.x6 = y6 at c6
      generalize p.x7 = y7 at c7
      have e7 : K + 7 + 1 = K + 8 := by omega
      have e6 : K + 6 + 1 = K + 7 := by omega
      have e5 : K + 5 + 1 = K + 6 := by omega
      have e4 : K + 4 + 1 = K + 5 := by omega
      have e3 : K + 3 + 1 = K + 4 := by omega
      have e2 : K + 2 + 1 = K + 3 := by omega
      have e1 : K + 1 + 1 = K + 2 := by omega
      go_wp2_with fail
      refine C.mono ?_
      rintro e w1 ⟨rfl, hoth, hwi, hown, hlen⟩
      have HW1 : Hid (Within B T w w1) := HW8.out.trans hwi
      have HC1 : Hid (CellsAt w1 g (i * 9) (mgV (mgK K p) (.slice a (mgK K p).l.length c))) := by
        have hgb := hoth g HG.out
        have := HC8.out.block hgb
        rw [hlen, HNE.out]
        exact this
      have HO2 : Hid ((tySlice 102 tyMg).own B T w1 [.slice (some ⟨g, 0, none⟩) (M.set i (mgK K p)).length cap0] (M.set i (mgK K p)) F) := by
        have hsl : (M.set i (mgK K p)).length = M.length := List.length_set
        rw [Hid, hsl]
        obtain ⟨cur8, hcur8⟩ := HR8.out
        exact HP.out w1 (mgK K p) ⟨cur8, (hoth g HG.out).trans hcur8⟩ (fun q hq1 hq2 => (hoth q hq2).trans (HO8.out q hq1)) HC1.out (fun j v hj hv => (World.cell?_of_block (a := ⟨g, j, none⟩) (hoth g HG.out)).trans (HT8.out j v hj hv)) hown
      have HS1 : Hid (∀ j, j < i + 1 → (M.set i (mgK K p)).getD j mg0 = (mrkM k0 ms).getD j mg0) := by
        intro j hj
        rw [getD_set' (by omega)]
        by_cases hij : i = j
        · subst hij; rw [if_pos rfl, HMK.out]
        · rw [if_neg hij]; exact hs1.out j (by omega)
      have HS2 : Hid (∀ j, i + 1 ≤ j → j < ms.length → (M.set i (mgK K p)).getD j mg0 = ms.getD j mg0) := fun j hj hjl => by
        rw [getD_set' (by rw [HML.out]; exact hjl), if_neg (by omega)]
        exact hs2.out j (by omega) hjl
      have HMN : Hid ((M.set i (mgK K p)).length = ms.length) := List.length_set.trans HML.out
      clear hoth hwi hown hlen C hs1 hs2
      go_wp2
      go_roundw
      case rel => exact ⟨i + 1, _, by omega, by go_num, by rw [HS.out], HMN.out, HS1, HS2, HO2.out, HW1.out⟩
      case measure => simp [intOf]; omega
    · have hie : i = ms.length := by omega
      subst hie
      have HME : Hid (M = mrkM k0 ms) := getD_seq (by rw [mrkM_len]; exact HML.out) (fun j hj => hs1.out j (by rw [mrkM_len] at hj; exact hj))
      go_wp2
      go_ret
      refine ⟨rfl, HW.out, ?_⟩
      have := HOW.out
      rw [HME.out] at this
      exact this
end Go.Proofs.YtdceimnapbblnaaGreat
namespace Go.Proofs.YtdceimnapbblnaaGreat
open Go.RowKit
set_option linter.unusedVariables false
set_option linter.unusedSimpArgs false
theorem own_elem5 {t : TypeId} {B T : Nat} {w : World} {g cap : Nat} {m : List Rp} {F : List Nat} (h : (tySlice t tyRp).own B T w [.slice (some ⟨g, 0, none⟩) m.length cap] m F) (hn : F.Nodup) {i : Nat} (hi : i < m.length) :
    CellsAt w g (i * 5) (rpV (m.getD i rp0)) ∧ B ≤ g ∧ g < T ∧ (∃ cur, w.heap[g]? = some (.cells cur t (0, 0))) ∧
      ∀ (w1 : World) (m1 : Rp), (∃ cur1, w1.heap[g]? = some (.cells cur1 t (0, 0))) → (∀ k, ¬ k = g → w1.heap[k]? = w.heap[k]?) →
        CellsAt w1 g (i * 5) (rpV m1) → (∀ j v, (j < i * 5 ∨ (i + 1) * 5 ≤ j) → w.cell? ⟨g, j, none⟩ = some v → w1.cell? ⟨g, j, none⟩ = some v) →
        (tySlice t tyRp).own B T w1 [.slice (some ⟨g, 0, none⟩) m.length cap] (List.set m i m1) F := by
  obtain ⟨ci, Fi, q1, ⟨rfl, rfl⟩, q3, q4, q5, q6, q7, q8⟩ := own_focus h hn hi
  have bd := (tySlice t tyRp).own_bd h g q5
  exact ⟨q1, bd.1, bd.2.1, q7, fun w1 m1 ⟨cur1, r1⟩ r2 r3 r4 => q8 w1 _ m1 cur1 r1 (fun k _ hk1 hk2 => r2 k hk1) r3 r4 ⟨rfl, rfl⟩⟩
set_option maxRecDepth 100000 in
set_option maxHeartbeats 6400000 in
theorem markReplyS_any (B T g cap0 cap : Nat) (ms : List Rp) (F : List Nat) (k0 : Int) (w : World) (hz : ms.length ≤ 1048576) (k1 : 0 ≤ k0) (k2 : k0 ≤ 1000000000000) (h : (tySlice 45 tyRp).own B T w [.slice (some ⟨g, 0, none⟩) ms.length cap0] ms F) (hn : F.Nodup) :
    Calls Tryz.prog 111 #[.slice (some ⟨g, 0, none⟩) ms.length cap, .int .i64 k0] w fun e w' => e = .returned (.int .i64 (k0 + 5 * (ms.length : Int))) ∧ Within B T w w' ∧ (tySlice 45 tyRp).own B T w' [.slice (some ⟨g, 0, none⟩) (mrkR k0 ms).length cap0] (mrkR k0 ms) F := by
  have HO : Hid ((tySlice 45 tyRp).own B T w [.slice (some ⟨g, 0, none⟩) ms.length cap0] ms F) := h
  have HN : Hid (F.Nodup) := hn
  clear h hn
  go_enter Tryz.func111, Tryz.ntmps111
  go_wp2_with fail
  go_loopw [1, 5] (fun vk vi wr => ∃ (i : Nat) (M : List Rp), i ≤ ms.length ∧ vi = .int .i64 i ∧ vk = .int .i64 (k0 + 5 * (i : Int)) ∧ M.length = ms.length ∧ Hid (∀ j, j < i → M.getD j rp0 = (mrkR k0 ms).getD j rp0) ∧ (tySlice 45 tyRp).own B T wr [.slice (some ⟨g, 0, none⟩) M.length cap0] M F ∧ Within B T w wr) (fun _ vi _ => ms.length - (intOf vi).toNat)
  case atStart => exact ⟨0, ms, Nat.zero_le _, rfl, by simp, rfl, fun j hj => by omega, HO.out, Within.refl _ _ _⟩
  case round =>
    obtain ⟨i, M, hi, rfl, rfl, hM, hs1, ow, wi⟩ := hrel
    have HML : Hid (M.length = ms.length) := hM
    have HOW : Hid ((tySlice 45 tyRp).own B T wr [.slice (some ⟨g, 0, none⟩) M.length cap0] M F) := ow
    have HW : Hid (Within B T w wr) := wi
    clear hM ow wi
    by_cases hlt : i < ms.length
    · have hiM : i < M.length := by rw [HML.out]; exact hlt
      have HMK : Hid ((mrkR k0 ms).getD i rp0 = rpK (k0 + 5 * (i : Int))) := mrkR_get hlt
      have HS : Hid (k0 + 5 * ((i + 1 : Nat) : Int) = k0 + 5 * (i : Int) + 5) := by unfold Hid; omega
      obtain ⟨K, hK⟩ : ∃ K, K = k0 + 5 * (i : Int) := ⟨_, rfl⟩
      have u1 : 0 ≤ K := by omega
      have u2 : K ≤ 1000100000000 := by omega
      rw [← hK] at HMK HS ⊢
      clear hK
      obtain ⟨fc, fB, fT, ⟨cur, hcur⟩, fput⟩ := own_elem5 HOW.out HN.out hiM
      generalize M.getD i rp0 = p at fc
      obtain ⟨c0, c1, c2, c3, c4⟩ := fc.r5
      have f0 : wr.frozen? ⟨g, i * 5, none⟩ = false := frozen_of_row wr _ _ _ _ hcur
      have f1 : wr.frozen? ⟨g, i * 5 + 1, none⟩ = false := frozen_of_row wr _ _ _ _ hcur
      have f2 : wr.frozen? ⟨g, i * 5 + 2, none⟩ = false := frozen_of_row wr _ _ _ _ hcur
      have f3 : wr.frozen? ⟨g, i * 5 + 3, none⟩ = false := frozen_of_row wr _ _ _ _ hcur
      have f4 : wr.frozen? ⟨g, i * 5 + 4, none⟩ = false := frozen_of_row wr _ _ _ _ hcur
      have HO2 : Hid ((tySlice 45 tyRp).own B T (set5 wr g (i * 5) (.int .i64 K) (.int .i64 (K + 1)) (.int .i64 (K + 2)) (.int .i64 (K + 3)) (.bool (decide ((K + 4) % 3 = 0)))) [.slice (some ⟨g, 0, none⟩) (M.set i (rpK K)).length cap0] (M.set i (rpK K)) F) := by
        have hsl : (M.set i (rpK K)).length = M.length := List.length_set
        rw [Hid, hsl]
        refine fput (set5 wr g (i * 5) (.int .i64 K) (.int .i64 (K + 1)) (.int .i64 (K + 2)) (.int .i64 (K + 3)) (.bool (decide ((K + 4) % 3 = 0)))) (rpK K) (setO_row [.int .i64 K, .int .i64 (K + 1), .int .i64 (K + 2), .int .i64 (K + 3), .bool (decide ((K + 4) % 3 = 0))] (i * 5) ⟨cur, hcur⟩) (fun q hq => setO_oth hq [.int .i64 K, .int .i64 (K + 1), .int .i64 (K + 2), .int .i64 (K + 3), .bool (decide ((K + 4) % 3 = 0))] wr (i * 5)) ?_ (fun j v hj hv => setO_out [.int .i64 K, .int .i64 (K + 1), .int .i64 (K + 2), .int .i64 (K + 3), .bool (decide ((K + 4) % 3 = 0))] (i * 5) (by simp only [List.length_cons, List.length_nil]; omega) hv)
        exact setO_more (old := rpV p) (rest := []) (vs := [.int .i64 K, .int .i64 (K + 1), .int .i64 (K + 2), .int .i64 (K + 3), .bool (decide ((K + 4) % 3 = 0))]) (by rw [List.append_nil]; exact fc) rfl
      have HW1 : Hid (Within B T w (set5 wr g (i * 5) (.int .i64 K) (.int .i64 (K + 1)) (.int .i64 (K + 2)) (.int .i64 (K + 3)) (.bool (decide ((K + 4) % 3 = 0))))) := within_setO fB fT [.int .i64 K, .int .i64 (K + 1), .int .i64 (K + 2), .int .i64 (K + 3), .bool (decide ((K + 4) % 3 = 0))] (i * 5) HW.out
      have HS1 : Hid (∀ j, j < i + 1 → (M.set i (rpK K)).getD j rp0 = (mrkR k0 ms).getD j rp0) := fun j hj => by
        rw [getD_set' (by omega)]
        by_cases hij : i = j
        · subst hij; rw [if_pos rfl, HMK.out]
        · rw [if_neg hij]; exact hs1.out j (by omega)
      have HMN : Hid ((M.set i (rpK K)).length = ms.length) := List.length_set.trans HML.out
      clear fput fc hcur hs1
      generalize p.x0 = y0 at c0
      generalize p.x1 = y1 at c1
      generalize p.x2 = y2 at c2
      generalize p.x3 = y3 at c3
      generalize p.b = y4 at c4
      have e4 : K + 4 + 1 = K + 5 := by omega
      have e3 : K + 3 + 1 = K + 4 := by omega
      have e2 : K + 2 + 1 = K + 3 := by omega
      have e1 : K + 1 + 1 = K + 2 := by omega
      by_cases h3 : (K + 4) % 3 = 0
      · rw [decide_eq_true h3] at HO2 HW1
        go_wp2
        go_roundw
        case rel => exact ⟨i + 1, _, by omega, by go_num, by rw [HS.out], HMN.out, HS1, HO2.out, HW1.out⟩
        case measure => simp [intOf]; omega
      · rw [decide_eq_false h3] at HO2 HW1
        have h3b : ((K + 4) % 3 == 0) = false := by simpa using h3
        clear h3
        go_wp2
        go_roundw
        case rel => exact ⟨i + 1, _, by omega, by go_num, by rw [HS.out], HMN.out, HS1, HO2.out, HW1.out⟩
        case measure => simp [intOf]; omega
    · have hie : i = ms.length := by omega
      subst hie
      have HME : Hid (M = mrkR k0 ms) := getD_seq (by rw [mrkR_len]; exact HML.out) (fun j hj => hs1.out j (by rw [mrkR_len] at hj; exact hj))
      go_wp2
      go_ret
      refine ⟨rfl, HW.out, ?_⟩
      have := HOW.out
      rw [HME.out] at this
      exact this
end Go.Proofs.YtdceimnapbblnaaGreat
namespace Go.Proofs.YtdceimnapbblnaaGreat
open Go.RowKit
set_option linter.unusedVariables false
set_option linter.unusedSimpArgs false
set_option maxRecDepth 100000 in
set_option maxHeartbeats 3200000 in
theorem eqMsgS_same (a a' : Option Addr) (cap cap' : Nat) (ms : List Mg) (w : World) (hm : ms.length + lsum ms ≤ 1048576) (hx : LsAt tyMg w a ms) (hy : LsAt tyMg w a' ms) :
    Calls Tryz.prog 108 #[.slice a ms.length cap, .slice a' ms.length cap'] w fun e w' => e = .returned (.bool true) ∧ Below w.heap.size w w' := by
  have HX : Hid (LsAt tyMg w a ms) := hx
  have HY : Hid (LsAt tyMg w a' ms) := hy
  have HMM : Hid (ms.length + lsum ms ≤ 1048576) := hm
  have hm1 : ms.length ≤ 1048576 := by omega
  clear hx hy hm
  go_enter Tryz.func108, Tryz.ntmps108
  go_wp2_with fail
  go_loopw [5] (fun vi wr => ∃ k : Nat, k ≤ ms.length ∧ vi = .int .i64 k ∧ Below w.heap.size w wr) (fun vi _ => ms.length - (intOf vi).toNat)
  case atStart => exact ⟨0, Nat.zero_le _, rfl, Below.refl _ _⟩
  case round =>
    obtain ⟨k, hk, rfl, hbel⟩ := hrel
    by_cases hlt : k < ms.length
    · obtain ⟨bk, off, rfl⟩ := lsAt_form HX.out (by show 0 < ms.length; omega)
      obtain ⟨bk2, off2, rfl⟩ := lsAt_form HY.out (by show 0 < ms.length; omega)
      obtain ⟨hb1, ab, cb, hc, hr, hn, hcb⟩ := msAt_cell (HX.out.keep hbel) hlt
      obtain ⟨hb2, ab2, cb2, hc2, hr2, hn2, hcb2⟩ := msAt_cell (HY.out.keep hbel) hlt
      obtain ⟨c0, c1, c2, c3, c4, c5, c6, c7, c8⟩ := hc.m9
      obtain ⟨d0, d1, d2, d3, d4, d5, d6, d7, d8⟩ := hc2.m9
      have HML : Hid ((ms.getD k mg0).l.length ≤ 1048576) := by have := lsum_mem hlt; have := HMM.out; unfold Hid; omega
      clear hc hc2 hcb hcb2 hn2 hn
      generalize ms.getD k mg0 = p at *
      obtain ⟨x0, x1, x2, x3, x4, x5, x6, x7, l⟩ := p
      have g0 : ∀ q : Kin wr.heap.size wr, q.v.cell? ⟨bk, off + k * 9, none⟩ = some (.int .i64 x0) := kin_cell hb1 c0
      have f0 : ∀ q : Kin wr.heap.size wr, q.v.cell? ⟨bk2, off2 + k * 9, none⟩ = some (.int .i64 x0) := kin_cell hb2 d0
      have g1 : ∀ q : Kin wr.heap.size wr, q.v.cell? ⟨bk, off + k * 9 + 1, none⟩ = some (.int .i64 x1) := kin_cell hb1 c1
      have f1 : ∀ q : Kin wr.heap.size wr, q.v.cell? ⟨bk2, off2 + k * 9 + 1, none⟩ = some (.int .i64 x1) := kin_cell hb2 d1
      have g2 : ∀ q : Kin wr.heap.size wr, q.v.cell? ⟨bk, off + k * 9 + 2, none⟩ = some (.int .i64 x2) := kin_cell hb1 c2
      have f2 : ∀ q : Kin wr.heap.size wr, q.v.cell? ⟨bk2, off2 + k * 9 + 2, none⟩ = some (.int .i64 x2) := kin_cell hb2 d2
      have g3 : ∀ q : Kin wr.heap.size wr, q.v.cell? ⟨bk, off + k * 9 + 3, none⟩ = some (.int .i64 x3) := kin_cell hb1 c3
      have f3 : ∀ q : Kin wr.heap.size wr, q.v.cell? ⟨bk2, off2 + k * 9 + 3, none⟩ = some (.int .i64 x3) := kin_cell hb2 d3
      have g4 : ∀ q : Kin wr.heap.size wr, q.v.cell? ⟨bk, off + k * 9 + 4, none⟩ = some (.int .i64 x4) := kin_cell hb1 c4
      have f4 : ∀ q : Kin wr.heap.size wr, q.v.cell? ⟨bk2, off2 + k * 9 + 4, none⟩ = some (.int .i64 x4) := kin_cell hb2 d4
      have g5 : ∀ q : Kin wr.heap.size wr, q.v.cell? ⟨bk, off + k * 9 + 5, none⟩ = some (.int .i64 x5) := kin_cell hb1 c5
      have f5 : ∀ q : Kin wr.heap.size wr, q.v.cell? ⟨bk2, off2 + k * 9 + 5, none⟩ = some (.int .i64 x5) := kin_cell hb2 d5
      have g6 : ∀ q : Kin wr.heap.size wr, q.v.cell? ⟨bk, off + k * 9 + 6, none⟩ = some (.int .i64 x6) := kin_cell hb1 c6
      have f6 : ∀ q : Kin wr.heap.size wr, q.v.cell? ⟨bk2, off2 + k * 9 + 6, none⟩ = some (.int .i64 x6) := kin_cell hb2 d6
      have g7 : ∀ q : Kin wr.heap.size wr, q.v.cell? ⟨bk, off + k * 9 + 7, none⟩ = some (.int .i64 x7) := kin_cell hb1 c7
      have f7 : ∀ q : Kin wr.heap.size wr, q.v.cell? ⟨bk2, off2 + k * 9 + 7, none⟩ = some (.int .i64 x7) := kin_cell hb2 d7
      have g8 : ∀ q : Kin wr.heap.size wr, q.v.cell? ⟨bk, off + k * 9 + 8, none⟩ = some (.slice ab l.length cb) := kin_cell hb1 c8
      have f8 : ∀ q : Kin wr.heap.size wr, q.v.cell? ⟨bk2, off2 + k * 9 + 8, none⟩ = some (.slice ab2 l.length cb2) := kin_cell hb2 d8
      have HRA : Hid (RowAt wr ab l) := hr
      have HRB : Hid (RowAt wr ab2 l) := hr2
      clear c0 c1 c2 c3 c4 c5 c6 c7 c8 d0 d1 d2 d3 d4 d5 d6 d7 d8 hr hr2
      go_wp2
      refine region_kin wr.heap.size (by kernel_rfl) (by kernel_rfl) (fun hne => ?_)
      repeat (go_big_quiet_step ((go_at_call 164; exact kin_of (Nat.le_refl _) (Wire.eqMsg_own x0 x1 x2 x3 x4 x5 x6 x7 ab ab2 cb cb2 l.length l _ rfl HML.out (HRA.out.keepB (Kin.bel _) (Nat.le_refl _)) (HRB.out.keepB (Kin.bel _) (Nat.le_refl _))))))
      refine wpQuiet_nil ?_
      intro xw hw'
      obtain ⟨⟨w1, hw1⟩, hw1'⟩ := hw'
      have hw1'' : w1 = xw := hw1'.symm
      subst hw1''
      clear g0 g1 g2 g3 g4 g5 g6 g7 g8 f0 f1 f2 f3 f4 f5 f6 f7 f8 hne
      have hbel1 := belt hbel hw1
      have hkw : IntKind.i64.wrap ((k : Int) + 1) = (k : Int) + 1 := by rw [IntKind.wrap_i64]; omega
      go_wp2
      go_roundw
      case rel => exact ⟨k + 1, by omega, by go_num, hbel1⟩
      case measure => simp [intOf]; omega
    · go_wp2
      go_ret
      exact ⟨rfl, hbel⟩
set_option maxHeartbeats 1600000 in
theorem eqReply_same (x0 x1 x2 x3 : Int) (b : Bool) (w : World) :
    Calls Tryz.prog 165 #[.agg #[.int .i64 x0, .int .i64 x1, .int .i64 x2, .int .i64 x3, .bool b], .agg #[.int .i64 x0, .int .i64 x1, .int .i64 x2, .int .i64 x3, .bool b]] w fun e w' => e = .returned (.bool true) ∧ Below w.heap.size w w' := by
  have hbb := bne_self_bool b
  go_enter Tryz.func165, Tryz.ntmps165
  go_wp2
  go_ret
  exact ⟨rfl, ((Below.refl _ _).alloc (Nat.le_refl _) _).alloc (by simp) _⟩
set_option maxRecDepth 100000 in
set_option maxHeartbeats 3200000 in
theorem eqReplyS_same (a a' : Option Addr) (cap cap' : Nat) (ms : List Rp) (w : World) (hm : ms.length ≤ 1048576) (hx : LsAt tyRp w a ms) (hy : LsAt tyRp w a' ms) :
    Calls Tryz.prog 109 #[.slice a ms.length cap, .slice a' ms.length cap'] w fun e w' => e = .returned (.bool true) ∧ Below w.heap.size w w' := by
  have HX : Hid (LsAt tyRp w a ms) := hx
  have HY : Hid (LsAt tyRp w a' ms) := hy
  clear hx hy
  go_enter Tryz.func109, Tryz.ntmps109
  go_wp2_with fail
  go_loopw [5] (fun vi wr => ∃ k : Nat, k ≤ ms.length ∧ vi = .int .i64 k ∧ Below w.heap.size w wr) (fun vi _ => ms.length - (intOf vi).toNat)
  case atStart => exact ⟨0, Nat.zero_le _, rfl, Below.refl _ _⟩
  case round =>
    obtain ⟨k, hk, rfl, hbel⟩ := hrel
    by_cases hlt : k < ms.length
    · obtain ⟨bk, off, rfl⟩ := lsAt_form HX.out (by show 0 < ms.length; omega)
      obtain ⟨bk2, off2, rfl⟩ := lsAt_form HY.out (by show 0 < ms.length; omega)
      obtain ⟨hb1, hc⟩ := rsAt_cell (HX.out.keep hbel) hlt
      obtain ⟨hb2, hc2⟩ := rsAt_cell (HY.out.keep hbel) hlt
      obtain ⟨c0, c1, c2, c3, c4⟩ := hc.r5
      obtain ⟨d0, d1, d2, d3, d4⟩ := hc2.r5
      clear hc hc2
      generalize ms.getD k rp0 = p at *
      obtain ⟨x0, x1, x2, x3, b⟩ := p
      have g0 : ∀ q : Kin wr.heap.size wr, q.v.cell? ⟨bk, off + k * 5, none⟩ = some (.int .i64 x0) := kin_cell hb1 c0
      have f0 : ∀ q : Kin wr.heap.size wr, q.v.cell? ⟨bk2, off2 + k * 5, none⟩ = some (.int .i64 x0) := kin_cell hb2 d0
      have g1 : ∀ q : Kin wr.heap.size wr, q.v.cell? ⟨bk, off + k * 5 + 1, none⟩ = some (.int .i64 x1) := kin_cell hb1 c1
      have f1 : ∀ q : Kin wr.heap.size wr, q.v.cell? ⟨bk2, off2 + k * 5 + 1, none⟩ = some (.int .i64 x1) := kin_cell hb2 d1
      have g2 : ∀ q : Kin wr.heap.size wr, q.v.cell? ⟨bk, off + k * 5 + 2, none⟩ = some (.int .i64 x2) := kin_cell hb1 c2
      have f2 : ∀ q : Kin wr.heap.size wr, q.v.cell? ⟨bk2, off2 + k * 5 + 2, none⟩ = some (.int .i64 x2) := kin_cell hb2 d2
      have g3 : ∀ q : Kin wr.heap.size wr, q.v.cell? ⟨bk, off + k * 5 + 3, none⟩ = some (.int .i64 x3) := kin_cell hb1 c3
      have f3 : ∀ q : Kin wr.heap.size wr, q.v.cell? ⟨bk2, off2 + k * 5 + 3, none⟩ = some (.int .i64 x3) := kin_cell hb2 d3
      have g4 : ∀ q : Kin wr.heap.size wr, q.v.cell? ⟨bk, off + k * 5 + 4, none⟩ = some (.bool b) := kin_cell hb1 c4
      have f4 : ∀ q : Kin wr.heap.size wr, q.v.cell? ⟨bk2, off2 + k * 5 + 4, none⟩ = some (.bool b) := kin_cell hb2 d4
      clear c0 c1 c2 c3 c4 d0 d1 d2 d3 d4
      go_wp2
      refine region_kin wr.heap.size (by kernel_rfl) (by kernel_rfl) (fun hne => ?_)
      repeat (go_big_quiet_step ((go_at_call 165; exact kin_of (Nat.le_refl _) (eqReply_same x0 x1 x2 x3 b _))))
      refine wpQuiet_nil ?_
      intro xw hw'
      obtain ⟨⟨w1, hw1⟩, hw1'⟩ := hw'
      have hw1'' : w1 = xw := hw1'.symm
      subst hw1''
      clear g0 g1 g2 g3 g4 f0 f1 f2 f3 f4 hne
      have hbel1 := belt hbel hw1
      have hkw : IntKind.i64.wrap ((k : Int) + 1) = (k : Int) + 1 := by rw [IntKind.wrap_i64]; omega
      go_wp2
      go_roundw
      case rel => exact ⟨k + 1, by omega, by go_num, hbel1⟩
      case measure => simp [intOf]; omega
    · go_wp2
      go_ret
      exact ⟨rfl, hbel⟩
end Go.Proofs.YtdceimnapbblnaaGreat
namespace Go.Proofs.YtdceimnapbblnaaGreat
open Go.RowKit
set_option linter.unusedVariables false
set_option linter.unusedSimpArgs false
/-- what the slices of a net read as -/
structure NetAt (w : World) (ap am ag ar : Option Addr) (ps : List Pr) (ms : List Mg) (gs : List Int) (rs : List Rp) : Prop where
  p : PeersAt w ap ps
  m : LsAt tyMg w am ms
  g : RowAt w ag gs
  r : LsAt tyRp w ar rs
theorem NetAt.keep {w w1 : World} {ap am ag ar : Option Addr} {ps : List Pr} {ms : List Mg} {gs : List Int} {rs : List Rp} (h : NetAt w ap am ag ar ps ms gs rs) (hb : Below w.heap.size w w1) : NetAt w1 ap am ag ar ps ms gs rs := ⟨h.p.keep hb, h.m.keep hb, h.g.keep hb, h.r.keep hb⟩
structure BigN (ps : List Pr) (ms : List Mg) (gs : List Int) (rs : List Rp) : Prop where
  p : ps.length + bsum ps ≤ 1048576
  m : ms.length + lsum ms ≤ 1048576
  g : gs.length ≤ 1048576
  r : rs.length ≤ 1048576
theorem szPeers_all (b d : Int) (a : Option Addr) (cap : Nat) (ps : List Pr) (w : World) (hm : ps.length ≤ maxLen) (hr : PeersAt w a ps) :
    Calls Tryz.prog 43 #[.agg #[.int .i64 b, .int .i64 d, .slice a ps.length cap], .int .i64 1048576] w fun e w' => ∃ v : Int, e = .returned (.int .i64 v) ∧ (v < 0 ∨ (0 ≤ v ∧ ps.length + bsum ps ≤ 1048576)) ∧ v ≤ 1048576 ∧ Below w.heap.size w w' := by
  have hr1 := hr.alloc (.cells #[.int .i64 b, .int .i64 d, .slice a ps.length cap] 67)
  go_enter Tryz.func43, Tryz.ntmps43
  go_wp2_with fail
  refine (szPeerS_any a cap ps _ hm hr1).mono ?_
  rintro e w1 ⟨v, rfl, hv, v1, v2, hw1⟩
  by_cases hn : v < 0
  · go_wp2
    go_ret
    exact ⟨-1, rfl, .inl (by omega), by omega, bel1 hw1 (by simp)⟩
  · go_wp2
    go_ret
    exact ⟨v, rfl, hv, v2, bel1 hw1 (by simp)⟩
theorem szIntS_all (a : Option Addr) (n cap : Nat) (l : Int) (w : World) (hn : n ≤ maxLen) (l1 : 0 ≤ l) (l2 : l ≤ 1048576) :
    Calls Tryz.prog 104 #[.slice a n cap, .int .i64 l] w fun e w' => ∃ v : Int, e = .returned (.int .i64 v) ∧ (v < 0 ∨ (0 ≤ v ∧ n ≤ 1048576)) ∧ v ≤ 1048576 ∧ Below w.heap.size w w' := by
  refine (szIntS_any a n cap l w hn l1 l2).mono ?_
  rintro e w1 ⟨rfl, rfl⟩
  refine ⟨_, rfl, ?_, ?_, Below.refl _ _⟩ <;> by_cases h : l - (n : Int) < 0
  · rw [if_pos h]; exact .inl (by omega)
  · rw [if_neg h]; exact .inr ⟨by omega, by omega⟩
  · rw [if_pos h]; omega
  · rw [if_neg h]; omega
theorem szReplyS_all (a : Option Addr) (n cap : Nat) (l : Int) (w : World) (hn : n ≤ maxLen) (l1 : 0 ≤ l) (l2 : l ≤ 1048576) :
    Calls Tryz.prog 105 #[.slice a n cap, .int .i64 l] w fun e w' => ∃ v : Int, e = .returned (.int .i64 v) ∧ (v < 0 ∨ (0 ≤ v ∧ n ≤ 1048576)) ∧ v ≤ 1048576 ∧ Below w.heap.size w w' := by
  refine (szReplyS_any a cap n l w hn l1 l2).mono ?_
  rintro e w1 ⟨rfl, rfl⟩
  refine ⟨_, rfl, ?_, ?_, Below.refl _ _⟩ <;> by_cases h : l - (n : Int) < 0
  · rw [if_pos h]; exact .inl (by omega)
  · rw [if_neg h]; exact .inr ⟨by omega, by omega⟩
  · rw [if_pos h]; omega
  · rw [if_neg h]; omega
theorem BxV.n7 {w wr : World} {x0 x1 x2 x3 x4 x5 x6 : Value} {T : TypeId} (h : BxV w wr #[x0, x1, x2, x3, x4, x5, x6] T) : wr.cell? ⟨w.heap.size, 0, none⟩ = some x0 ∧ wr.cell? ⟨w.heap.size, 1, none⟩ = some x1 ∧ wr.cell? ⟨w.heap.size, 2, none⟩ = some x2 ∧ wr.cell? ⟨w.heap.size, 3, none⟩ = some x3 ∧ wr.cell? ⟨w.heap.size, 4, none⟩ = some x4 ∧ wr.cell? ⟨w.heap.size, 5, none⟩ = some x5 ∧ wr.cell? ⟨w.heap.size, 6, none⟩ = some x6 :=
  ⟨(cell_of_row wr _ _ _ _ _ h.row).trans rfl, (cell_of_row wr _ _ _ _ _ h.row).trans rfl, (cell_of_row wr _ _ _ _ _ h.row).trans rfl, (cell_of_row wr _ _ _ _ _ h.row).trans rfl, (cell_of_row wr _ _ _ _ _ h.row).trans rfl, (cell_of_row wr _ _ _ _ _ h.row).trans rfl, (cell_of_row wr _ _ _ _ _ h.row).trans rfl⟩
theorem bxv14 {w w4 wr : World} {x0 x1 x2 x3 x4 x5 x6 y0 y1 y2 y3 y4 y5 y6 : Value} {T T' : TypeId} (h : BxV w wr #[x0, x1, x2, x3, x4, x5, x6] T) (k : BxV w4 wr #[y0, y1, y2, y3, y4, y5, y6] T') : wr.cell? ⟨w.heap.size, 0, none⟩ = some x0 ∧ wr.cell? ⟨w.heap.size, 1, none⟩ = some x1 ∧ wr.cell? ⟨w.heap.size, 2, none⟩ = some x2 ∧ wr.cell? ⟨w.heap.size, 3, none⟩ = some x3 ∧ wr.cell? ⟨w.heap.size, 4, none⟩ = some x4 ∧ wr.cell? ⟨w.heap.size, 5, none⟩ = some x5 ∧ wr.cell? ⟨w.heap.size, 6, none⟩ = some x6 ∧ wr.cell? ⟨w4.heap.size, 0, none⟩ = some y0 ∧ wr.cell? ⟨w4.heap.size, 1, none⟩ = some y1 ∧ wr.cell? ⟨w4.heap.size, 2, none⟩ = some y2 ∧ wr.cell? ⟨w4.heap.size, 3, none⟩ = some y3 ∧ wr.cell? ⟨w4.heap.size, 4, none⟩ = some y4 ∧ wr.cell? ⟨w4.heap.size, 5, none⟩ = some y5 ∧ wr.cell? ⟨w4.heap.size, 6, none⟩ = some y6 :=
  ⟨h.n7.1, h.n7.2.1, h.n7.2.2.1, h.n7.2.2.2.1, h.n7.2.2.2.2.1, h.n7.2.2.2.2.2.1, h.n7.2.2.2.2.2.2, k.n7.1, k.n7.2.1, k.n7.2.2.1, k.n7.2.2.2.1, k.n7.2.2.2.2.1, k.n7.2.2.2.2.2.1, k.n7.2.2.2.2.2.2⟩
set_option maxHeartbeats 1600000 in
theorem szNet_any (b d ttl : Int) (ap am ag ar : Option Addr) (cp cm cg cr : Nat) (ps : List Pr) (ms : List Mg) (gs : List Int) (rs : List Rp) (w : World) (hp : ps.length ≤ maxLen) (hm : ms.length ≤ maxLen) (hg : gs.length ≤ maxLen) (hq : rs.length ≤ maxLen) (hr : NetAt w ap am ag ar ps ms gs rs) :
    Calls Tryz.prog 38 #[.agg #[.int .i64 b, .int .i64 d, .slice ap ps.length cp, .int .i64 ttl, .slice am ms.length cm, .slice ag gs.length cg, .slice ar rs.length cr], .int .i64 1048576] w fun e w' => ∃ v : Int, e = .returned (.int .i64 v) ∧ (v < 0 ∨ BigN ps ms gs rs) ∧ Below w.heap.size w w' := by
  have HR : Hid (NetAt w ap am ag ar ps ms gs rs) := hr
  clear hr
  go_enter Tryz.func38, Tryz.ntmps38
  go_wp2_with fail
  refine (szPeers_all b d ap cp ps _ hp (HR.out.keep (belA _ _)).p).mono ?_
  rintro e w1 ⟨v1, rfl, hv1, u1, HW⟩
  have BX1 : Hid (BxV w w1 #[.int .i64 b, .int .i64 d, .slice ap ps.length cp, .int .i64 ttl, .slice am ms.length cm, .slice ag gs.length cg, .slice ar rs.length cr] 71) := bxV1 HW
  have BEL1 : Hid (Below w.heap.size w w1) := belt (belA _ _) HW
  clear HW
  obtain ⟨q0, q1, q2, q3, q4, q5, q6⟩ := BX1.out.n7
  by_cases hn1 : v1 < 0
  · go_wp2
    go_ret
    exact ⟨-1, rfl, .inl (by omega), BEL1.out⟩
  have z1 : 0 ≤ v1 := by omega
  have HP : Hid (ps.length + bsum ps ≤ 1048576) := by
    rcases hv1 with h | h
    · exact absurd h hn1
    · exact h.2
  clear hv1
  go_wp2_with fail
  refine (szMsgS_any am cm ms v1 _ hm z1 u1 (HR.out.keep BEL1.out).m).mono ?_
  rintro e w2 ⟨v2, rfl, hv2, _, u2, HW⟩
  have BX2 : Hid (BxV w w2 #[.int .i64 b, .int .i64 d, .slice ap ps.length cp, .int .i64 ttl, .slice am ms.length cm, .slice ag gs.length cg, .slice ar rs.length cr] 71) := BX1.out.keep HW
  have BEL2 : Hid (Below w.heap.size w w2) := belt BEL1.out HW
  clear HW q0 q1 q2 q3 q4 q5 q6 BX1 BEL1 u1 z1 hn1
  obtain ⟨q0, q1, q2, q3, q4, q5, q6⟩ := BX2.out.n7
  by_cases hn1 : v2 < 0
  · go_wp2
    go_ret
    exact ⟨-1, rfl, .inl (by omega), BEL2.out⟩
  have z1 : 0 ≤ v2 := by omega
  have HM : Hid (ms.length + lsum ms ≤ 1048576) := by
    rcases hv2 with h | h
    · exact absurd h hn1
    · exact h.2
  clear hv2
  go_wp2_with fail
  refine (szIntS_all ag gs.length cg v2 _ hg z1 u2).mono ?_
  rintro e w3 ⟨v3, rfl, hv3, u3, HW⟩
  have BX3 : Hid (BxV w w3 #[.int .i64 b, .int .i64 d, .slice ap ps.length cp, .int .i64 ttl, .slice am ms.length cm, .slice ag gs.length cg, .slice ar rs.length cr] 71) := BX2.out.keep HW
  have BEL3 : Hid (Below w.heap.size w w3) := belt BEL2.out HW
  clear HW q0 q1 q2 q3 q4 q5 q6 BX2 BEL2 u2 z1 hn1
  obtain ⟨q0, q1, q2, q3, q4, q5, q6⟩ := BX3.out.n7
  by_cases hn1 : v3 < 0
  · go_wp2
    go_ret
    exact ⟨-1, rfl, .inl (by omega), BEL3.out⟩
  have z1 : 0 ≤ v3 := by omega
  have HG : Hid (gs.length ≤ 1048576) := by
    rcases hv3 with h | h
    · exact absurd h hn1
    · exact h.2
  clear hv3
  go_wp2_with fail
  refine (szReplyS_all ar rs.length cr v3 _ hq z1 u3).mono ?_
  rintro e w4 ⟨v4, rfl, hv4, u4, HW⟩
  have BEL4 : Hid (Below w.heap.size w w4) := belt BEL3.out HW
  clear HW q0 q1 q2 q3 q4 q5 q6 BX3 BEL3 u3 z1 hn1
  by_cases hn1 : v4 < 0
  · go_wp2
    go_ret
    exact ⟨-1, rfl, .inl (by omega), BEL4.out⟩
  have HQ : Hid (BigN ps ms gs rs) := by
    rcases hv4 with h | h
    · exact absurd h hn1
    · exact ⟨HP.out, HM.out, HG.out, h.2⟩
  clear hv4
  go_wp2
  go_ret
  exact ⟨v4, rfl, .inr HQ.out, BEL4.out⟩
set_option maxHeartbeats 1600000 in
theorem eqNet_same (b d ttl : Int) (ap am ag ar ap' am' ag' ar' : Option Addr) (cp cm cg cr cp' cm' cg' cr' : Nat) (ps : List Pr) (ms : List Mg) (gs : List Int) (rs : List Rp) (w : World) (hb : BigN ps ms gs rs) (hx : NetAt w ap am ag ar ps ms gs rs) (hy : NetAt w ap' am' ag' ar' ps ms gs rs) :
    Calls Tryz.prog 40 #[.agg #[.int .i64 b, .int .i64 d, .slice ap ps.length cp, .int .i64 ttl, .slice am ms.length cm, .slice ag gs.length cg, .slice ar rs.length cr], .agg #[.int .i64 b, .int .i64 d, .slice ap' ps.length cp', .int .i64 ttl, .slice am' ms.length cm', .slice ag' gs.length cg', .slice ar' rs.length cr']] w fun e w' => e = .returned (.bool true) ∧ Below w.heap.size w w' := by
  have HB : Hid (BigN ps ms gs rs) := hb
  have HX : Hid (NetAt w ap am ag ar ps ms gs rs) := hx
  have HY : Hid (NetAt w ap' am' ag' ar' ps ms gs rs) := hy
  have BEL0 : Hid (Below w.heap.size w ((w.alloc (.cells #[.int .i64 b, .int .i64 d, .slice ap ps.length cp, .int .i64 ttl, .slice am ms.length cm, .slice ag gs.length cg, .slice ar rs.length cr] 36)).alloc (.cells #[.int .i64 b, .int .i64 d, .slice ap' ps.length cp', .int .i64 ttl, .slice am' ms.length cm', .slice ag' gs.length cg', .slice ar' rs.length cr'] 36))) := ((Below.refl _ _).alloc (Nat.le_refl _) _).alloc (by simp) _
  clear hb hx hy
  go_enter Tryz.func40, Tryz.ntmps40
  go_wp2_with fail
  refine (eqPeers_own b d ap ap' cp cp' ps.length ps _ rfl (by have := HB.out.p; omega) (HX.out.keep BEL0.out).p (HY.out.keep BEL0.out).p).mono ?_
  rintro e w1 ⟨rfl, HW⟩
  have BX1 : Hid (BxV w w1 #[.int .i64 b, .int .i64 d, .slice ap ps.length cp, .int .i64 ttl, .slice am ms.length cm, .slice ag gs.length cg, .slice ar rs.length cr] 36) := (BxV.keep ⟨(heap_alloc_old _ _ (by simp)).trans (heap_alloc_new _ _)⟩ HW)
  have BY1 : Hid (BxV (w.alloc (.cells #[.int .i64 b, .int .i64 d, .slice ap ps.length cp, .int .i64 ttl, .slice am ms.length cm, .slice ag gs.length cg, .slice ar rs.length cr] 36)) w1 #[.int .i64 b, .int .i64 d, .slice ap' ps.length cp', .int .i64 ttl, .slice am' ms.length cm', .slice ag' gs.length cg', .slice ar' rs.length cr'] 36) := bxV1 HW
  have BEL1 : Hid (Below w.heap.size w w1) := belt BEL0.out HW
  clear HW BEL0
  obtain ⟨q0, q1, q2, q3, q4, q5, q6⟩ := BX1.out.n7
  obtain ⟨p0, p1, p2, p3, p4, p5, p6⟩ := BY1.out.n7
  simp only [World.size_alloc] at p0 p1 p2 p3 p4 p5 p6
  go_wp2_with fail
  refine (eqMsgS_same am am' cm cm' ms _ HB.out.m (HX.out.keep BEL1.out).m (HY.out.keep BEL1.out).m).mono ?_
  rintro e w2 ⟨rfl, HW⟩
  have BX2 : Hid (BxV w w2 #[.int .i64 b, .int .i64 d, .slice ap ps.length cp, .int .i64 ttl, .slice am ms.length cm, .slice ag gs.length cg, .slice ar rs.length cr] 36) := BX1.out.keep HW
  have BY2 : Hid (BxV (w.alloc (.cells #[.int .i64 b, .int .i64 d, .slice ap ps.length cp, .int .i64 ttl, .slice am ms.length cm, .slice ag gs.length cg, .slice ar rs.length cr] 36)) w2 #[.int .i64 b, .int .i64 d, .slice ap' ps.length cp', .int .i64 ttl, .slice am' ms.length cm', .slice ag' gs.length cg', .slice ar' rs.length cr'] 36) := BY1.out.keep HW
  have BEL2 : Hid (Below w.heap.size w w2) := belt BEL1.out HW
  clear HW BX1 BY1 BEL1 q0 q1 q2 q3 q4 q5 q6 p0 p1 p2 p3 p4 p5 p6
  obtain ⟨q0, q1, q2, q3, q4, q5, q6⟩ := BX2.out.n7
  obtain ⟨p0, p1, p2, p3, p4, p5, p6⟩ := BY2.out.n7
  simp only [World.size_alloc] at p0 p1 p2 p3 p4 p5 p6
  go_wp2_with fail
  refine (eqIntS_own ag ag' cg cg' gs.length gs _ rfl HB.out.g (HX.out.keep BEL2.out).g (HY.out.keep BEL2.out).g).mono ?_
  rintro e w3 ⟨rfl, HW⟩
  have BX3 : Hid (BxV w w3 #[.int .i64 b, .int .i64 d, .slice ap ps.length cp, .int .i64 ttl, .slice am ms.length cm, .slice ag gs.length cg, .slice ar rs.length cr] 36) := BX2.out.keep HW
  have BY3 : Hid (BxV (w.alloc (.cells #[.int .i64 b, .int .i64 d, .slice ap ps.length cp, .int .i64 ttl, .slice am ms.length cm, .slice ag gs.length cg, .slice ar rs.length cr] 36)) w3 #[.int .i64 b, .int .i64 d, .slice ap' ps.length cp', .int .i64 ttl, .slice am' ms.length cm', .slice ag' gs.length cg', .slice ar' rs.length cr'] 36) := BY2.out.keep HW
  have BEL3 : Hid (Below w.heap.size w w3) := belt BEL2.out HW
  clear HW BX2 BY2 BEL2 q0 q1 q2 q3 q4 q5 q6 p0 p1 p2 p3 p4 p5 p6
  obtain ⟨q0, q1, q2, q3, q4, q5, q6⟩ := BX3.out.n7
  obtain ⟨p0, p1, p2, p3, p4, p5, p6⟩ := BY3.out.n7
  simp only [World.size_alloc] at p0 p1 p2 p3 p4 p5 p6
  go_wp2_with fail
  refine (eqReplyS_same ar ar' cr cr' rs _ HB.out.r (HX.out.keep BEL3.out).r (HY.out.keep BEL3.out).r).mono ?_
  rintro e w4 ⟨rfl, HW⟩
  have BX4 : Hid (BxV w w4 #[.int .i64 b, .int .i64 d, .slice ap ps.length cp, .int .i64 ttl, .slice am ms.length cm, .slice ag gs.length cg, .slice ar rs.length cr] 36) := BX3.out.keep HW
  have BY4 : Hid (BxV (w.alloc (.cells #[.int .i64 b, .int .i64 d, .slice ap ps.length cp, .int .i64 ttl, .slice am ms.length cm, .slice ag gs.length cg, .slice ar rs.length cr] 36)) w4 #[.int .i64 b, .int .i64 d, .slice ap' ps.length cp', .int .i64 ttl, .slice am' ms.length cm', .slice ag' gs.length cg', .slice ar' rs.length cr'] 36) := BY3.out.keep HW
  have BEL4 : Hid (Below w.heap.size w w4) := belt BEL3.out HW
  clear HW BX3 BY3 BEL3 q0 q1 q2 q3 q4 q5 q6 p0 p1 p2 p3 p4 p5 p6
  go_wp2
  go_ret
  exact ⟨rfl, BEL4.out⟩
end Go.Proofs.YtdceimnapbblnaaGreat
namespace Go.Proofs.YtdceimnapbblnaaGreat
open Go.RowKit
set_option linter.unusedVariables false
set_option linter.unusedSimpArgs false
/-- a net of one's own: each of its lists among blocks of its own -/
structure OwnN (B T : Nat) (w : World) (ap am ag ar : Option Addr) (np nm ng nr : Nat) (ps : List Pr) (ms : List Mg) (gs : List Int) (rs : List Rp) : Prop where
  ex : ∃ p0 p1 m0 m1 g0 g1 r0 r1 : Nat, (B ≤ p0 ∧ p0 ≤ p1 ∧ p1 ≤ T ∧ B ≤ m0 ∧ m1 ≤ T ∧ B ≤ g0 ∧ g1 ≤ T ∧ B ≤ r0 ∧ r1 ≤ T) ∧ ((p1 ≤ m0 ∨ m1 ≤ p0) ∧ (p1 ≤ g0 ∨ g1 ≤ p0) ∧ (p1 ≤ r0 ∨ r1 ≤ p0) ∧ (m1 ≤ g0 ∨ g1 ≤ m0) ∧ (m1 ≤ r0 ∨ r1 ≤ m0) ∧ (g1 ≤ r0 ∨ r1 ≤ g0)) ∧
    OwnPs p0 p1 w ap np ps ∧ OwnEs tyMg 102 m0 m1 w am nm ms ∧ OwnLs g0 g1 w ag ng gs ∧ OwnEs tyRp 45 r0 r1 w ar nr rs
theorem OwnN.at {B T : Nat} {w : World} {ap am ag ar : Option Addr} {np nm ng nr : Nat} {ps : List Pr} {ms : List Mg} {gs : List Int} {rs : List Rp} (h : OwnN B T w ap am ag ar np nm ng nr ps ms gs rs) : NetAt w ap am ag ar ps ms gs rs := by
  obtain ⟨p0, p1, m0, m1, g0, g1, r0, r1, _, _, h1, h2, h3, h4⟩ := h.ex
  exact ⟨h1.peersAt, h2.at, h3.rowAt, h4.at⟩
theorem OwnN.blocks {B T : Nat} {w w1 : World} {ap am ag ar : Option Addr} {np nm ng nr : Nat} {ps : List Pr} {ms : List Mg} {gs : List Int} {rs : List Rp} (h : OwnN B T w ap am ag ar np nm ng nr ps ms gs rs) (hb : ∀ k, B ≤ k → k < T → k < w.heap.size → w1.heap[k]? = w.heap[k]?) : OwnN B T w1 ap am ag ar np nm ng nr ps ms gs rs := by
  obtain ⟨p0, p1, m0, m1, g0, g1, r0, r1, hr, hd, h1, h2, h3, h4⟩ := h.ex
  exact ⟨⟨p0, p1, m0, m1, g0, g1, r0, r1, hr, hd, h1.blocks (fun k a1 a2 a3 => hb k (by omega) (by omega) a3), h2.blocks (fun k a1 a2 a3 => hb k (by omega) (by omega) a3), h3.blocks (fun k a1 a2 a3 => hb k (by omega) (by omega) a3), h4.blocks (fun k a1 a2 a3 => hb k (by omega) (by omega) a3)⟩⟩
theorem OwnN.keep {B T : Nat} {w w1 : World} {ap am ag ar : Option Addr} {np nm ng nr : Nat} {ps : List Pr} {ms : List Mg} {gs : List Int} {rs : List Rp} (h : OwnN B T w ap am ag ar np nm ng nr ps ms gs rs) (hb : Below w.heap.size w w1) : OwnN B T w1 ap am ag ar np nm ng nr ps ms gs rs := h.blocks (fun k _ _ hk => hb.block k hk)
theorem OwnN.mkd {B T B' T' : Nat} {w w1 : World} {ap am ag ar : Option Addr} {np nm ng nr : Nat} {ps : List Pr} {ms : List Mg} {gs : List Int} {rs : List Rp} (h : OwnN B T w ap am ag ar np nm ng nr ps ms gs rs) (m : Mk B' T' w w1) (hd : T ≤ B' ∨ T' ≤ B) : OwnN B T w1 ap am ag ar np nm ng nr ps ms gs rs := h.blocks (fun k h1 h2 hk => m.block k hk (by omega))
theorem OwnN.wide {B T B' T' : Nat} {w : World} {ap am ag ar : Option Addr} {np nm ng nr : Nat} {ps : List Pr} {ms : List Mg} {gs : List Int} {rs : List Rp} (h : OwnN B T w ap am ag ar np nm ng nr ps ms gs rs) (hB : B' ≤ B) (hT : T ≤ T') : OwnN B' T' w ap am ag ar np nm ng nr ps ms gs rs := by
  obtain ⟨p0, p1, m0, m1, g0, g1, r0, r1, hr, hd, h1, h2, h3, h4⟩ := h.ex
  exact ⟨⟨p0, p1, m0, m1, g0, g1, r0, r1, by omega, hd, h1, h2, h3, h4⟩⟩
theorem Mk.trans {B T : Nat} {w w1 w2 : World} (h : Mk B T w w1) (k : Mk B T w1 w2) : Mk B T w w2 :=
  ⟨fun n w0 hn hb => k.below n w0 hn (h.below n w0 hn hb), fun i hi hn => (k.block i (Nat.lt_of_lt_of_le hi h.size) hn).trans (h.block i hi hn), Nat.le_trans h.size k.size⟩
theorem within_mk {B T : Nat} {w w1 : World} (h : Within B T w w1) : Mk B T w w1 := ⟨fun n w0 hn hb => h.below hb hn, fun k hk hn => h.block k hn, by rw [h.size]; exact Nat.le_refl _⟩
theorem markMsgS_empty (a : Option Addr) (cap : Nat) (k0 : Int) (w : World) :
    Calls Tryz.prog 110 #[.slice a 0 cap, .int .i64 k0] w fun e w' => e = .returned (.int .i64 k0) ∧ w' = w := by
  go_enter Tryz.func110, Tryz.ntmps110
  go_wp2
  go_loop [1, 5] (fun k i => i = .int .i64 0 ∧ k = .int .i64 k0) (fun _ i => 0)
  case atStart => exact ⟨rfl, rfl⟩
  case round =>
    obtain ⟨rfl, rfl⟩ := hrel
    go_wp2
    go_ret
    exact ⟨rfl, rfl⟩
theorem markReplyS_empty (a : Option Addr) (cap : Nat) (k0 : Int) (w : World) :
    Calls Tryz.prog 111 #[.slice a 0 cap, .int .i64 k0] w fun e w' => e = .returned (.int .i64 k0) ∧ w' = w := by
  go_enter Tryz.func111, Tryz.ntmps111
  go_wp2
  go_loop [1, 5] (fun k i => i = .int .i64 0 ∧ k = .int .i64 k0) (fun _ i => 0)
  case atStart => exact ⟨rfl, rfl⟩
  case round =>
    obtain ⟨rfl, rfl⟩ := hrel
    go_wp2
    go_ret
    exact ⟨rfl, rfl⟩
theorem markMsgS_own (B T cap : Nat) (a : Option Addr) (n : Nat) (ms : List Mg) (k0 : Int) (w : World) (hb : ms.length + lsum ms ≤ 1048576) (k1 : 0 ≤ k0) (k2 : k0 ≤ 1000000000000) (h : OwnEs tyMg 102 B T w a n ms) :
    Calls Tryz.prog 110 #[.slice a n cap, .int .i64 k0] w fun e w' => e = .returned (.int .i64 (kM k0 ms n)) ∧ Mk B T w w' ∧ OwnEs tyMg 102 B T w' a n (mrkM k0 ms) := by
  obtain ⟨rfl, hn, ho⟩ := h
  rcases ho with he | ⟨g, F, cap0, rfl, hF, os⟩
  · have he' : ms = [] := he
    subst he'
    refine (markMsgS_empty a cap k0 w).mono ?_
    rintro e w1 ⟨rfl, rfl⟩
    exact ⟨by show _ = Ending.returned (.int .i64 (kM k0 [] 0)); rw [kM_zero], Mk.refl _ _ _, rfl, hn, .inl rfl⟩
  · refine (markMsgS_any B T g cap0 cap ms F k0 w hb k1 k2 os hF).mono ?_
    rintro e w1 ⟨rfl, wi, os1⟩
    exact ⟨rfl, within_mk wi, mrkM_len _ _, hn, .inr ⟨g, F, cap0, rfl, hF, os1⟩⟩
theorem markReplyS_own (B T cap : Nat) (a : Option Addr) (n : Nat) (ms : List Rp) (k0 : Int) (w : World) (k1 : 0 ≤ k0) (k2 : k0 ≤ 1000000000000) (h : OwnEs tyRp 45 B T w a n ms) :
    Calls Tryz.prog 111 #[.slice a n cap, .int .i64 k0] w fun e w' => e = .returned (.int .i64 (k0 + 5 * (n : Int))) ∧ Mk B T w w' ∧ OwnEs tyRp 45 B T w' a n (mrkR k0 ms) := by
  obtain ⟨rfl, hn, ho⟩ := h
  rcases ho with he | ⟨g, F, cap0, rfl, hF, os⟩
  · have he' : ms = [] := he
    subst he'
    refine (markReplyS_empty a cap k0 w).mono ?_
    rintro e w1 ⟨rfl, rfl⟩
    exact ⟨by show _ = Ending.returned (.int .i64 (k0 + 5 * ((0 : Nat) : Int))); simp, Mk.refl _ _ _, rfl, hn, .inl rfl⟩
  · refine (markReplyS_any B T g cap0 cap ms F k0 w hn k1 k2 os hF).mono ?_
    rintro e w1 ⟨rfl, wi, os1⟩
    exact ⟨rfl, within_mk wi, mrkR_len _ _, hn, .inr ⟨g, F, cap0, rfl, hF, os1⟩⟩
def kN1 (k : Int) (ps : List Pr) : Int := kAt k ps ps.length
def kN2 (k : Int) (ps : List Pr) (ms : List Mg) : Int := kM (kN1 k ps) ms ms.length
def kN3 (k : Int) (ps : List Pr) (ms : List Mg) (gs : List Int) : Int := kN2 k ps ms + (gs.length : Int)
def kN4 (k : Int) (ps : List Pr) (ms : List Mg) (gs : List Int) (rs : List Rp) : Int := kN3 k ps ms gs + 5 * (rs.length : Int)
theorem kN_bd {k : Int} {ps : List Pr} {ms : List Mg} {gs : List Int} {rs : List Rp} (hb : BigN ps ms gs rs) (k1 : 0 ≤ k) (k2 : k ≤ 1000) : (0 ≤ kN1 k ps ∧ kN1 k ps ≤ 100000000) ∧ (0 ≤ kN2 k ps ms ∧ kN2 k ps ms ≤ 100000000) ∧ (0 ≤ kN3 k ps ms gs ∧ kN3 k ps ms gs ≤ 100000000) ∧ 0 ≤ kN4 k ps ms gs rs ∧ kN4 k ps ms gs rs ≤ 100000000 := by
  have h1 := kAt_bd (k := k) (Nat.le_refl ps.length) hb.p
  have h2 := kM_bd (k := kN1 k ps) ms.length hb.m
  have h3 := hb.g
  have h4 := hb.r
  unfold kN4 kN3 kN2
  unfold kN1 at h2 ⊢
  omega
set_option maxHeartbeats 3200000 in
theorem markNet_own (b d ttl : Int) (ap am ag ar : Option Addr) (cp cm cg cr : Nat) (np nm ng nr : Nat) (ps : List Pr) (ms : List Mg) (gs : List Int) (rs : List Rp) (B T : Nat) (w : World) (k0 : Int) (hb : BigN ps ms gs rs) (k1 : 0 ≤ k0) (k2 : k0 ≤ 1000) (hB : B ≤ w.heap.size) (hT : T ≤ w.heap.size) (h : OwnN B T w ap am ag ar np nm ng nr ps ms gs rs) :
    Calls Tryz.prog 41 #[.agg #[.int .i64 b, .int .i64 d, .slice ap np cp, .int .i64 ttl, .slice am nm cm, .slice ag ng cg, .slice ar nr cr], .int .i64 k0] w fun e w' => e = .returned (.int .i64 (kN4 k0 ps ms gs rs)) ∧ Mk B T w w' ∧ OwnN B T w' ap am ag ar np nm ng nr (mrkP k0 ps) (mrkM (kN1 k0 ps) ms) (mrk (kN2 k0 ps ms) gs ng) (mrkR (kN3 k0 ps ms gs) rs) := by
  have HBG : Hid (BigN ps ms gs rs) := hb
  obtain ⟨⟨u1, v1⟩, ⟨u2, v2⟩, ⟨u3, v3⟩, _, _⟩ := kN_bd hb k1 k2
  obtain ⟨p0, p1, m0, m1, g0, g1, r0, r1, hr, hd, hp, hm, hg, hq⟩ := (h.keep (belA w (.cells #[.int .i64 b, .int .i64 d, .slice ap np cp, .int .i64 ttl, .slice am nm cm, .slice ag ng cg, .slice ar nr cr] 36))).ex
  have HR : Hid (B ≤ p0 ∧ p0 ≤ p1 ∧ p1 ≤ T ∧ B ≤ m0 ∧ m1 ≤ T ∧ B ≤ g0 ∧ g1 ≤ T ∧ B ≤ r0 ∧ r1 ≤ T) := hr
  have HD : Hid ((p1 ≤ m0 ∨ m1 ≤ p0) ∧ (p1 ≤ g0 ∨ g1 ≤ p0) ∧ (p1 ≤ r0 ∨ r1 ≤ p0) ∧ (m1 ≤ g0 ∨ g1 ≤ m0) ∧ (m1 ≤ r0 ∨ r1 ≤ m0) ∧ (g1 ≤ r0 ∨ r1 ≤ g0)) := hd
  obtain rfl : ps.length = np := hp.1
  obtain rfl : ms.length = nm := hm.1
  obtain rfl : gs.length = ng := hg.1
  obtain rfl : rs.length = nr := hq.1
  have HP : Hid (OwnPs p0 p1 (w.alloc (.cells #[.int .i64 b, .int .i64 d, .slice ap ps.length cp, .int .i64 ttl, .slice am ms.length cm, .slice ag gs.length cg, .slice ar rs.length cr] 36)) ap ps.length ps) := hp
  have HM : Hid (OwnEs tyMg 102 m0 m1 (w.alloc (.cells #[.int .i64 b, .int .i64 d, .slice ap ps.length cp, .int .i64 ttl, .slice am ms.length cm, .slice ag gs.length cg, .slice ar rs.length cr] 36)) am ms.length ms) := hm
  have HG : Hid (OwnLs g0 g1 (w.alloc (.cells #[.int .i64 b, .int .i64 d, .slice ap ps.length cp, .int .i64 ttl, .slice am ms.length cm, .slice ag gs.length cg, .slice ar rs.length cr] 36)) ag gs.length gs) := hg
  have HQ : Hid (OwnEs tyRp 45 r0 r1 (w.alloc (.cells #[.int .i64 b, .int .i64 d, .slice ap ps.length cp, .int .i64 ttl, .slice am ms.length cm, .slice ag gs.length cg, .slice ar rs.length cr] 36)) ar rs.length rs) := hq
  have HT0 : Hid (B ≤ w.heap.size ∧ T ≤ w.heap.size) := ⟨hB, hT⟩
  have HBX0 : Hid (BxV w (w.alloc (.cells #[.int .i64 b, .int .i64 d, .slice ap ps.length cp, .int .i64 ttl, .slice am ms.length cm, .slice ag gs.length cg, .slice ar rs.length cr] 36)) #[.int .i64 b, .int .i64 d, .slice ap ps.length cp, .int .i64 ttl, .slice am ms.length cm, .slice ag gs.length cg, .slice ar rs.length cr] 36) := ⟨heap_alloc_new _ _⟩
  have HK0 : Hid (Mk B T w (w.alloc (.cells #[.int .i64 b, .int .i64 d, .slice ap ps.length cp, .int .i64 ttl, .slice am ms.length cm, .slice ag gs.length cg, .slice ar rs.length cr] 36))) := mk_below (belA _ _) hB
  clear h hr hd hp hm hg hq hB hT hb
  go_enter Tryz.func41, Tryz.ntmps41
  go_wp2_with fail
  refine (markPeers_own b d p0 p1 cp ap ps.length ps k0 _ HBG.out.p k1 (by omega) (by have := HT0.out; have := HR.out; simp; omega) (by have := HT0.out; have := HR.out; simp; omega) HP.out).mono ?_
  rintro e w1 ⟨rfl, MK, OO⟩
  have HMx : Hid (OwnEs tyMg 102 m0 m1 w1 am ms.length ms) := HM.out.mkd MK (by have := HD.out; omega)
  have HGx : Hid (OwnLs g0 g1 w1 ag gs.length gs) := HG.out.mkd MK (by have := HD.out; omega)
  have HQx : Hid (OwnEs tyRp 45 r0 r1 w1 ar rs.length rs) := HQ.out.mkd MK (by have := HD.out; omega)
  have HPx : Hid (OwnPs p0 p1 w1 ap ps.length (mrkP k0 ps)) := OO
  have HBXx : Hid (BxV w w1 #[.int .i64 b, .int .i64 d, .slice ap ps.length cp, .int .i64 ttl, .slice am ms.length cm, .slice ag gs.length cg, .slice ar rs.length cr] 36) := HBX0.out.mkd MK (by have := HT0.out; have := HR.out; omega)
  have HKx : Hid (Mk B T w w1) := HK0.out.trans (MK.wide (by have := HR.out; omega) (by have := HR.out; omega))
  clear MK OO HP HM HG HQ HBX0 HK0
  have HP : Hid (OwnPs p0 p1 w1 ap ps.length (mrkP k0 ps)) := HPx.out
  have HM : Hid (OwnEs tyMg 102 m0 m1 w1 am ms.length ms) := HMx.out
  have HG : Hid (OwnLs g0 g1 w1 ag gs.length gs) := HGx.out
  have HQ : Hid (OwnEs tyRp 45 r0 r1 w1 ar rs.length rs) := HQx.out
  have HBX0 : Hid (BxV w w1 #[.int .i64 b, .int .i64 d, .slice ap ps.length cp, .int .i64 ttl, .slice am ms.length cm, .slice ag gs.length cg, .slice ar rs.length cr] 36) := HBXx.out
  have HK0 : Hid (Mk B T w w1) := HKx.out
  clear HPx HMx HGx HQx HBXx HKx
  obtain ⟨q0, q1, q2, q3, q4, q5, q6⟩ := HBX0.out.n7
  go_wp2_with fail
  clear q0 q1 q2 q3 q4 q5 q6
  refine (markMsgS_own m0 m1 cm am ms.length ms (kN1 k0 ps) _ HBG.out.m u1 (by omega) HM.out).mono ?_
  rintro e w2 ⟨rfl, MK, OO⟩
  have HPx : Hid (OwnPs p0 p1 w2 ap ps.length (mrkP k0 ps)) := HP.out.mkd MK (by have := HD.out; omega)
  have HGx : Hid (OwnLs g0 g1 w2 ag gs.length gs) := HG.out.mkd MK (by have := HD.out; omega)
  have HQx : Hid (OwnEs tyRp 45 r0 r1 w2 ar rs.length rs) := HQ.out.mkd MK (by have := HD.out; omega)
  have HMx : Hid (OwnEs tyMg 102 m0 m1 w2 am ms.length (mrkM (kN1 k0 ps) ms)) := OO
  have HBXx : Hid (BxV w w2 #[.int .i64 b, .int .i64 d, .slice ap ps.length cp, .int .i64 ttl, .slice am ms.length cm, .slice ag gs.length cg, .slice ar rs.length cr] 36) := HBX0.out.mkd MK (by have := HT0.out; have := HR.out; omega)
  have HKx : Hid (Mk B T w w2) := HK0.out.trans (MK.wide (by have := HR.out; omega) (by have := HR.out; omega))
  clear MK OO HP HM HG HQ HBX0 HK0
  have HP : Hid (OwnPs p0 p1 w2 ap ps.length (mrkP k0 ps)) := HPx.out
  have HM : Hid (OwnEs tyMg 102 m0 m1 w2 am ms.length (mrkM (kN1 k0 ps) ms)) := HMx.out
  have HG : Hid (OwnLs g0 g1 w2 ag gs.length gs) := HGx.out
  have HQ : Hid (OwnEs tyRp 45 r0 r1 w2 ar rs.length rs) := HQx.out
  have HBX0 : Hid (BxV w w2 #[.int .i64 b, .int .i64 d, .slice ap ps.length cp, .int .i64 ttl, .slice am ms.length cm, .slice ag gs.length cg, .slice ar rs.length cr] 36) := HBXx.out
  have HK0 : Hid (Mk B T w w2) := HKx.out
  clear HPx HMx HGx HQx HBXx HKx
  obtain ⟨q0, q1, q2, q3, q4, q5, q6⟩ := HBX0.out.n7
  go_wp2_with fail
  clear q0 q1 q2 q3 q4 q5 q6
  refine (markIntS_own g0 g1 cg ag gs.length gs (kN2 k0 ps ms) _ HBG.out.g u2 (by omega) HG.out).mono ?_
  rintro e w3 ⟨rfl, MK, OO⟩
  have HPx : Hid (OwnPs p0 p1 w3 ap ps.length (mrkP k0 ps)) := HP.out.mkd MK (by have := HD.out; omega)
  have HMx : Hid (OwnEs tyMg 102 m0 m1 w3 am ms.length (mrkM (kN1 k0 ps) ms)) := HM.out.mkd MK (by have := HD.out; omega)
  have HQx : Hid (OwnEs tyRp 45 r0 r1 w3 ar rs.length rs) := HQ.out.mkd MK (by have := HD.out; omega)
  have HGx : Hid (OwnLs g0 g1 w3 ag gs.length (mrk (kN2 k0 ps ms) gs gs.length)) := OO
  have HBXx : Hid (BxV w w3 #[.int .i64 b, .int .i64 d, .slice ap ps.length cp, .int .i64 ttl, .slice am ms.length cm, .slice ag gs.length cg, .slice ar rs.length cr] 36) := HBX0.out.mkd MK (by have := HT0.out; have := HR.out; omega)
  have HKx : Hid (Mk B T w w3) := HK0.out.trans (MK.wide (by have := HR.out; omega) (by have := HR.out; omega))
  clear MK OO HP HM HG HQ HBX0 HK0
  have HP : Hid (OwnPs p0 p1 w3 ap ps.length (mrkP k0 ps)) := HPx.out
  have HM : Hid (OwnEs tyMg 102 m0 m1 w3 am ms.length (mrkM (kN1 k0 ps) ms)) := HMx.out
  have HG : Hid (OwnLs g0 g1 w3 ag gs.length (mrk (kN2 k0 ps ms) gs gs.length)) := HGx.out
  have HQ : Hid (OwnEs tyRp 45 r0 r1 w3 ar rs.length rs) := HQx.out
  have HBX0 : Hid (BxV w w3 #[.int .i64 b, .int .i64 d, .slice ap ps.length cp, .int .i64 ttl, .slice am ms.length cm, .slice ag gs.length cg, .slice ar rs.length cr] 36) := HBXx.out
  have HK0 : Hid (Mk B T w w3) := HKx.out
  clear HPx HMx HGx HQx HBXx HKx
  obtain ⟨q0, q1, q2, q3, q4, q5, q6⟩ := HBX0.out.n7
  go_wp2_with fail
  clear q0 q1 q2 q3 q4 q5 q6
  refine (markReplyS_own r0 r1 cr ar rs.length rs (kN3 k0 ps ms gs) _ u3 (by omega) HQ.out).mono ?_
  rintro e w4 ⟨rfl, MK, OO⟩
  have HPx : Hid (OwnPs p0 p1 w4 ap ps.length (mrkP k0 ps)) := HP.out.mkd MK (by have := HD.out; omega)
  have HMx : Hid (OwnEs tyMg 102 m0 m1 w4 am ms.length (mrkM (kN1 k0 ps) ms)) := HM.out.mkd MK (by have := HD.out; omega)
  have HGx : Hid (OwnLs g0 g1 w4 ag gs.length (mrk (kN2 k0 ps ms) gs gs.length)) := HG.out.mkd MK (by have := HD.out; omega)
  have HQx : Hid (OwnEs tyRp 45 r0 r1 w4 ar rs.length (mrkR (kN3 k0 ps ms gs) rs)) := OO
  have HBXx : Hid (BxV w w4 #[.int .i64 b, .int .i64 d, .slice ap ps.length cp, .int .i64 ttl, .slice am ms.length cm, .slice ag gs.length cg, .slice ar rs.length cr] 36) := HBX0.out.mkd MK (by have := HT0.out; have := HR.out; omega)
  have HKx : Hid (Mk B T w w4) := HK0.out.trans (MK.wide (by have := HR.out; omega) (by have := HR.out; omega))
  clear MK OO HP HM HG HQ HBX0 HK0
  have HP : Hid (OwnPs p0 p1 w4 ap ps.length (mrkP k0 ps)) := HPx.out
  have HM : Hid (OwnEs tyMg 102 m0 m1 w4 am ms.length (mrkM (kN1 k0 ps) ms)) := HMx.out
  have HG : Hid (OwnLs g0 g1 w4 ag gs.length (mrk (kN2 k0 ps ms) gs gs.length)) := HGx.out
  have HQ : Hid (OwnEs tyRp 45 r0 r1 w4 ar rs.length (mrkR (kN3 k0 ps ms gs) rs)) := HQx.out
  have HBX0 : Hid (BxV w w4 #[.int .i64 b, .int .i64 d, .slice ap ps.length cp, .int .i64 ttl, .slice am ms.length cm, .slice ag gs.length cg, .slice ar rs.length cr] 36) := HBXx.out
  have HK0 : Hid (Mk B T w w4) := HKx.out
  clear HPx HMx HGx HQx HBXx HKx
  go_wp2
  go_ret
  exact ⟨rfl, HK0.out, ⟨⟨p0, p1, m0, m1, g0, g1, r0, r1, HR.out, HD.out, HP.out, HM.out, HG.out, HQ.out⟩⟩⟩
set_option maxHeartbeats 3200000 in
theorem heldNet_any (b d ttl : Int) (ap am ag ar : Option Addr) (cp cm cg cr : Nat) (ps : List Pr) (ms : List Mg) (gs : List Int) (rs : List Rp) (w : World) (k0 : Int) (hb : BigN ps ms gs rs) (k1 : 0 ≤ k0) (k2 : k0 ≤ 1000) (h : NetAt w ap am ag ar (mrkP k0 ps) (mrkM (kN1 k0 ps) ms) (mrk (kN2 k0 ps ms) gs gs.length) (mrkR (kN3 k0 ps ms gs) rs)) :
    Calls Tryz.prog 42 #[.agg #[.int .i64 b, .int .i64 d, .slice ap ps.length cp, .int .i64 ttl, .slice am ms.length cm, .slice ag gs.length cg, .slice ar rs.length cr], .int .i64 k0] w fun e w' => e = .returned (.int .i64 (kN4 k0 ps ms gs rs)) ∧ Below w.heap.size w w' := by
  have HBG : Hid (BigN ps ms gs rs) := hb
  obtain ⟨⟨u1, v1⟩, ⟨u2, v2⟩, ⟨u3, v3⟩, _, _⟩ := kN_bd hb k1 k2
  have hn1 : ¬ kAt k0 ps ps.length < 0 := by have := u1; unfold kN1 at this; omega
  have hn2 : ¬ kM (kN1 k0 ps) ms ms.length < 0 := by have := u2; unfold kN2 at this; omega
  have hn3 : ¬ kN2 k0 ps ms + (gs.length : Int) < 0 := by have := u3; unfold kN3 at this; omega
  have HR : Hid (NetAt w ap am ag ar (mrkP k0 ps) (mrkM (kN1 k0 ps) ms) (mrk (kN2 k0 ps ms) gs gs.length) (mrkR (kN3 k0 ps ms gs) rs)) := h
  clear h hb
  go_enter Tryz.func42, Tryz.ntmps42
  go_wp2_with fail
  refine (heldPeers_any b d ap cp ps k0 _ HBG.out.p k1 (by omega) (HR.out.keep (belA _ _)).p).mono ?_
  rintro e w1 ⟨rfl, HW⟩
  have BX1 : Hid (BxV w w1 #[.int .i64 b, .int .i64 d, .slice ap ps.length cp, .int .i64 ttl, .slice am ms.length cm, .slice ag gs.length cg, .slice ar rs.length cr] 36) := bxV1 HW
  have BEL1 : Hid (Below w.heap.size w w1) := belt (belA _ _) HW
  clear HW
  obtain ⟨q0, q1, q2, q3, q4, q5, q6⟩ := BX1.out.n7
  go_wp2_with fail
  refine (heldMsgS_any am cm ms (kN1 k0 ps) _ HBG.out.m u1 (by omega) (HR.out.keep BEL1.out).m).mono ?_
  rintro e w2 ⟨rfl, he⟩
  have he' := he.symm
  subst he'
  clear he
  go_wp2_with fail
  have m1 := mrk_at' (k0 := kN2 k0 ps ms) (zs := gs) rfl
  have C := heldIntS_any ag cg (mrk (kN2 k0 ps ms) gs gs.length) (kN2 k0 ps ms) w1 (by rw [m1.1]; exact HBG.out.g) u2 (by omega) (HR.out.keep BEL1.out).g m1.2
  rw [m1.1] at C
  clear m1
  refine C.mono ?_
  rintro e w3 ⟨rfl, he⟩
  have he' := he.symm
  subst he'
  clear C he
  go_wp2_with fail
  refine (heldReplyS_any ar cr rs (kN3 k0 ps ms gs) _ HBG.out.r u3 (by omega) (HR.out.keep BEL1.out).r).mono ?_
  rintro e w4 ⟨rfl, rfl⟩
  have hn4 : ¬ kN3 k0 ps ms gs + 5 * (rs.length : Int) < 0 := by omega
  go_wp2
  go_ret
  exact ⟨rfl, BEL1.out⟩
end Go.Proofs.YtdceimnapbblnaaGreat
