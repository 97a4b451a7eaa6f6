/- Peers copied whole, into memory of their own. -/
import Derived.Test.YtejajlloipkkhaaV1
import Derived.Laws.MakeOwn
namespace Go.Proofs.Ytejajlloipkkhaa
open Go.RowKit
set_option linter.unusedVariables false

theorem cell_set {w : World} {q i j : Nat} {u v : Value} (h : w.cell? ⟨q, i, none⟩ = some u) : (w.setCell ⟨q, j, none⟩ v).cell? ⟨q, i, none⟩ = some (if i = j then v else u) := by
  by_cases e : i = j
  · subst e; rw [if_pos rfl]; exact World.cell?_setCell_same _ _ _ h
  · rw [if_neg e]
    rw [World.cell?_setCell_other]; exact h
    simp; try exact e
theorem cell_far {w : World} {q r i j : Nat} {v : Value} (h : ¬ r = q) : (w.setCell ⟨q, j, none⟩ v).cell? ⟨r, i, none⟩ = w.cell? ⟨r, i, none⟩ :=
  World.cell?_of_block (w := w) (a := ⟨r, i, none⟩) (heap_setCell_other _ _ _ _ (by simpa using h))

/-- four cells of one block that are written one behind the other -/
def set4 (w : World) (q o : Nat) (a b c d : Value) : World := (((w.setCell ⟨q, o, none⟩ a).setCell ⟨q, o + 1, none⟩ b).setCell ⟨q, o + 2, none⟩ c).setCell ⟨q, o + 3, none⟩ d
theorem set4_in {w : World} {q o : Nat} {a b c d u0 u1 u2 u3 : Value} (h0 : w.cell? ⟨q, o, none⟩ = some u0) (h1 : w.cell? ⟨q, o + 1, none⟩ = some u1) (h2 : w.cell? ⟨q, o + 2, none⟩ = some u2) (h3 : w.cell? ⟨q, o + 3, none⟩ = some u3) :
    (set4 w q o a b c d).cell? ⟨q, o, none⟩ = some a ∧ (set4 w q o a b c d).cell? ⟨q, o + 1, none⟩ = some b ∧ (set4 w q o a b c d).cell? ⟨q, o + 2, none⟩ = some c ∧ (set4 w q o a b c d).cell? ⟨q, o + 3, none⟩ = some d := by
  unfold set4
  refine ⟨?_, ?_, ?_, ?_⟩
  · have := cell_set (j := o + 3) (v := d) (cell_set (j := o + 2) (v := c) (cell_set (j := o + 1) (v := b) (cell_set (j := o) (v := a) h0))); simpa using this
  · have := cell_set (j := o + 3) (v := d) (cell_set (j := o + 2) (v := c) (cell_set (j := o + 1) (v := b) (cell_set (j := o) (v := a) h1))); simpa using this
  · have := cell_set (j := o + 3) (v := d) (cell_set (j := o + 2) (v := c) (cell_set (j := o + 1) (v := b) (cell_set (j := o) (v := a) h2))); simpa using this
  · have := cell_set (j := o + 3) (v := d) (cell_set (j := o + 2) (v := c) (cell_set (j := o + 1) (v := b) (cell_set (j := o) (v := a) h3))); simpa using this
theorem set4_out {w : World} {q o i : Nat} {a b c d u : Value} (hi : i < o ∨ o + 4 ≤ i) (h : w.cell? ⟨q, i, none⟩ = some u) : (set4 w q o a b c d).cell? ⟨q, i, none⟩ = some u := by
  unfold set4
  have := cell_set (j := o + 3) (v := d) (cell_set (j := o + 2) (v := c) (cell_set (j := o + 1) (v := b) (cell_set (j := o) (v := a) h)))
  rw [if_neg (by omega), if_neg (by omega), if_neg (by omega), if_neg (by omega)] at this
  exact this
theorem set4_block {w : World} {q o k : Nat} {a b c d : Value} (h : ¬ k = q) : (set4 w q o a b c d).heap[k]? = w.heap[k]? := by
  unfold set4
  rw [heap_setCell_other _ _ _ _ (by simpa using h), heap_setCell_other _ _ _ _ (by simpa using h), heap_setCell_other _ _ _ _ (by simpa using h), heap_setCell_other _ _ _ _ (by simpa using h)]
theorem set4_row {w : World} {q o : Nat} {a b c d : Value} {cur : Array Value} {t : TypeId} (h : w.heap[q]? = some (.cells cur t (0, 0))) : ∃ cur', (set4 w q o a b c d).heap[q]? = some (.cells cur' t (0, 0)) :=
  ⟨_, heap_setCell_same _ _ _ _ _ _ (heap_setCell_same _ _ _ _ _ _ (heap_setCell_same _ _ _ _ _ _ (heap_setCell_same _ _ _ _ _ _ h)))⟩
theorem set4_below {n : Nat} {w0 w : World} {q o : Nat} {a b c d : Value} (h : Below n w0 w) (hq : n ≤ q) : Below n w0 (set4 w q o a b c d) := (((h.setCell (p := ⟨q, o, none⟩) hq a).setCell (p := ⟨q, o + 1, none⟩) hq b).setCell (p := ⟨q, o + 2, none⟩) hq c).setCell (p := ⟨q, o + 3, none⟩) hq d
theorem set4_size {w : World} {q o : Nat} {a b c d : Value} : (set4 w q o a b c d).heap.size = w.heap.size := by simp [set4, World.setCell]

set_option maxHeartbeats 3200000 in
theorem toPeer_any (x y z : Int) (a : Option Addr) (cap : Nat) (l : List Int) (w : World) (hm : l.length ≤ 1048576) (hr : RowAt w a l) :
    Calls Try.prog 115 #[.agg #[.int .i64 x, .int .i64 y, .int .i64 z, .slice a l.length cap]] w fun e w' => ∃ g, e = .returned (.agg #[.int .i64 x, .int .i64 y, .int .i64 z, .slice (some ⟨g, 0, none⟩) l.length l.length]) ∧ OwnS w.heap.size w' g l ∧ Below w.heap.size w w' := by
  have HR : Hid (RowAt w a l) := hr
  clear hr
  have HB3 : Hid (Below w.heap.size w (((w.alloc (.cells #[.int .i64 x, .int .i64 y, .int .i64 z, .slice a l.length cap] 141)).alloc (.cells #[.int .i64 0, .int .i64 0, .int .i64 0, .slice none 0 0] 101)).alloc (.cells #[.int .i64 x, .int .i64 y, .int .i64 z, .slice none 0 0] 101))) := (((Below.refl _ _).alloc (Nat.le_refl _) _).alloc (by simp) _).alloc (by simp; try omega) _
  go_enter Try.func115, Try.ntmps115
  go_wp2_with fail
  refine (toIntS_any _ _ l _ hm (HR.out.keep HB3.out)).mono ?_
  rintro e w1 ⟨rfl, ow1⟩
  have hw1 := ow1.bel
  have HB1 : Hid (Below w.heap.size w w1) := HB3.out.trans (hw1.mono HB3.out.size)
  have OW1 : Hid (OwnS (w.heap.size + 1 + 1 + 1) w1 (w.heap.size + 1 + 1 + 1) l) := by
    have := ow1.owns
    simp only [World.size_alloc] at this
    exact this
  have RO : Hid (w1.heap[w.heap.size + 1 + 1]? = some (.cells #[.int .i64 x, .int .i64 y, .int .i64 z, .slice none 0 0] 101 (0, 0))) := by
    refine (hw1.block _ (by simp; try omega)).trans ?_
    have := heap_alloc_new ((w.alloc (.cells #[.int .i64 x, .int .i64 y, .int .i64 z, .slice a l.length cap] 141)).alloc (.cells #[.int .i64 0, .int .i64 0, .int .i64 0, .slice none 0 0] 101)) (.cells #[.int .i64 x, .int .i64 y, .int .i64 z, .slice none 0 0] 101)
    simpa using this
  have RR : Hid (w1.heap[w.heap.size + 1]? = some (.cells #[.int .i64 0, .int .i64 0, .int .i64 0, .slice none 0 0] 101 (0, 0))) := by
    refine (hw1.block _ (by simp; try omega)).trans ?_
    rw [heap_alloc_old _ _ (by simp)]
    have := heap_alloc_new (w.alloc (.cells #[.int .i64 x, .int .i64 y, .int .i64 z, .slice a l.length cap] 141)) (.cells #[.int .i64 0, .int .i64 0, .int .i64 0, .slice none 0 0] 101)
    simpa using this
  have o0 : w1.cell? ⟨w.heap.size + 1 + 1, 0, none⟩ = some (.int .i64 x) := (cell_of_row w1 _ _ _ _ _ RO.out).trans rfl
  have o1 : w1.cell? ⟨w.heap.size + 1 + 1, 1, none⟩ = some (.int .i64 y) := (cell_of_row w1 _ _ _ _ _ RO.out).trans rfl
  have o2 : w1.cell? ⟨w.heap.size + 1 + 1, 2, none⟩ = some (.int .i64 z) := (cell_of_row w1 _ _ _ _ _ RO.out).trans rfl
  have o3 : w1.cell? ⟨w.heap.size + 1 + 1, 3, none⟩ = some (.slice none 0 0) := (cell_of_row w1 _ _ _ _ _ RO.out).trans rfl
  have p3 : w1.frozen? ⟨w.heap.size + 1 + 1, 3, none⟩ = false := frozen_of_row w1 _ _ _ _ RO.out
  have r0 : w1.cell? ⟨w.heap.size + 1, 0, none⟩ = some (.int .i64 0) := (cell_of_row w1 _ _ _ _ _ RR.out).trans rfl
  have r1 : w1.cell? ⟨w.heap.size + 1, 1, none⟩ = some (.int .i64 0) := (cell_of_row w1 _ _ _ _ _ RR.out).trans rfl
  have r2 : w1.cell? ⟨w.heap.size + 1, 2, none⟩ = some (.int .i64 0) := (cell_of_row w1 _ _ _ _ _ RR.out).trans rfl
  have r3 : w1.cell? ⟨w.heap.size + 1, 3, none⟩ = some (.slice none 0 0) := (cell_of_row w1 _ _ _ _ _ RR.out).trans rfl
  have q0 : w1.frozen? ⟨w.heap.size + 1, 0, none⟩ = false := frozen_of_row w1 _ _ _ _ RR.out
  have q1 : w1.frozen? ⟨w.heap.size + 1, 1, none⟩ = false := frozen_of_row w1 _ _ _ _ RR.out
  have q2 : w1.frozen? ⟨w.heap.size + 1, 2, none⟩ = false := frozen_of_row w1 _ _ _ _ RR.out
  have q3 : w1.frozen? ⟨w.heap.size + 1, 3, none⟩ = false := frozen_of_row w1 _ _ _ _ RR.out
  clear ow1 hw1
  go_wp2
  have HE : ∀ v : Value, Hid ((set4 (w1.setCell ⟨w.heap.size + 1 + 1, 3, none⟩ v) (w.heap.size + 1) 0 (.int .i64 x) (.int .i64 y) (.int .i64 z) v).heap[w.heap.size + 1]? = some (.cells #[.int .i64 x, .int .i64 y, .int .i64 z, v] 101 (0, 0))) := fun v => by
    have h0 : (w1.setCell ⟨w.heap.size + 1 + 1, 3, none⟩ v).heap[w.heap.size + 1]? = some (.cells #[.int .i64 0, .int .i64 0, .int .i64 0, .slice none 0 0] 101 (0, 0)) := (heap_setCell_other _ _ _ _ (by simp)).trans RR.out
    exact heap_setCell_same _ _ 3 _ _ _ (heap_setCell_same _ _ 2 _ _ _ (heap_setCell_same _ _ 1 _ _ _ (heap_setCell_same _ _ 0 _ _ _ h0)))
  refine bodyPost_ret (results_cell_row Try.results115 _ _ (w.heap.size + 1) _ _ _ _ rfl (HE _).out Try.underlying101 rfl (by kernel_rfl)) rfl ⟨w.heap.size + 1 + 1 + 1, rfl, ?_, ?_⟩
  · obtain ⟨hlo, cur, hc, ht⟩ := OW1.out
    refine ⟨by omega, cur, ?_, ht⟩
    refine (set4_block (by omega)).trans ((heap_setCell_other _ _ _ _ (by simp)).trans hc)
  · exact set4_below (HB1.out.setCell (p := ⟨w.heap.size + 1 + 1, 3, none⟩) (by simp; try omega) _) (by omega)

def d0 : Pr × Value := (pr0, .slice none 0 0)
/-- the four cells of peer i in a block -/
structure PCell (w : World) (g i : Nat) (e : Pr × Value) : Prop where
  c0 : w.cell? ⟨g, i * 4, none⟩ = some (.int .i64 e.1.id)
  c1 : w.cell? ⟨g, i * 4 + 1, none⟩ = some (.int .i64 e.1.succ)
  c2 : w.cell? ⟨g, i * 4 + 2, none⟩ = some (.int .i64 e.1.point)
  c3 : w.cell? ⟨g, i * 4 + 3, none⟩ = some e.2
/-- the value in the last cell owns the backs, among the blocks from B to T -/
def ValOk (B T : Nat) (w : World) (e : Pr × Value) : Prop :=
  ∃ ab cb, e.2 = .slice ab e.1.backs.length cb ∧ (e.1.backs.length ≤ cb ∧ (ab = none → cb = 0)) ∧ e.1.backs.length ≤ 1048576 ∧ (e.1.backs = [] ∨ ∃ gb, ab = some ⟨gb, 0, none⟩ ∧ gb < T ∧ OwnS B w gb e.1.backs)
structure OwnP (B T : Nat) (w : World) (g : Nat) (L : List (Pr × Value)) : Prop where
  lo : B ≤ g
  hi : g < T
  blk : ∃ cur, w.heap[g]? = some (.cells cur 101 (0, 0))
  cel : ∀ i, i < L.length → PCell w g i (L.getD i d0)
  val : ∀ i, i < L.length → ValOk B T w (L.getD i d0)
  sep : ∀ i j, i < j → j < L.length → ¬ (L.getD i d0).1.backs = [] → ¬ (L.getD j d0).1.backs = [] → ¬ (L.getD i d0).2.ownBlock = (L.getD j d0).2.ownBlock
theorem OwnP.lt {B T : Nat} {w : World} {g : Nat} {L : List (Pr × Value)} (h : OwnP B T w g L) : g < w.heap.size := by
  obtain ⟨cur, hc⟩ := h.blk
  exact (Array.getElem?_eq_some_iff.1 hc).1
theorem PCell.of_block {w w1 : World} {g i : Nat} {e : Pr × Value} (h : PCell w g i e) (hb : w1.heap[g]? = w.heap[g]?) : PCell w1 g i e :=
  ⟨(World.cell?_of_block (w := w) (a := ⟨g, i * 4, none⟩) hb).trans h.c0, (World.cell?_of_block (w := w) (a := ⟨g, i * 4 + 1, none⟩) hb).trans h.c1, (World.cell?_of_block (w := w) (a := ⟨g, i * 4 + 2, none⟩) hb).trans h.c2, (World.cell?_of_block (w := w) (a := ⟨g, i * 4 + 3, none⟩) hb).trans h.c3⟩
theorem OwnS.of_block {B : Nat} {w w1 : World} {g : Nat} {l : List Int} (h : OwnS B w g l) (hb : w1.heap[g]? = w.heap[g]?) : OwnS B w1 g l := by
  obtain ⟨cur, hc, ht⟩ := h.row
  exact ⟨h.lo, cur, hb.trans hc, ht⟩
theorem ValOk.blocks {B T : Nat} {w w1 : World} {e : Pr × Value} (h : ValOk B T w e) (hb : ∀ k, B ≤ k → k < T → k < w.heap.size → w1.heap[k]? = w.heap[k]?) : ValOk B T w1 e := by
  obtain ⟨ab, cb, hv, hc, hm, ho⟩ := h
  refine ⟨ab, cb, hv, hc, hm, ?_⟩
  rcases ho with ho | ⟨gb, ha, ht, os⟩
  · exact .inl ho
  · exact .inr ⟨gb, ha, ht, os.of_block (hb gb os.lo ht os.lt)⟩
theorem OwnP.blocks {B T : Nat} {w w1 : World} {g : Nat} {L : List (Pr × Value)} (h : OwnP B T w g L) (hb : ∀ k, B ≤ k → k < T → k < w.heap.size → w1.heap[k]? = w.heap[k]?) : OwnP B T w1 g L := by
  have hg := hb g h.lo h.hi h.lt
  obtain ⟨cur, hc⟩ := h.blk
  exact ⟨h.lo, h.hi, ⟨cur, hg.trans hc⟩, fun i hi => (h.cel i hi).of_block hg, fun i hi => (h.val i hi).blocks hb, h.sep⟩
theorem OwnP.keep {B T : Nat} {w w1 : World} {g : Nat} {L : List (Pr × Value)} (h : OwnP B T w g L) (hb : Below w.heap.size w w1) : OwnP B T w1 g L := h.blocks (fun k _ _ hk => hb.block k hk)
theorem ValOk.wide {B T T' : Nat} {w : World} {e : Pr × Value} (h : ValOk B T w e) (ht : T ≤ T') : ValOk B T' w e := by
  obtain ⟨ab, cb, hv, hc, hm, ho⟩ := h
  refine ⟨ab, cb, hv, hc, hm, ?_⟩
  rcases ho with ho | ⟨gb, ha, hl, os⟩
  · exact .inl ho
  · exact .inr ⟨gb, ha, by omega, os⟩
theorem OwnP.wide {B T T' : Nat} {w : World} {g : Nat} {L : List (Pr × Value)} (h : OwnP B T w g L) (ht : T ≤ T') : OwnP B T' w g L :=
  ⟨h.lo, by have := h.hi; omega, h.blk, h.cel, fun i hi => (h.val i hi).wide ht, h.sep⟩
theorem OwnP.peersAt {B T : Nat} {w : World} {g : Nat} {L : List (Pr × Value)} (h : OwnP B T w g L) : PeersAt w (some ⟨g, 0, none⟩) (L.map (·.1)) := by
  refine .inr ⟨g, 0, rfl, h.lt, fun i hi => ?_⟩
  rw [List.length_map] at hi
  have hc := h.cel i hi
  obtain ⟨ab, cb, hv, hcb, hm, ho⟩ := h.val i hi
  have e : (L.map (·.1)).getD i pr0 = (L.getD i d0).1 := by simp [List.getD_eq_getElem?_getD, List.getElem?_eq_getElem hi]
  rw [e, Nat.zero_add]
  refine ⟨hc.c0, hc.c1, hc.c2, ab, cb, by rw [hc.c3, hv], ?_, by unfold maxLen; omega, hcb⟩
  rcases ho with ho | ⟨gb, ha, _, os⟩
  · exact .inl ho
  · rw [ha]; exact os.rowAt
/-- a peer is stored, whose backs lie in a block that is new -/
theorem OwnP.store {B T : Nat} {w w1 : World} {g : Nat} {L : List (Pr × Value)} {i : Nat} {p : Pr} {gb cb : Nat} (h : OwnP B T w g L) (hT : T = w.heap.size) (hb : Below w.heap.size w w1) (hi : i < L.length) (hm : p.backs.length ≤ 1048576) (hcb : p.backs.length ≤ cb) (os : OwnS w.heap.size w1 gb p.backs) :
    OwnP B w1.heap.size (set4 w1 g (i * 4) (.int .i64 p.id) (.int .i64 p.succ) (.int .i64 p.point) (.slice (some ⟨gb, 0, none⟩) p.backs.length cb)) g (L.set i (p, .slice (some ⟨gb, 0, none⟩) p.backs.length cb)) := by
  have hlt := h.lt
  have hslo := os.lo
  have hne : ¬ gb = g := by omega
  have h1 := (h.keep hb).wide (T' := w1.heap.size) (by have := hb.size; omega)
  have hci := h1.cel i hi
  obtain ⟨cur, hc⟩ := h1.blk
  have hBw : B ≤ w.heap.size := by have := h.lo; omega
  have hb4 : ∀ k, ¬ k = g → (set4 w1 g (i * 4) (.int .i64 p.id) (.int .i64 p.succ) (.int .i64 p.point) (.slice (some ⟨gb, 0, none⟩) p.backs.length cb)).heap[k]? = w1.heap[k]? := fun k hk => set4_block hk
  have ex : ∀ j, j < L.length → ∀ e, (L.set i e).getD j d0 = if i = j then e else L.getD j d0 := fun j hj e => by
    rw [List.getD_eq_getElem?_getD, List.getElem?_set]
    by_cases hij : i = j
    · subst hij; simp [hj]
    · rw [if_neg hij, if_neg hij, List.getD_eq_getElem?_getD]
  refine ⟨h.lo, h1.hi, set4_row hc, fun j hj => ?_, fun j hj => ?_, fun j k hjk hk => ?_⟩
  · rw [List.length_set] at hj
    rw [ex j hj]
    by_cases hij : i = j
    · subst hij
      rw [if_pos rfl]
      obtain ⟨s0, s1, s2, s3⟩ := set4_in (a := .int .i64 p.id) (b := .int .i64 p.succ) (c := .int .i64 p.point) (d := .slice (some ⟨gb, 0, none⟩) p.backs.length cb) hci.c0 hci.c1 hci.c2 hci.c3
      exact ⟨s0, s1, s2, s3⟩
    · rw [if_neg hij]
      have hcj := h1.cel j hj
      exact ⟨set4_out (by omega) hcj.c0, set4_out (by omega) hcj.c1, set4_out (by omega) hcj.c2, set4_out (by omega) hcj.c3⟩
  · rw [List.length_set] at hj
    rw [ex j hj]
    by_cases hij : i = j
    · rw [if_pos hij]
      exact ⟨_, cb, rfl, ⟨hcb, fun h => by cases h⟩, hm, .inr ⟨gb, rfl, os.lt, (os.mono hBw).of_block (hb4 gb hne)⟩⟩
    · rw [if_neg hij]
      obtain ⟨ab, cb', hv, hc', hm', ho⟩ := h1.val j hj
      refine ⟨ab, cb', hv, hc', hm', ?_⟩
      rcases ho with ho | ⟨gj, ha, ht, osj⟩
      · exact .inl ho
      · refine .inr ⟨gj, ha, ht, osj.of_block (hb4 gj ?_)⟩
        intro he
        obtain ⟨cj, hcj, _⟩ := osj.row
        rw [he, hc] at hcj
        simp at hcj
  · rw [List.length_set] at hk
    rw [ex j (by omega), ex k hk]
    have old : ∀ q, q < L.length → ¬ (L.getD q d0).1.backs = [] → ¬ (L.getD q d0).2.ownBlock = some gb := fun q hq hn he => by
      obtain ⟨ab, cb', hv, _, _, ho⟩ := h.val q hq
      rcases ho with ho | ⟨gq, ha, ht, _⟩
      · exact hn ho
      · rw [hv, ha] at he
        simp [Value.ownBlock] at he
        omega
    by_cases hij : i = j
    · rw [if_pos hij, if_neg (by omega)]
      intro _ hn he
      exact old k hk hn (by rw [← he]; rfl)
    · rw [if_neg hij]
      by_cases hik : i = k
      · rw [if_pos hik]
        intro hn _ he
        exact old j (by omega) hn (by rw [he]; rfl)
      · rw [if_neg hik]
        exact h.sep j k hjk hk

theorem info_peer : (Try.prog.info? 101).map (fun i => (i.zero, i.size, i.bytes)) = some (some (.agg #[.int .i64 0, .int .i64 0, .int .i64 0, .slice none 0 0]), 4, 48) := by kernel_rfl
theorem make_peers (n : Nat) (hn : n ≤ 1048576) (w : World) :
    (Instr.makeSlice 26 (.int .i64 (n : Int)) (.int .i64 (n : Int))).run Try.prog w = .ok (.slice (some ⟨w.heap.size, 0, none⟩) n n) (w.alloc (.cells (madeCells #[.int .i64 0, .int .i64 0, .int .i64 0, .slice none 0 0] (n * 4)) 101)) := by
  obtain ⟨i0, hi, hz0, hz1, hz2⟩ := info_parts info_peer
  have := run_make (P := Try.prog) w 26 101 i0 _ Try.underlying26 hi hz0 .i64 .i64 (n : Int) (n : Int) (by omega) (by omega) (by rw [hz2]; omega) (by omega)
  rw [hz1] at this
  rw [this]
  simp
  rfl
theorem made_four (j n r : Nat) (hj : j < n) (hr : j % 4 = r) {v : Value} (hv : (#[Value.int .i64 0, .int .i64 0, .int .i64 0, .slice none 0 0] : Array Value)[r]! = v) : (madeCells #[.int .i64 0, .int .i64 0, .int .i64 0, .slice none 0 0] n)[j]? = some v := by
  have e : (madeCells #[.int .i64 0, .int .i64 0, .int .i64 0, .slice none 0 0] n)[j]? = some ((#[Value.int .i64 0, .int .i64 0, .int .i64 0, .slice none 0 0] : Array Value)[j % 4]!) := by
    unfold madeCells
    rw [Array.getElem?_map, Array.getElem?_range, if_pos hj]
    rfl
  rw [e, hr, hv]
theorem made_peers (w : World) (n : Nat) : OwnP w.heap.size (w.heap.size + 1) (w.alloc (.cells (madeCells #[.int .i64 0, .int .i64 0, .int .i64 0, .slice none 0 0] (n * 4)) 101)) w.heap.size (List.replicate n d0) := by
  have hrow := heap_alloc_new w (.cells (madeCells #[.int .i64 0, .int .i64 0, .int .i64 0, .slice none 0 0] (n * 4)) 101)
  have hg : ∀ i, i < n → (List.replicate n d0).getD i d0 = d0 := fun i hi => by simp [List.getD_eq_getElem?_getD, hi]
  refine ⟨Nat.le_refl _, by omega, ⟨_, hrow⟩, fun i hi => ?_, fun i hi => ?_, fun i j hij hj h1 => ?_⟩
  · rw [List.length_replicate] at hi
    rw [hg i hi]
    refine ⟨(cell_of_row _ _ _ _ _ _ hrow).trans ?_, (cell_of_row _ _ _ _ _ _ hrow).trans ?_, (cell_of_row _ _ _ _ _ _ hrow).trans ?_, (cell_of_row _ _ _ _ _ _ hrow).trans ?_⟩
    · exact made_four (i * 4) (n * 4) 0 (by omega) (by omega) rfl
    · exact made_four (i * 4 + 1) (n * 4) 1 (by omega) (by omega) rfl
    · exact made_four (i * 4 + 2) (n * 4) 2 (by omega) (by omega) rfl
    · exact made_four (i * 4 + 3) (n * 4) 3 (by omega) (by omega) rfl
  · rw [List.length_replicate] at hi
    rw [hg i hi]
    exact ⟨none, 0, rfl, ⟨Nat.le_refl _, fun _ => rfl⟩, by simp [d0, pr0], .inl rfl⟩
  · rw [List.length_replicate] at hj
    rw [hg i (by omega)] at h1
    exact absurd rfl h1
end Go.Proofs.Ytejajlloipkkhaa
