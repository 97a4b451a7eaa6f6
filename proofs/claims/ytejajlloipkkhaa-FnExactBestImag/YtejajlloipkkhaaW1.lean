/- Peers under way: a box with a list that grows; the mathematics of ideal peers. -/
import Derived.Test.YtejajlloipkkhaaW0
import Derived.Deep.RegionHeld
namespace Go.Proofs.Ytejajlloipkkhaa
open Go.RowKit
set_option linter.unusedVariables false

def prvN (zs : List Int) (p : Int) : Nat → Int
  | 0 => p
  | k + 1 => prvI zs (prvN zs p k)
def bckL (zs : List Int) (p : Int) (k : Nat) : List Int := (List.range k).map (fun i => prvN zs p (i + 1))
theorem bckL_len (zs : List Int) (p : Int) (k : Nat) : (bckL zs p k).length = k := by simp [bckL]
theorem bckL_succ (zs : List Int) (p : Int) (k : Nat) : bckL zs p (k + 1) = bckL zs p k ++ [prvN zs p (k + 1)] := by
  unfold bckL; rw [List.range_succ, List.map_append]; rfl
theorem prvN_rng {b d : Int} {zs : List Int} (R : Ring b d zs) {p : Int} (p1 : 0 ≤ p) (p2 : p < sz b) : ∀ k, 0 ≤ prvN zs p k ∧ prvN zs p k < sz b
  | 0 => ⟨p1, p2⟩
  | k + 1 => prv_rng R _
def idlP (b d : Int) (zs : List Int) (n : Nat) (x : Int) : Pr := ⟨x, nxtI zs x, pntI b d zs x, bckL zs (pntI b d zs x) n⟩
def idealL (b d : Int) (zs : List Int) (n : Nat) : List Pr := zs.map (idlP b d zs n)

theorem cell_four_new (w : World) (x0 x1 x2 x3 : Value) (t : TypeId) : ∀ j u, [x0, x1, x2, x3][j]? = some u → (w.alloc (.cells #[x0, x1, x2, x3] t)).cell? ((⟨w.heap.size, 0, none⟩ : Addr).add j) = some u := by
  intro j u hj
  rw [add_none', Nat.zero_add, cell_of_row _ _ _ _ _ _ (heap_alloc_new w (.cells #[x0, x1, x2, x3] t))]
  simpa using hj

/-- the argument's box, the answer's box, and the box of peers whose list grows -/
structure IdSt (w wr : World) (S0 : Array Value) (T0 : TypeId) (b d : Int) (vl : Value) (L : List (Pr × Value)) : Prop where
  bel : Below w.heap.size w wr
  lt : w.heap.size + 2 < wr.heap.size
  s : wr.heap[w.heap.size]? = some (.cells S0 T0 (0, 0))
  r : wr.heap[w.heap.size + 1]? = some (.cells #[.int .i64 0, .int .i64 0, .slice none 0 0] 28 (0, 0))
  p : wr.heap[w.heap.size + 1 + 1]? = some (.cells #[.int .i64 b, .int .i64 d, vl] 28 (0, 0))
  l : ListP (w.heap.size + 3) wr vl L
theorem IdSt.keep {w wr w1 : World} {S0 : Array Value} {T0 : TypeId} {b d : Int} {vl : Value} {L : List (Pr × Value)} (h : IdSt w wr S0 T0 b d vl L) (hb : Below wr.heap.size wr w1) : IdSt w w1 S0 T0 b d vl L :=
  have := h.lt
  ⟨belt h.bel hb, Nat.lt_of_lt_of_le h.lt hb.size, (hb.block _ (by omega)).trans h.s, (hb.block _ (by omega)).trans h.r, (hb.block _ (by omega)).trans h.p, h.l.keep hb⟩
theorem idSt0 (w : World) (S0 : Array Value) (T0 : TypeId) (b d : Int) : IdSt w (((w.alloc (.cells S0 T0)).alloc (.cells #[.int .i64 0, .int .i64 0, .slice none 0 0] 28)).alloc (.cells #[.int .i64 b, .int .i64 d, .slice none 0 0] 28)) S0 T0 b d (.slice none 0 0) [] := by
  refine ⟨(((Below.refl _ _).alloc (Nat.le_refl _) _).alloc (by simp) _).alloc (by simp; try omega) _, by simp, ?_, ?_, ?_, ListP.nil _ _⟩
  · rw [heap_alloc_old _ _ (by simp; try omega), heap_alloc_old _ _ (by simp; try omega)]
    exact heap_alloc_new _ _
  · rw [heap_alloc_old _ _ (by simp)]
    have := heap_alloc_new (w.alloc (.cells S0 T0)) (.cells #[.int .i64 0, .int .i64 0, .slice none 0 0] 28)
    simpa using this
  · have := heap_alloc_new ((w.alloc (.cells S0 T0)).alloc (.cells #[.int .i64 0, .int .i64 0, .slice none 0 0] 28)) (.cells #[.int .i64 b, .int .i64 d, .slice none 0 0] 28)
    simpa using this
/-- one peer more, whose backs lie beyond X; the list's box written -/
theorem IdSt.grow {w wx w5 w6 : World} {S0 : Array Value} {T0 : TypeId} {b d : Int} {vl v6 : Value} {L : List (Pr × Value)} {e : Pr × Value} (h : IdSt w wx S0 T0 b d vl L) (hb : Below wx.heap.size wx w5) (hg : w5.grownBy w6 vl.ownBlock)
    (ho : w6.ownsRow (w.heap.size + 3) 101 4 v6 (L.length + 1) (flatP L ++ [.int .i64 e.1.id, .int .i64 e.1.succ, .int .i64 e.1.point, e.2])) (hv : ValOk wx.heap.size w5.heap.size w5 e) :
    IdSt w (w6.setCell ⟨w.heap.size + 1 + 1, 2, none⟩ v6) S0 T0 b d v6 (L ++ [e]) := by
  have hlt := h.lt
  have h5 := h.keep hb
  have hne : ∀ k, k ≤ w.heap.size + 2 → some k ≠ vl.ownBlock := fun k hk he => by
    have := (h5.l.own.lt k he.symm).1
    omega
  have hs5 := h5.lt
  have blk : ∀ k, k ≤ w.heap.size + 2 → w6.heap[k]? = w5.heap[k]? := fun k hk => hg.block k (by omega) (hne k hk)
  have hvB : ValOk (w.heap.size + 3) w5.heap.size w5 e := by
    obtain ⟨ab, cb, hv', hc, hm, ho'⟩ := hv
    refine ⟨ab, cb, hv', hc, hm, ?_⟩
    rcases ho' with ho' | ⟨gb, ha, hl, os⟩
    · exact .inl ho'
    · exact .inr ⟨gb, ha, hl, os.mono (by omega)⟩
  have l6 : ListP (w.heap.size + 3) w6 v6 (L ++ [e]) := h5.l.grow hg ho hvB (fun i hi hn he hq => by
    obtain ⟨ab, cb, hv', _, _, ho'⟩ := h.l.val i hi
    obtain ⟨ae, ce, hve, _, _, hoe⟩ := hv
    rcases ho' with ho' | ⟨gb, ha, hl, os⟩
    · exact hn ho'
    · rcases hoe with hoe | ⟨ge, hae, _, ose⟩
      · exact he hoe
      · rw [hv', ha, hve, hae] at hq
        simp [Value.ownBlock] at hq
        have := ose.lo
        omega)
  refine ⟨?_, ?_, ?_, ?_, ?_, l6.blocks (by simp [World.setCell]) (fun k hk _ => heap_setCell_other _ _ _ _ (by simp; omega))⟩
  · exact (h5.bel.grown hg (by have := h5.bel.size; omega) (fun k hk => by have := (h5.l.own.lt k hk).1; omega)).setCell (p := ⟨w.heap.size + 1 + 1, 2, none⟩) (by simp; omega) _
  · have := hg.size; simp [World.setCell]; omega
  · rw [heap_setCell_other _ _ _ _ (by simp; try omega), blk _ (by omega)]; exact h5.s
  · rw [heap_setCell_other _ _ _ _ (by simp), blk _ (by omega)]; exact h5.r
  · exact heap_setCell_same _ _ 2 _ _ _ ((blk _ (by omega)).trans h5.p)
theorem info_peer' : ∃ i1, Try.prog.info? 101 = some i1 ∧ i1.zero = some (.agg #[.int .i64 0, .int .i64 0, .int .i64 0, .slice none 0 0]) ∧ i1.size = 4 ∧ i1.bytes = 48 := by
  obtain ⟨i0, hi, hz0, hz1, hz2⟩ := info_parts info_peer
  exact ⟨i0, hi, hz0, hz1, hz2⟩
end Go.Proofs.Ytejajlloipkkhaa
