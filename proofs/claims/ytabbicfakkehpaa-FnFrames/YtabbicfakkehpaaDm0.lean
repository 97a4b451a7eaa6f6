/- A message that is drawn: what is known while it is made. -/
import Derived.Test.YtabbicfakkehpaaC1
import Derived.Test.YtabbicfakkehpaaBy1
import Derived.Test.YtabbicfakkehpaaF4
import Derived.Lib.SmallJoins
namespace Go.Proofs.Ytabbicfakkehpaa
open Go.RowKit
set_option linter.unusedVariables false
theorem cur_blocks {w wr w1 : World} {g n : Nat} {a : Option Addr} {cap : Nat} {zs : List Int} (h : CurAt wr g n a cap zs) (h0 : RowU w g a zs) (mv : Mv g w w1) (hg : w1.heap[g]? = wr.heap[g]?) : CurAt w1 g n a cap zs := by
  obtain ⟨k, sd, h1, h2, h3⟩ := h.st
  exact ⟨⟨k, sd, hg.trans h1, h2, h3⟩, h0.keep mv, h.len⟩
/-- ahead of the message's variable -/
structure MS0 (w wr : World) (g N : Nat) (a : Option Addr) (cap : Nat) (zs : List Int) (b d : Int) : Prop where
  mv : Mv g w wr
  cur : CurAt wr g N a cap zs
  lt : g < w.heap.size
  ru : RowU w g a zs
  bs : Bk wr w.heap.size #[.int .i64 b, .int .i64 d] 30
  br : Bk wr (w.heap.size + 1) #[.int .i64 0, .int .i64 0, .int .i64 0, .int .i64 0, .int .i64 0, .int .i64 0, .int .i64 0, .int .i64 0, .slice none 0 0] 33
/-- block X is the message at work, vl its list -/
structure MS (w wr : World) (g N : Nat) (a : Option Addr) (cap : Nat) (zs : List Int) (b d : Int) (X B0 : Nat) (m0 m1 m2 m3 m4 m5 m6 m7 : Int) (vl : Value) (L : List Int) : Prop where
  s0 : MS0 w wr g N a cap zs b d
  hX : w.heap.size + 2 ≤ X
  hB : X < B0 ∧ B0 ≤ wr.heap.size
  bx : Bk wr X #[.int .i64 m0, .int .i64 m1, .int .i64 m2, .int .i64 m3, .int .i64 m4, .int .i64 m5, .int .i64 m6, .int .i64 m7, vl] 33
  ow : wr.ownsRow B0 3 1 vl L.length (L.map (Value.int .i64))
section
variable {w wr w1 : World} {g N : Nat} {a : Option Addr} {cap : Nat} {zs : List Int} {b d : Int} {X B0 : Nat} {m0 m1 m2 m3 m4 m5 m6 m7 : Int} {vl : Value} {L : List Int}
theorem Bk.mv {k : Nat} {C : Array Value} {T : TypeId} (h : Bk wr k C T) (m : Mv g wr w1) (hk : ¬ k = g) : Bk w1 k C T := (m.block k h.lt hk).trans h
theorem MS0.call {N' : Nat} (h : MS0 w wr g N a cap zs b d) (m : Mv g wr w1) (hc : CurAt w1 g N' a cap zs) : MS0 w w1 g N' a cap zs b d :=
  ⟨h.mv.trans m, hc, h.lt, h.ru, h.bs.mv m (by have := h.lt; omega), h.br.mv m (by have := h.lt; omega)⟩
theorem MS0.keep (h : MS0 w wr g N a cap zs b d) (hb : Below wr.heap.size wr w1) : MS0 w w1 g N a cap zs b d :=
  h.call (Mv.of_below hb) (h.cur.keep hb)
theorem MS.call {N' : Nat} (h : MS w wr g N a cap zs b d X B0 m0 m1 m2 m3 m4 m5 m6 m7 vl L) (m : Mv g wr w1) (hc : CurAt w1 g N' a cap zs) : MS w w1 g N' a cap zs b d X B0 m0 m1 m2 m3 m4 m5 m6 m7 vl L := by
  have hl := h.s0.lt
  have hX := h.hX
  have hB := h.hB
  refine ⟨h.s0.call m hc, hX, ⟨hB.1, Nat.le_trans hB.2 m.size⟩, h.bx.mv m (by omega), ?_⟩
  obtain ⟨h1, h2⟩ := h.ow
  refine ⟨h1, ?_⟩
  rcases h2 with h2 | ⟨q, cp, cur, rfl, hq, hr, rest⟩
  · exact .inl h2
  · exact .inr ⟨q, cp, cur, rfl, hq, (m.block q (Array.getElem?_eq_some_iff.1 hr).1 (by omega)).trans hr, rest⟩
theorem MS.keep (h : MS w wr g N a cap zs b d X B0 m0 m1 m2 m3 m4 m5 m6 m7 vl L) (hb : Below wr.heap.size wr w1) : MS w w1 g N a cap zs b d X B0 m0 m1 m2 m3 m4 m5 m6 m7 vl L :=
  h.call (Mv.of_below hb) (h.s0.cur.keep hb)
theorem MS.cells (h : MS w wr g N a cap zs b d X B0 m0 m1 m2 m3 m4 m5 m6 m7 vl L) : X < wr.heap.size ∧ ¬ X = g ∧ ¬ w.heap.size = X ∧ ¬ w.heap.size + 1 = X := by
  have := h.bx.lt
  have := h.hX
  have := h.s0.lt
  omega
theorem MS0.oth (h : MS0 w wr g N a cap zs b d) (hX : w.heap.size + 2 ≤ X) (i : Nat) (v : Value) : MS0 w (wr.setCell ⟨X, i, none⟩ v) g N a cap zs b d := by
  have hl := h.lt
  have mv : Mv g w (wr.setCell ⟨X, i, none⟩ v) := ⟨h.mv.os, h.mv.tape, h.mv.output, by have := h.mv.size; simpa [World.setCell] using this, fun k hk hg => (heap_setCell_other _ _ _ _ (by simp; omega)).trans (h.mv.block k hk hg)⟩
  exact ⟨mv, cur_blocks h.cur h.ru mv (heap_setCell_other _ _ _ _ (by simp; omega)), hl, h.ru, h.bs.oth (by omega) i v, h.br.oth (by omega) i v⟩
theorem own_oth {w : World} {B X : Nat} {v : Value} {n : Nat} {xs : List Value} (h : w.ownsRow B 3 1 v n xs) (hX : X < B) (i : Nat) (u : Value) : (w.setCell ⟨X, i, none⟩ u).ownsRow B 3 1 v n xs := by
  obtain ⟨h1, h2⟩ := h
  refine ⟨h1, ?_⟩
  rcases h2 with h2 | ⟨q, cp, cur, rfl, hq, hr, rest⟩
  · exact .inl h2
  · exact .inr ⟨q, cp, cur, rfl, hq, (heap_setCell_other _ _ _ _ (by simp; omega)).trans hr, rest⟩
/-- a number of the message is written -/
theorem MS.set (h : MS w wr g N a cap zs b d X B0 m0 m1 m2 m3 m4 m5 m6 m7 vl L) (i : Nat) (v : Int) {k0 k1 k2 k3 k4 k5 k6 k7 : Int}
    (hc : (#[.int .i64 m0, .int .i64 m1, .int .i64 m2, .int .i64 m3, .int .i64 m4, .int .i64 m5, .int .i64 m6, .int .i64 m7, vl] : Array Value).setIfInBounds i (.int .i64 v) = #[.int .i64 k0, .int .i64 k1, .int .i64 k2, .int .i64 k3, .int .i64 k4, .int .i64 k5, .int .i64 k6, .int .i64 k7, vl]) :
    MS w (wr.setCell ⟨X, i, none⟩ (.int .i64 v)) g N a cap zs b d X B0 k0 k1 k2 k3 k4 k5 k6 k7 vl L := by
  refine ⟨h.s0.oth h.hX i _, h.hX, ⟨h.hB.1, by have := h.hB.2; simpa [World.setCell] using this⟩, ?_, own_oth h.ow h.hB.1 i _⟩
  rw [← hc]
  exact h.bx.set i _
/-- the list is written -/
theorem MS.lst (h : MS w wr g N a cap zs b d X B0 m0 m1 m2 m3 m4 m5 m6 m7 vl L) {w1 : World} {v1 : Value} {L1 : List Int} {o : Obj} (hg : Gw (wr.alloc o) w1 vl v1) (ho : w1.ownsRow B0 3 1 v1 L1.length (L1.map (Value.int .i64))) :
    MS w (w1.setCell ⟨X, 8, none⟩ v1) g N a cap zs b d X B0 m0 m1 m2 m3 m4 m5 m6 m7 v1 L1 := by
  obtain ⟨c1, c2, c3, c4⟩ := h.cells
  have hl := h.s0.lt
  have hX := h.hX
  have hB := h.hB
  have hlo : ∀ k, vl.ownBlock = some k → B0 ≤ k := fun k hk => (World.ownsRow.lt h.ow k hk).1
  have hbel : Below B0 wr w1 := (((Gw.refl wr vl).alloc o).trans hg).below hB.2 hlo
  have mv : Mv g wr w1 → True := fun _ => trivial
  have s1 : MS0 w w1 g N a cap zs b d := by
    have h0 := h.s0
    have mv1 : Mv g w w1 := ⟨hbel.os.trans h0.mv.os, hbel.tape.trans h0.mv.tape, hbel.output.trans h0.mv.output, Nat.le_trans h0.mv.size hbel.size, fun k hk hg => (hbel.block k (by omega)).trans (h0.mv.block k hk hg)⟩
    exact ⟨mv1, cur_blocks h0.cur h0.ru mv1 (hbel.block g (by omega)), hl, h0.ru, h0.bs.keepN hbel (by omega), h0.br.keepN hbel (by omega)⟩
  refine ⟨s1.oth hX 8 v1, hX, ⟨hB.1, by have := hbel.size; have h2 := hB.2; simp [World.setCell]; omega⟩, ?_, own_oth ho hB.1 8 _⟩
  have := (h.bx.keepN hbel (by omega)).set 8 v1
  simpa using this
theorem MS.rebase (h : MS w wr g N a cap zs b d X B0 m0 m1 m2 m3 m4 m5 m6 m7 (.slice none 0 0) []) {B1 : Nat} (h1 : X < B1) (h2 : B1 ≤ wr.heap.size) : MS w wr g N a cap zs b d X B1 m0 m1 m2 m3 m4 m5 m6 m7 (.slice none 0 0) [] :=
  ⟨h.s0, h.hX, ⟨h1, h2⟩, h.bx, World.ownsRow_nil _ _ _ _⟩
/-- and the kind's fields are told -/
structure MF (w wr : World) (g N : Nat) (a : Option Addr) (cap : Nat) (zs : List Int) (b d : Int) (X T B0 : Nat) (m0 m1 m2 m3 m4 m5 m6 m7 : Int) (vl : Value) (L : List Int) (aF : Option Addr) (nF : Nat) (F : List Int) : Prop where
  ms : MS w wr g N a cap zs b d X B0 m0 m1 m2 m3 m4 m5 m6 m7 vl L
  hT : X < T
  fl : OwnLs T B0 wr aF nF F
variable {T : Nat} {aF : Option Addr} {nF : Nat} {F : List Int}
theorem MF.call {N' : Nat} (h : MF w wr g N a cap zs b d X T B0 m0 m1 m2 m3 m4 m5 m6 m7 vl L aF nF F) (m : Mv g wr w1) (hc : CurAt w1 g N' a cap zs) : MF w w1 g N' a cap zs b d X T B0 m0 m1 m2 m3 m4 m5 m6 m7 vl L aF nF F :=
  ⟨h.ms.call m hc, h.hT, h.fl.blocks (fun k h1 h2 h3 => m.block k h3 (by have := h.ms.s0.lt; have := h.ms.hX; have := h.hT; omega))⟩
theorem MF.keep (h : MF w wr g N a cap zs b d X T B0 m0 m1 m2 m3 m4 m5 m6 m7 vl L aF nF F) (hb : Below wr.heap.size wr w1) : MF w w1 g N a cap zs b d X T B0 m0 m1 m2 m3 m4 m5 m6 m7 vl L aF nF F :=
  h.call (Mv.of_below hb) (h.ms.s0.cur.keep hb)
theorem MF.set (h : MF w wr g N a cap zs b d X T B0 m0 m1 m2 m3 m4 m5 m6 m7 vl L aF nF F) (i : Nat) (v : Int) {k0 k1 k2 k3 k4 k5 k6 k7 : Int}
    (hc : (#[.int .i64 m0, .int .i64 m1, .int .i64 m2, .int .i64 m3, .int .i64 m4, .int .i64 m5, .int .i64 m6, .int .i64 m7, vl] : Array Value).setIfInBounds i (.int .i64 v) = #[.int .i64 k0, .int .i64 k1, .int .i64 k2, .int .i64 k3, .int .i64 k4, .int .i64 k5, .int .i64 k6, .int .i64 k7, vl]) :
    MF w (wr.setCell ⟨X, i, none⟩ (.int .i64 v)) g N a cap zs b d X T B0 k0 k1 k2 k3 k4 k5 k6 k7 vl L aF nF F :=
  ⟨h.ms.set i v hc, h.hT, h.fl.blocks (fun k h1 h2 h3 => heap_setCell_other _ _ _ _ (by have := h.hT; simp; omega))⟩
theorem MF.lst (h : MF w wr g N a cap zs b d X T B0 m0 m1 m2 m3 m4 m5 m6 m7 vl L aF nF F) {w1 : World} {v1 : Value} {L1 : List Int} {o : Obj} (hg : Gw (wr.alloc o) w1 vl v1) (ho : w1.ownsRow B0 3 1 v1 L1.length (L1.map (Value.int .i64))) :
    MF w (w1.setCell ⟨X, 8, none⟩ v1) g N a cap zs b d X T B0 m0 m1 m2 m3 m4 m5 m6 m7 v1 L1 aF nF F := by
  have hlo : ∀ k, vl.ownBlock = some k → B0 ≤ k := fun k hk => (World.ownsRow.lt h.ms.ow k hk).1
  have hbel : Below B0 wr w1 := (((Gw.refl wr vl).alloc o).trans hg).below h.ms.hB.2 hlo
  exact ⟨h.ms.lst hg ho, h.hT, h.fl.blocks (fun k h1 h2 h3 => (heap_setCell_other _ _ _ _ (by have := h.hT; simp; omega)).trans (hbel.block k (by omega)))⟩
theorem own_setL {B Y : Nat} {v : Value} {n : Nat} {xs : List Value} (hY : Y < B) : ∀ (vs : List Value) (w : World) (i : Nat), w.ownsRow B 3 1 v n xs → (setL w Y i vs).ownsRow B 3 1 v n xs
  | [], _, _, h => h
  | u :: vs, w, i, h => own_setL hY vs _ (i + 1) (own_oth h hY i u)
theorem MS.fin (h : MS w wr g N a cap zs b d X B0 m0 m1 m2 m3 m4 m5 m6 m7 vl L) (vs : List Value) :
    (setL wr (w.heap.size + 1) 0 vs).ownsRow w.heap.size 3 1 vl L.length (L.map (Value.int .i64)) ∧ Mv g w (setL wr (w.heap.size + 1) 0 vs) ∧ CurAt (setL wr (w.heap.size + 1) 0 vs) g N a cap zs := by
  have h1 := h.hX
  have h2 := h.hB
  have hl := h.s0.lt
  have hm := h.s0.mv
  have ho := own_setL (Y := w.heap.size + 1) (by omega) vs wr 0 h.ow
  have mv : Mv g w (setL wr (w.heap.size + 1) 0 vs) := by
    have hb : Below (w.heap.size + 1) wr (setL wr (w.heap.size + 1) 0 vs) := setL_below (Nat.le_refl _) vs 0 (Below.refl _ _)
    exact ⟨hb.os.trans hm.os, hb.tape.trans hm.tape, hb.output.trans hm.output, Nat.le_trans hm.size hb.size, fun k hk hg => (hb.block k (by omega)).trans (hm.block k hk hg)⟩
  refine ⟨?_, mv, cur_blocks h.s0.cur h.s0.ru mv (setL_oth (by omega) vs wr 0)⟩
  obtain ⟨e1, e2⟩ := ho
  refine ⟨e1, ?_⟩
  rcases e2 with e2 | ⟨q, cp, cur, e3, hq, rest⟩
  · exact .inl e2
  · exact .inr ⟨q, cp, cur, e3, by omega, rest⟩
theorem MS.form (h : MS w wr g N a cap zs b d X B0 m0 m1 m2 m3 m4 m5 m6 m7 vl L) : ∃ va vn vc, vl = .slice va vn vc := by
  rcases Joins.ownsRow_forms h.ow with ⟨e, _⟩ | ⟨q, c, e⟩
  · exact ⟨_, _, _, e⟩
  · exact ⟨_, _, _, e⟩
theorem MF.mid (h : MF w wr g N a cap zs b d X T B0 m0 m1 m2 m3 m4 m5 m6 m7 vl L aF nF F) {w1 : World} {v1 : Value} {o : Obj} (hg : Gw (wr.alloc o) w1 vl v1) :
    Bk w1 w.heap.size #[.int .i64 b, .int .i64 d] 30 ∧ w1.cell? ⟨X, 8, none⟩ = some vl ∧ w1.frozen? ⟨X, 8, none⟩ = false := by
  have hlo : ∀ k, vl.ownBlock = some k → B0 ≤ k := fun k hk => (World.ownsRow.lt h.ms.ow k hk).1
  have hbel : Below B0 wr w1 := (((Gw.refl wr vl).alloc o).trans hg).below h.ms.hB.2 hlo
  have h1 := h.ms.hX
  have h2 := h.ms.hB.1
  have hk := h.ms.bx.keepN hbel (by omega)
  exact ⟨h.ms.s0.bs.keepN hbel (by omega), hk.cell 8, hk.fr 8⟩
end
end Go.Proofs.Ytabbicfakkehpaa
