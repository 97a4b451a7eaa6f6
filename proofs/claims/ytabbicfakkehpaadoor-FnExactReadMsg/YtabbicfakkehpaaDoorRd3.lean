/- What the fields of a text read as; the specification's message while it is read. -/
import Derived.Test.YtabbicfakkehpaaDoorRd2
import Derived.Lib.SmallJoins
namespace Go.Proofs.YtabbicfakkehpaaDoor
open Go.RowKit
set_option linter.unusedVariables false
set_option linter.unusedSimpArgs false
/-- the list of a text, behind its length at 9 -/
def lv (s : ByteArray) : List Int := (List.range (bt s 9).toNat).map (fun k => a2 s (10 + 2 * k))
theorem lv_len (s : ByteArray) : (lv s).length = (bt s 9).toNat := by unfold lv; simp
theorem lv_at (s : ByteArray) (k : Nat) (h : k < (lv s).length) : (lv s).getD k 0 = a2 s (10 + 2 * k) := by
  rw [List.getD_eq_getElem?_getD, List.getElem?_eq_getElem h]
  simp [lv]
theorem lv_take (s : ByteArray) (k : Nat) (h : k < (lv s).length) : (lv s).take (k + 1) = (lv s).take k ++ [a2 s (10 + 2 * k)] := by
  rw [List.take_add_one, List.getElem?_eq_getElem h]
  simp [lv]
/-- field f's number when the first j fields were read -/
def fv (s : ByteArray) (F : List Int) : Nat → Int → Int
  | 0, _ => 0
  | j + 1, f => if F.getD j 0 = f then a2 s (7 + 2 * j) else fv s F j f
def fL (s : ByteArray) (F : List Int) : Nat → List Int
  | 0 => []
  | j + 1 => if F.getD j 0 = 5 then lv s else fL s F j
theorem fL_step {s : ByteArray} {F : List Int} {j : Nat} {f : Int} (h : F.getD j 0 = f) (h5 : ¬ f = 5) : fL s F (j + 1) = fL s F j := by
  show (if F.getD j 0 = 5 then lv s else fL s F j) = fL s F j
  rw [if_neg (by rw [h]; exact h5)]
theorem fL_list {s : ByteArray} {F : List Int} {j : Nat} (h : F.getD j 0 = 5) : fL s F (j + 1) = lv s := if_pos h
theorem fv_same {s : ByteArray} {F : List Int} {j : Nat} {f : Int} (h : F.getD j 0 = f) : fv s F (j + 1) f = a2 s (7 + 2 * j) := if_pos h
theorem fv_other {s : ByteArray} {F : List Int} {j : Nat} {f g : Int} (h : F.getD j 0 = f) (hg : ¬ f = g) : fv s F (j + 1) g = fv s F j g := if_neg (by rw [h]; exact hg)
/-- block X is the message at work, vl its list, F its fields -/
structure TK (w wr : World) (X T B0 : Nat) (m0 m1 m2 m3 m4 m5 m6 m7 : Int) (vl : Value) (L : List Int) (aF : Option Addr) (nF : Nat) (F : List Int) : Prop where
  bel : Below w.heap.size w wr
  br : Bk wr w.heap.size #[.int .i64 0, .int .i64 0, .int .i64 0, .int .i64 0, .int .i64 0, .int .i64 0, .int .i64 0, .int .i64 0, .slice none 0 0] 26
  hX : w.heap.size < X
  hT : X < T
  hB : T ≤ B0 ∧ B0 ≤ wr.heap.size
  bx : Bk wr X #[.int .i64 m0, .int .i64 m1, .int .i64 m2, .int .i64 m3, .int .i64 m4, .int .i64 m5, .int .i64 m6, .int .i64 m7, vl] 26
  ow : wr.ownsRow B0 3 1 vl L.length (L.map (Value.int .i64))
  fl : OwnLs T B0 wr aF nF F
section
variable {w wr w1 : World} {X T B0 : Nat} {m0 m1 m2 m3 m4 m5 m6 m7 : Int} {vl : Value} {L : List Int} {aF : Option Addr} {nF : Nat} {F : List Int}
theorem own_blocks {w w1 : World} {B : Nat} {v : Value} {n : Nat} {xs : List Value} (h : w.ownsRow B 3 1 v n xs) (hb : ∀ k, B ≤ k → k < w.heap.size → w1.heap[k]? = w.heap[k]?) : w1.ownsRow B 3 1 v n xs := by
  obtain ⟨h1, h2⟩ := h
  refine ⟨h1, ?_⟩
  rcases h2 with h2 | ⟨q, cp, cur, rfl, hq, hr, rest⟩
  · exact .inl h2
  · exact .inr ⟨q, cp, cur, rfl, hq, (hb q hq (Array.getElem?_eq_some_iff.1 hr).1).trans hr, rest⟩
theorem own_lo {w : World} {B B' : Nat} {v : Value} {n : Nat} {xs : List Value} (h : w.ownsRow B 3 1 v n xs) (hb : B' ≤ B) : w.ownsRow B' 3 1 v n xs := by
  obtain ⟨h1, h2⟩ := h
  refine ⟨h1, ?_⟩
  rcases h2 with h2 | ⟨q, cp, cur, e3, hq, rest⟩
  · exact .inl h2
  · exact .inr ⟨q, cp, cur, e3, by omega, rest⟩
theorem TK.keep (h : TK w wr X T B0 m0 m1 m2 m3 m4 m5 m6 m7 vl L aF nF F) (hb : Below wr.heap.size wr w1) : TK w w1 X T B0 m0 m1 m2 m3 m4 m5 m6 m7 vl L aF nF F :=
  ⟨belt h.bel hb, h.br.keep hb, h.hX, h.hT, ⟨h.hB.1, Nat.le_trans h.hB.2 hb.size⟩, h.bx.keep hb, own_blocks h.ow (fun k _ hk => hb.block k hk), h.fl.keep hb⟩
/-- a number of the message is written -/
theorem TK.set (h : TK w wr X T B0 m0 m1 m2 m3 m4 m5 m6 m7 vl L aF nF F) (i : Nat) (v : Int) {k0 k1 k2 k3 k4 k5 k6 k7 : Int}
    (hc : (#[.int .i64 m0, .int .i64 m1, .int .i64 m2, .int .i64 m3, .int .i64 m4, .int .i64 m5, .int .i64 m6, .int .i64 m7, vl] : Array Value).setIfInBounds i (.int .i64 v) = #[.int .i64 k0, .int .i64 k1, .int .i64 k2, .int .i64 k3, .int .i64 k4, .int .i64 k5, .int .i64 k6, .int .i64 k7, vl]) :
    TK w (wr.setCell ⟨X, i, none⟩ (.int .i64 v)) X T B0 k0 k1 k2 k3 k4 k5 k6 k7 vl L aF nF F := by
  have hX := h.hX
  have hT := h.hT
  have hB := h.hB
  refine ⟨h.bel.setCell (p := ⟨X, i, none⟩) (by simp; omega) _, h.br.oth (by omega) i _, hX, hT, ⟨hB.1, by have := hB.2; simpa [World.setCell] using this⟩, ?_, own_blocks h.ow (fun k h1 h2 => heap_setCell_other _ _ _ _ (by simp; omega)), h.fl.blocks (fun k h1 h2 h3 => heap_setCell_other _ _ _ _ (by simp; omega))⟩
  rw [← hc]
  exact h.bx.set i _
theorem TK.below {v1 : Value} {o : Obj} (h : TK w wr X T B0 m0 m1 m2 m3 m4 m5 m6 m7 vl L aF nF F) (hg : Gw (wr.alloc o) w1 vl v1) : Below B0 wr w1 :=
  (((Gw.refl wr vl).alloc o).trans hg).below h.hB.2 (fun k hk => (World.ownsRow.lt h.ow k hk).1)
theorem TK.mid {v1 : Value} {o : Obj} (h : TK w wr X T B0 m0 m1 m2 m3 m4 m5 m6 m7 vl L aF nF F) (hg : Gw (wr.alloc o) w1 vl v1) :
    Bk w1 w.heap.size #[.int .i64 0, .int .i64 0, .int .i64 0, .int .i64 0, .int .i64 0, .int .i64 0, .int .i64 0, .int .i64 0, .slice none 0 0] 26 ∧ w1.cell? ⟨X, 8, none⟩ = some vl ∧ w1.frozen? ⟨X, 8, none⟩ = false := by
  have hX := h.hX
  have hT := h.hT
  have hB := h.hB.1
  have hbel := h.below hg
  have hk := h.bx.keepN hbel (by omega)
  exact ⟨h.br.keepN hbel (by omega), hk.cell 8, hk.fr 8⟩
/-- the list is written -/
theorem TK.lst (h : TK w wr X T B0 m0 m1 m2 m3 m4 m5 m6 m7 vl L aF nF F) {v1 : Value} {L1 : List Int} {o : Obj} (hg : Gw (wr.alloc o) w1 vl v1) (ho : w1.ownsRow B0 3 1 v1 L1.length (L1.map (Value.int .i64))) :
    TK w (w1.setCell ⟨X, 8, none⟩ v1) X T B0 m0 m1 m2 m3 m4 m5 m6 m7 v1 L1 aF nF F := by
  have hX := h.hX
  have hT := h.hT
  have hB := h.hB
  have hbel := h.below hg
  have hbw := h.bel
  have b1 : Below w.heap.size w w1 := ⟨hbel.os.trans hbw.os, hbel.tape.trans hbw.tape, hbel.output.trans hbw.output, Nat.le_trans hbw.size hbel.size, fun k hk => (hbel.block k (by omega)).trans (hbw.block k hk)⟩
  refine ⟨b1.setCell (p := ⟨X, 8, none⟩) (by simp; omega) _, (h.br.keepN hbel (by omega)).oth (by omega) 8 _, hX, hT, ⟨hB.1, by have := hbel.size; have h2 := hB.2; simp [World.setCell]; omega⟩, ?_, own_blocks ho (fun k h1 h2 => heap_setCell_other _ _ _ _ (by simp; omega)), h.fl.blocks (fun k h1 h2 h3 => (heap_setCell_other _ _ _ _ (by simp; omega)).trans (hbel.block k (by omega)))⟩
  have := (h.bx.keepN hbel (by omega)).set 8 v1
  simpa using this
theorem TK.form (h : TK w wr X T B0 m0 m1 m2 m3 m4 m5 m6 m7 vl L aF nF F) : ∃ va vn vc, vl = .slice va vn vc ∧ L.length = vn := by
  obtain ⟨h1, h2⟩ := h.ow
  rcases h2 with ⟨rfl, h2⟩ | ⟨q, cp, cur, rfl, rest⟩
  · refine ⟨_, _, _, rfl, ?_⟩
    simp at h2
    rw [h2]; rfl
  · exact ⟨_, _, _, rfl, rfl⟩
theorem own_row {w : World} {B : Nat} {va : Option Addr} {vn vc n : Nat} {l : List Int} (h : w.ownsRow B 3 1 (.slice va vn vc) n (l.map (Value.int .i64))) : RowAt w va l := by
  rcases h.2 with ⟨h2, h3⟩ | ⟨q, cp, cur, hv, _⟩
  · have h1 := h.1
    simp at h1
    exact .inl (List.length_eq_zero_iff.1 (by omega))
  · simp at hv
    obtain ⟨rfl, rfl, rfl⟩ := hv
    exact (OwnS.of_owns h).1.rowAt
theorem own_ls {w : World} {B : Nat} {va : Option Addr} {vn vc n : Nat} {l : List Int} (h : w.ownsRow B 3 1 (.slice va vn vc) n (l.map (Value.int .i64))) : OwnLs B w.heap.size w va vn l := by
  rcases h.2 with ⟨h2, h3⟩ | ⟨q, cp, cur, hv, _⟩
  · have h1 := h.1
    simp at h1
    cases h2
    have e : l = [] := List.length_eq_zero_iff.1 (by omega)
    subst e
    exact ⟨rfl, .inl rfl⟩
  · simp at hv
    obtain ⟨rfl, rfl, rfl⟩ := hv
    have ho := OwnS.of_owns h
    exact ⟨ho.2.1, .inr ⟨q, rfl, ho.1.lt, ho.1⟩⟩
/-- the message is handed out -/
theorem TK.fin {va : Option Addr} {vn vc : Nat} (h : TK w wr X T B0 m0 m1 m2 m3 m4 m5 m6 m7 (.slice va vn vc) L aF nF F) (vs : List Value) :
    OwnLs w.heap.size (setL wr w.heap.size 0 vs).heap.size (setL wr w.heap.size 0 vs) va vn L ∧ Below w.heap.size w (setL wr w.heap.size 0 vs) := by
  have hX := h.hX
  have hT := h.hT
  have hB := h.hB.1
  have ho := own_ls (own_blocks h.ow (w1 := setL wr w.heap.size 0 vs) (fun k h1 h2 => setL_oth (by omega) vs wr 0))
  exact ⟨ho.wide (by omega) (Nat.le_refl _), setL_below (Nat.le_refl _) vs 0 h.bel⟩
end
end Go.Proofs.YtabbicfakkehpaaDoor
