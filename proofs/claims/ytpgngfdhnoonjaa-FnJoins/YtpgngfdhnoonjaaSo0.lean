/- Rows in a block of one's own, and how a short list of them is sorted in place. -/
import Derived.Test.YtpgngfdhnoonjaaMa0
import Derived.Test.YtpgngfdhnoonjaaTr1
import Derived.Test.YtpgngfdhnoonjaaG1
namespace Go.Proofs.Ytpgngfdhnoonjaa.Tb
open Go.RowKit Wire Go.Deep
set_option linter.unusedVariables false
set_option linter.unusedSimpArgs false
/-- block g, new since w0, holds these rows -/
structure RB (w0 w : World) (g c : Nat) (L : List Rw) : Prop where
  bel : Below w0.heap.size w0 w
  lo : w0.heap.size ≤ g
  cap : L.length ≤ c
  row : ∃ cur, w.heap[g]? = some (.cells cur 37 (0, 0))
  el : ∀ i, i < L.length → CellsAt w g (i * 4) (rwV (L.getD i rw0))
theorem RB.lt {w0 w : World} {g c : Nat} {L : List Rw} (h : RB w0 w g c L) : g < w.heap.size := by
  obtain ⟨cur, hc⟩ := h.row
  exact (Array.getElem?_eq_some_iff.1 hc).1
theorem RB.keep {w0 w w1 : World} {g c : Nat} {L : List Rw} (h : RB w0 w g c L) (hb : Below w.heap.size w w1) : RB w0 w1 g c L := by
  obtain ⟨cur, hc⟩ := h.row
  exact ⟨belt h.bel hb, h.lo, h.cap, ⟨cur, (hb.block g h.lt).trans hc⟩, fun i hi => (h.el i hi).block (hb.block g h.lt)⟩
theorem RB.fr {w0 w : World} {g c : Nat} {L : List Rw} (h : RB w0 w g c L) (j : Nat) : w.frozen? ⟨g, j, none⟩ = false := by
  obtain ⟨cur, hc⟩ := h.row
  exact frozen_of_row w _ _ _ _ hc
theorem RB.put {w0 w : World} {g c : Nat} {L : List Rw} (h : RB w0 w g c L) {i : Nat} (hi : i < L.length) (r : Rw) : RB w0 (setTr w g (i * 4) (.int .i64 r.x0) (.int .i64 r.x1) (.int .i64 r.x2) (.bool r.b)) g c (L.set i r) := by
  have hsl : (L.set i r).length = L.length := List.length_set
  refine ⟨setTr_below _ _ _ _ h.bel h.lo, h.lo, by rw [hsl]; exact h.cap, ?_, fun j hj => ?_⟩
  · rw [setTr_eq]; exact setO_row _ _ h.row
  · rw [hsl] at hj
    rw [setTr_eq, getD_set' hj]
    by_cases e : i = j
    · subst e
      rw [if_pos rfl]
      have hin := h.el i hj
      exact setO_in [.int .i64 r.x0, .int .i64 r.x1, .int .i64 r.x2, .bool r.b] (i * 4) (fun q hq => by
        have hq' : q < 4 := hq
        match q, hq' with
        | 0, _ => exact ⟨_, hin 0 _ rfl⟩
        | 1, _ => exact ⟨_, hin 1 _ rfl⟩
        | 2, _ => exact ⟨_, hin 2 _ rfl⟩
        | 3, _ => exact ⟨_, hin 3 _ rfl⟩)
    · rw [if_neg e]
      intro k v hk
      have hk4 : k < 4 := by have := (List.getElem?_eq_some_iff.1 hk).1; simpa [rwV] using this
      exact setO_out _ _ (by simp only [List.length_cons, List.length_nil]; omega) (h.el j hj k v hk)
/-- x put into S at place j -/
def insS (S : List Rw) (x : Rw) (j : Nat) : List Rw := S.take j ++ x :: S.drop j
theorem insS_len {S : List Rw} {x : Rw} {j : Nat} (hj : j ≤ S.length) : (insS S x j).length = S.length + 1 := by
  unfold insS
  rw [List.length_append, List.length_cons, List.length_take, List.length_drop]
  omega
theorem insS_form {S : List Rw} {x : Rw} {j : Nat} (h1 : 0 < j) (h2 : j ≤ S.length) (D : List Rw) : insS S x j ++ D = S.take (j - 1) ++ (S.getD (j - 1) rw0 :: x :: (S.drop j ++ D)) ∧ insS S x (j - 1) ++ D = S.take (j - 1) ++ (x :: S.getD (j - 1) rw0 :: (S.drop j ++ D)) ∧ (S.take (j - 1)).length = j - 1 := by
  have e1 : S.take j = S.take (j - 1) ++ [S.getD (j - 1) rw0] := by
    have := List.take_succ_eq_append_getElem (l := S) (i := j - 1) (by omega)
    rw [show j - 1 + 1 = j from by omega] at this
    rw [getD_at (by omega)]
    exact this
  have e2 : S.drop (j - 1) = S.getD (j - 1) rw0 :: S.drop j := by
    rw [List.drop_eq_getElem_cons (show j - 1 < S.length by omega), show j - 1 + 1 = j from by omega, getD_at (by omega)]
  refine ⟨?_, ?_, by rw [List.length_take]; omega⟩
  · unfold insS; rw [e1]; simp
  · unfold insS; rw [e2]; simp
theorem insS_at {S : List Rw} {x : Rw} {j : Nat} (h2 : j ≤ S.length) (D : List Rw) : (insS S x j ++ D).getD j rw0 = x := by
  unfold insS
  have hl : (S.take j).length = j := by rw [List.length_take]; omega
  rw [List.append_assoc, List.getD_eq_getElem?_getD, List.getElem?_append_right (by omega), hl, Nat.sub_self]
  rfl
theorem insS_pre {S : List Rw} {x : Rw} {j : Nat} (h1 : 0 < j) (h2 : j ≤ S.length) (D : List Rw) : (insS S x j ++ D).getD (j - 1) rw0 = S.getD (j - 1) rw0 := by
  obtain ⟨e, _, hl⟩ := insS_form (x := x) h1 h2 D
  rw [e, List.getD_eq_getElem?_getD, List.getElem?_append_right (by omega), hl, Nat.sub_self]
  rfl
theorem insS_swap {S : List Rw} {x : Rw} {j : Nat} (h1 : 0 < j) (h2 : j ≤ S.length) (D : List Rw) : ((insS S x j ++ D).set j (S.getD (j - 1) rw0)).set (j - 1) x = insS S x (j - 1) ++ D := by
  obtain ⟨e1, e2, hl⟩ := insS_form (x := x) h1 h2 D
  rw [e1, e2, List.set_append_right _ _ (by omega), hl, show j - (j - 1) = 1 from by omega, List.set_append_right _ _ (by omega), hl, Nat.sub_self]
  rfl
theorem insS_swap' {S : List Rw} {x : Rw} {j : Nat} (h1 : 0 < j) (h2 : j ≤ S.length) (D : List Rw) : ((insS S x j ++ D).set (j - 1) x).set j (S.getD (j - 1) rw0) = insS S x (j - 1) ++ D := by
  obtain ⟨e1, e2, hl⟩ := insS_form (x := x) h1 h2 D
  rw [e1, e2, List.set_append_right _ _ (by omega), hl, Nat.sub_self, List.set_append_right _ _ (by omega), hl, show j - (j - 1) = 1 from by omega]
  rfl
theorem insS_mem {S : List Rw} {x : Rw} {j : Nat} (r : Rw) : r ∈ insS S x j ↔ r = x ∨ r ∈ S := by
  unfold insS
  conv => rhs; rw [← List.take_append_drop j S]
  simp only [List.mem_append, List.mem_cons]
  constructor
  · rintro (h | h | h)
    · exact .inr (.inl h)
    · exact .inl h
    · exact .inr (.inr h)
  · rintro (h | h | h)
    · exact .inr (.inl h)
    · exact .inl h
    · exact .inr (.inr h)
/-- the place is found: ahead are smaller ones, behind greater ones -/
theorem ins_stop {S : List Rw} {x : Rw} {j : Nat} (hS : Inc S) (hx : ∀ y ∈ S, ¬ y.x0 = x.x0) (hj : j ≤ S.length) (h1 : 0 < j → ¬ x.x0 < (S.getD (j - 1) rw0).x0) (h2 : ∀ y ∈ S.drop j, x.x0 < y.x0) : Inc (insS S x j) := by
  have ha : ∀ y ∈ S.take j, y.x0 < x.x0 := fun y hy => by
    obtain ⟨k, hk, he⟩ := List.mem_take_iff_getElem.1 hy
    have h3 := h1 (by omega)
    have hjl : j - 1 < S.length := by omega
    rw [getD_at hjl] at h3
    have hne := hx S[j - 1] (List.getElem_mem hjl)
    have hle : S[k].x0 ≤ S[j - 1].x0 := by
      by_cases hkj : k = j - 1
      · subst hkj; exact Int.le_refl _
      · have := (List.pairwise_iff_getElem.1 hS) k (j - 1) (by omega) hjl (by omega)
        omega
    rw [← he]
    omega
  refine List.pairwise_append.2 ⟨hS.sublist (List.take_sublist _ _), List.pairwise_cons.2 ⟨fun y hy => h2 y hy, hS.sublist (List.drop_sublist _ _)⟩, fun a h3 b h4 => ?_⟩
  have := ha a h3
  rcases List.mem_cons.1 h4 with rfl | h4
  · exact this
  · have := h2 b h4; omega
theorem ins_next {S : List Rw} {x : Rw} {j : Nat} (h0 : 0 < j) (hj : j ≤ S.length) (h1 : x.x0 < (S.getD (j - 1) rw0).x0) (h2 : ∀ y ∈ S.drop j, x.x0 < y.x0) : ∀ y ∈ S.drop (j - 1), x.x0 < y.x0 := by
  have e2 : S.drop (j - 1) = S.getD (j - 1) rw0 :: S.drop j := by
    rw [List.drop_eq_getElem_cons (show j - 1 < S.length by omega), show j - 1 + 1 = j from by omega, getD_at (by omega)]
  intro y hy
  rw [e2] at hy
  rcases List.mem_cons.1 hy with h | h
  · rw [h]; exact h1
  · exact h2 y h
theorem ins_first {S D : List Rw} {x : Rw} {i : Nat} (h : S.length = i) : insS S x i ++ D = S ++ x :: D := by
  unfold insS
  rw [List.take_of_length_le (by omega), List.drop_of_length_le (by omega)]
  simp
/-- rows sorted so far, and the rest -/
structure Half (C S D : List Rw) (i : Nat) : Prop where
  len : S.length = i
  tot : S.length + D.length = C.length
  inc : Inc S
  apart : ∀ x ∈ D, ∀ y ∈ S, ¬ y.x0 = x.x0
  dis : D.Pairwise (fun p q => ¬ p.x0 = q.x0)
  mem : ∀ r, r ∈ C ↔ r ∈ S ∨ r ∈ D
theorem Half.step {C S D : List Rw} {x : Rw} {i j : Nat} (h : Half C S (x :: D) i) (hj : j ≤ i) (hi : Inc (insS S x j)) : Half C (insS S x j) D (i + 1) := by
  have hl := insS_len (S := S) (x := x) (j := j) (by rw [h.len]; exact hj)
  obtain ⟨d1, d2⟩ := List.pairwise_cons.1 h.dis
  refine ⟨by rw [hl, h.len], by have := h.tot; simp only [List.length_cons] at this; omega, hi, fun y hy z hz => ?_, d2, fun r => ?_⟩
  · rcases (insS_mem z).1 hz with e | e
    · rw [e]; exact d1 y hy
    · exact h.apart y (List.mem_cons_of_mem _ hy) z e
  · rw [h.mem r, insS_mem, List.mem_cons]
    constructor
    · rintro (h | h | h)
      · exact .inl (.inr h)
      · exact .inl (.inl h)
      · exact .inr h
    · rintro ((h | h) | h)
      · exact .inr (.inl h)
      · exact .inl h
      · exact .inr (.inr h)
theorem half0 {C : List Rw} (hd : C.Pairwise (fun p q => ¬ p.x0 = q.x0)) : Half C [] C 0 := ⟨rfl, by simp, List.Pairwise.nil, fun x _ y hy => by simp at hy, hd, fun r => by simp⟩
end Go.Proofs.Ytpgngfdhnoonjaa.Tb
