/- Peers of one's own: a pointer is set; backs are set. -/
import Derived.Test.YtgmdbihdnacpjaaW7
namespace Go.Proofs.Ytgmdbihdnacpjaa
open Go.RowKit
set_option linter.unusedVariables false
theorem OwnP.point {B T : Nat} {w : World} {g : Nat} {L : List (Pr × Value)} (h : OwnP B T w g L) {i : Nat} (hi : i < L.length) (z : Int) :
    OwnP B T (w.setCell ⟨g, i * 4 + 2, none⟩ (.int .i64 z)) g (L.set i (⟨(L.getD i d0).1.id, (L.getD i d0).1.succ, z, (L.getD i d0).1.backs⟩, (L.getD i d0).2)) := by
  obtain ⟨cur, hc⟩ := h.blk
  have hb4 : ∀ k, ¬ k = g → (w.setCell ⟨g, i * 4 + 2, none⟩ (.int .i64 z)).heap[k]? = w.heap[k]? := fun k hk => heap_setCell_other _ _ _ _ (by simpa using hk)
  have hcell : ∀ j u, w.cell? ⟨g, j, none⟩ = some u → (w.setCell ⟨g, i * 4 + 2, none⟩ (.int .i64 z)).cell? ⟨g, j, none⟩ = some (if j = i * 4 + 2 then .int .i64 z else u) := fun j u hu => cell_set hu
  refine ⟨h.lo, h.hi, ⟨_, heap_setCell_same _ _ _ _ _ _ hc⟩, fun j hj => ?_, fun j hj => ?_, fun j k hjk hk => ?_⟩
  · rw [List.length_set] at hj
    rw [getD_set hj]
    have hcj := h.cel j hj
    have k0 := hcell _ _ hcj.c0
    have k1 := hcell _ _ hcj.c1
    have k2 := hcell _ _ hcj.c2
    have k3 := hcell _ _ hcj.c3
    rw [if_neg (by omega)] at k0 k1 k3
    by_cases hij : i = j
    · subst hij
      rw [if_pos rfl] at k2 ⊢
      exact ⟨k0, k1, k2, k3⟩
    · rw [if_neg (by omega)] at k2
      rw [if_neg hij]
      exact ⟨k0, k1, k2, k3⟩
  · rw [List.length_set] at hj
    rw [getD_set hj]
    have old : ∀ q, q < L.length → ValOk B T (w.setCell ⟨g, i * 4 + 2, none⟩ (.int .i64 z)) (L.getD q d0) := fun q hq => by
      obtain ⟨ab, cb, hv, hcb, hm, ho⟩ := h.val q hq
      refine ⟨ab, cb, hv, hcb, hm, ?_⟩
      rcases ho with ho | ⟨gb, ha, ht, os⟩
      · exact .inl ho
      · exact .inr ⟨gb, ha, ht, os.of_block (hb4 gb (os.ne_peer hc))⟩
    by_cases hij : i = j
    · rw [if_pos hij]; exact old i hi
    · rw [if_neg hij]; exact old j hj
  · rw [List.length_set] at hk
    rw [getD_set (by omega), getD_set hk]
    by_cases hij : i = j
    · rw [if_pos hij, if_neg (by omega)]
      subst hij
      exact h.sep i k hjk hk
    · rw [if_neg hij]
      by_cases hik : i = k
      · rw [if_pos hik]
        subst hik
        exact h.sep j i hjk hk
      · rw [if_neg hik]
        exact h.sep j k hjk hk
theorem OwnP.backs {B T : Nat} {w w1 : World} {g : Nat} {L : List (Pr × Value)} (h : OwnP B T w g L) (hT : T = w.heap.size) (hb : Below w.heap.size w w1) {i : Nat} (hi : i < L.length) {bs : List Int} {gb cb : Nat} (hm : bs.length ≤ 1048576) (hcb : bs.length ≤ cb) (os : OwnS w.heap.size w1 gb bs) :
    OwnP B w1.heap.size (w1.setCell ⟨g, i * 4 + 3, none⟩ (.slice (some ⟨gb, 0, none⟩) bs.length cb)) g (L.set i (⟨(L.getD i d0).1.id, (L.getD i d0).1.succ, (L.getD i d0).1.point, bs⟩, .slice (some ⟨gb, 0, none⟩) bs.length cb)) := by
  have hlt := h.lt
  have hslo := os.lo
  have h1 := (h.keep hb).wide (T' := w1.heap.size) (by have := hb.size; omega)
  obtain ⟨cur, hc⟩ := h1.blk
  have hBw : B ≤ w.heap.size := by have := h.lo; omega
  have hb4 : ∀ k, ¬ k = g → (w1.setCell ⟨g, i * 4 + 3, none⟩ (.slice (some ⟨gb, 0, none⟩) bs.length cb)).heap[k]? = w1.heap[k]? := fun k hk => heap_setCell_other _ _ _ _ (by simpa using hk)
  have hcell : ∀ j u, w1.cell? ⟨g, j, none⟩ = some u → (w1.setCell ⟨g, i * 4 + 3, none⟩ (.slice (some ⟨gb, 0, none⟩) bs.length cb)).cell? ⟨g, j, none⟩ = some (if j = i * 4 + 3 then .slice (some ⟨gb, 0, none⟩) bs.length cb else u) := fun j u hu => cell_set hu
  refine ⟨h.lo, h1.hi, ⟨_, heap_setCell_same _ _ _ _ _ _ hc⟩, fun j hj => ?_, fun j hj => ?_, fun j k hjk hk => ?_⟩
  · rw [List.length_set] at hj
    rw [getD_set hj]
    have hcj := h1.cel j hj
    have k0 := hcell _ _ hcj.c0
    have k1 := hcell _ _ hcj.c1
    have k2 := hcell _ _ hcj.c2
    have k3 := hcell _ _ hcj.c3
    rw [if_neg (by omega)] at k0 k1 k2
    by_cases hij : i = j
    · subst hij
      rw [if_pos rfl] at k3 ⊢
      exact ⟨k0, k1, k2, k3⟩
    · rw [if_neg (by omega)] at k3
      rw [if_neg hij]
      exact ⟨k0, k1, k2, k3⟩
  · rw [List.length_set] at hj
    rw [getD_set hj]
    by_cases hij : i = j
    · rw [if_pos hij]
      exact ⟨_, cb, rfl, ⟨hcb, fun h => by cases h⟩, hm, .inr ⟨gb, rfl, os.lt, (os.mono hBw).of_block (hb4 gb (by omega))⟩⟩
    · rw [if_neg hij]
      obtain ⟨ab, cb', hv, hc', hm', ho⟩ := h1.val j hj
      refine ⟨ab, cb', hv, hc', hm', ?_⟩
      rcases ho with ho | ⟨gj, ha, ht, osj⟩
      · exact .inl ho
      · exact .inr ⟨gj, ha, ht, osj.of_block (hb4 gj (osj.ne_peer hc))⟩
  · rw [List.length_set] at hk
    rw [getD_set (by omega), getD_set hk]
    have old : ∀ q, q < L.length → ¬ (L.getD q d0).1.backs = [] → ¬ (L.getD q d0).2.ownBlock = some gb := fun q hq hn he => by
      obtain ⟨ab, cb', hv, _, _, ho⟩ := h.val q hq
      rcases ho with ho | ⟨gq, ha, ht, _⟩
      · exact hn ho
      · rw [hv, ha] at he
        simp [Value.ownBlock] at he
        omega
    by_cases hij : i = j
    · rw [if_pos hij, if_neg (by omega)]
      intro _ hn he
      exact old k hk hn (by rw [← he]; rfl)
    · rw [if_neg hij]
      by_cases hik : i = k
      · rw [if_pos hik]
        intro hn _ he
        exact old j (by omega) hn (by rw [he]; rfl)
      · rw [if_neg hik]
        exact h.sep j k hjk hk
end Go.Proofs.Ytgmdbihdnacpjaa
