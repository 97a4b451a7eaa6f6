/- Peers that are owned are marked. -/
import Derived.Test.YtejajlloipkkhaaV3
namespace Go.Proofs.Ytejajlloipkkhaa
open Go.RowKit
set_option linter.unusedVariables false

/-- nothing but blocks from B to T has turned -/
structure Within (B T : Nat) (w w' : World) : Prop where
  os : w'.os = w.os
  tape : w'.tape = w.tape
  output : w'.output = w.output
  size : w'.heap.size = w.heap.size
  block : ∀ k, ¬ (B ≤ k ∧ k < T) → w'.heap[k]? = w.heap[k]?
theorem Within.refl (B T : Nat) (w : World) : Within B T w w := ⟨rfl, rfl, rfl, rfl, fun _ _ => rfl⟩
theorem Within.put {B T g : Nat} {w w' : World} (h : Within B T w w') (h1 : B ≤ g) (h2 : g < T) (i : Nat) (v : Value) : Within B T w (w'.setCell ⟨g, i, none⟩ v) :=
  ⟨h.os, h.tape, h.output, by simpa [World.setCell] using h.size, fun k hk => (heap_setCell_other _ _ _ _ (by simp; omega)).trans (h.block k hk)⟩
theorem Within.only {B T g : Nat} {w w1 w2 : World} (h : Within B T w w1) (ho : Only g w1 w2) (h1 : B ≤ g) (h2 : g < T) : Within B T w w2 :=
  ⟨ho.os.trans h.os, ho.tape.trans h.tape, ho.output.trans h.output, ho.size.trans h.size, fun k hk => (ho.block k (by omega)).trans (h.block k hk)⟩
theorem Within.below {B T n : Nat} {w0 w w' : World} (h : Within B T w w') (hb : Below n w0 w) (hn : n ≤ B) : Below n w0 w' :=
  hb.trans ⟨h.os, h.tape, h.output, by rw [h.size]; exact Nat.le_refl _, fun k hk => h.block k (by omega)⟩
theorem getD_set {L : List (Pr × Value)} {i j : Nat} {e : Pr × Value} (hj : j < L.length) : (L.set i e).getD j d0 = if i = j then e else L.getD j d0 := by
  rw [List.getD_eq_getElem?_getD, List.getElem?_set]
  by_cases hij : i = j
  · subst hij; simp [hj]
  · rw [if_neg hij, if_neg hij, List.getD_eq_getElem?_getD]
theorem OwnS.ne_peer {B : Nat} {w : World} {gb g : Nat} {l : List Int} {cur : Array Value} (h : OwnS B w gb l) (hc : w.heap[g]? = some (.cells cur 101 (0, 0))) : ¬ gb = g := by
  intro he
  obtain ⟨cj, hcj, _⟩ := h.row
  rw [he, hc] at hcj
  simp at hcj
/-- the three numbers of a peer are written -/
theorem OwnP.head {B T : Nat} {w : World} {g : Nat} {L : List (Pr × Value)} (h : OwnP B T w g L) {i : Nat} (hi : i < L.length) (x y z : Int) :
    OwnP B T (((w.setCell ⟨g, i * 4, none⟩ (.int .i64 x)).setCell ⟨g, i * 4 + 1, none⟩ (.int .i64 y)).setCell ⟨g, i * 4 + 2, none⟩ (.int .i64 z)) g (L.set i (⟨x, y, z, (L.getD i d0).1.backs⟩, (L.getD i d0).2)) := by
  obtain ⟨cur, hc⟩ := h.blk
  have hb4 : ∀ k, ¬ k = g → (((w.setCell ⟨g, i * 4, none⟩ (.int .i64 x)).setCell ⟨g, i * 4 + 1, none⟩ (.int .i64 y)).setCell ⟨g, i * 4 + 2, none⟩ (.int .i64 z)).heap[k]? = w.heap[k]? := fun k hk => by
    rw [heap_setCell_other _ _ _ _ (by simpa using hk), heap_setCell_other _ _ _ _ (by simpa using hk), heap_setCell_other _ _ _ _ (by simpa using hk)]
  have hcell : ∀ j u, w.cell? ⟨g, j, none⟩ = some u → (((w.setCell ⟨g, i * 4, none⟩ (.int .i64 x)).setCell ⟨g, i * 4 + 1, none⟩ (.int .i64 y)).setCell ⟨g, i * 4 + 2, none⟩ (.int .i64 z)).cell? ⟨g, j, none⟩ = some (if j = i * 4 + 2 then .int .i64 z else if j = i * 4 + 1 then .int .i64 y else if j = i * 4 then .int .i64 x else u) := fun j u hu =>
    cell_set (j := i * 4 + 2) (cell_set (j := i * 4 + 1) (cell_set (j := i * 4) hu))
  refine ⟨h.lo, h.hi, ⟨_, heap_setCell_same _ _ _ _ _ _ (heap_setCell_same _ _ _ _ _ _ (heap_setCell_same _ _ _ _ _ _ hc))⟩, fun j hj => ?_, fun j hj => ?_, fun j k hjk hk => ?_⟩
  · rw [List.length_set] at hj
    rw [getD_set hj]
    have hcj := h.cel j hj
    have k0 := hcell _ _ hcj.c0
    have k1 := hcell _ _ hcj.c1
    have k2 := hcell _ _ hcj.c2
    have k3 := hcell _ _ hcj.c3
    by_cases hij : i = j
    · subst hij
      rw [if_pos rfl]
      rw [if_neg (by omega), if_neg (by omega), if_pos rfl] at k0
      rw [if_neg (by omega), if_pos rfl] at k1
      rw [if_pos rfl] at k2
      rw [if_neg (by omega), if_neg (by omega), if_neg (by omega)] at k3
      exact ⟨k0, k1, k2, k3⟩
    · rw [if_neg hij]
      rw [if_neg (by omega), if_neg (by omega), if_neg (by omega)] at k0 k1 k2 k3
      exact ⟨k0, k1, k2, k3⟩
  · rw [List.length_set] at hj
    rw [getD_set hj]
    have old : ∀ q, q < L.length → ValOk B T (((w.setCell ⟨g, i * 4, none⟩ (.int .i64 x)).setCell ⟨g, i * 4 + 1, none⟩ (.int .i64 y)).setCell ⟨g, i * 4 + 2, none⟩ (.int .i64 z)) (L.getD q d0) := fun q hq => by
      obtain ⟨ab, cb, hv, hcb, hm, ho⟩ := h.val q hq
      refine ⟨ab, cb, hv, hcb, hm, ?_⟩
      rcases ho with ho | ⟨gb, ha, ht, os⟩
      · exact .inl ho
      · exact .inr ⟨gb, ha, ht, os.of_block (hb4 gb (os.ne_peer hc))⟩
    by_cases hij : i = j
    · rw [if_pos hij]; exact old i hi
    · rw [if_neg hij]; exact old j hj
  · rw [List.length_set] at hk
    rw [getD_set (by omega), getD_set hk]
    by_cases hij : i = j
    · rw [if_pos hij, if_neg (by omega)]
      subst hij
      exact h.sep i k hjk hk
    · rw [if_neg hij]
      by_cases hik : i = k
      · rw [if_pos hik]
        subst hik
        exact h.sep j i hjk hk
      · rw [if_neg hik]
        exact h.sep j k hjk hk
/-- the backs of one peer have turned in their own block -/
theorem OwnP.tail {B T : Nat} {w w1 : World} {g gb : Nat} {L : List (Pr × Value)} (h : OwnP B T w g L) {i : Nat} (hi : i < L.length) {l : List Int} (hl : l.length = (L.getD i d0).1.backs.length) (hn : ¬ (L.getD i d0).1.backs = [])
    (hv : (L.getD i d0).2.ownBlock = some gb) (os : OwnS B w1 gb l) (ho : Only gb w w1) : OwnP B T w1 g (L.set i (⟨(L.getD i d0).1.id, (L.getD i d0).1.succ, (L.getD i d0).1.point, l⟩, (L.getD i d0).2)) := by
  obtain ⟨cur, hc⟩ := h.blk
  have hne : ¬ g = gb := by
    obtain ⟨ab, cb, hvi, _, _, hoi⟩ := h.val i hi
    rcases hoi with hoi | ⟨gi, ha, _, osi⟩
    · exact absurd hoi hn
    · rw [hvi, ha] at hv
      simp [Value.ownBlock] at hv
      subst hv
      exact fun e => osi.ne_peer hc e.symm
  have hg : w1.heap[g]? = w.heap[g]? := ho.block g hne
  have hln : ¬ l = [] := fun e => hn (by rw [e] at hl; exact List.length_eq_zero_iff.1 hl.symm)
  refine ⟨h.lo, h.hi, ⟨cur, hg.trans hc⟩, fun j hj => ?_, fun j hj => ?_, fun j k hjk hk => ?_⟩
  · rw [List.length_set] at hj
    rw [getD_set hj]
    have hcj := (h.cel j hj).of_block hg
    by_cases hij : i = j
    · subst hij; rw [if_pos rfl]; exact ⟨hcj.c0, hcj.c1, hcj.c2, hcj.c3⟩
    · rw [if_neg hij]; exact hcj
  · rw [List.length_set] at hj
    rw [getD_set hj]
    by_cases hij : i = j
    · subst hij
      rw [if_pos rfl]
      obtain ⟨ab, cb, hvi, hcb, hm, hoi⟩ := h.val i hi
      rcases hoi with hoi | ⟨gi, ha, ht, osi⟩
      · exact absurd hoi hn
      · have e : gi = gb := by rw [hvi, ha] at hv; simpa [Value.ownBlock] using hv
        subst e
        exact ⟨ab, cb, by rw [hvi, hl], by rw [hl]; exact hcb, by rw [hl]; exact hm, .inr ⟨gi, ha, ht, os⟩⟩
    · rw [if_neg hij]
      obtain ⟨ab, cb, hvj, hcb, hm, hoj⟩ := h.val j hj
      refine ⟨ab, cb, hvj, hcb, hm, ?_⟩
      by_cases hbn : (L.getD j d0).1.backs = []
      · exact .inl hbn
      · rcases hoj with hoj | ⟨gj, ha, ht, osj⟩
        · exact .inl hoj
        · refine .inr ⟨gj, ha, ht, osj.of_block (ho.block gj ?_)⟩
          intro e
          have hvj2 : (L.getD j d0).2.ownBlock = some gb := by rw [hvj, ha, e]; rfl
          by_cases hlt : i < j
          · exact h.sep i j hlt hj hn hbn (hv.trans hvj2.symm)
          · exact h.sep j i (by omega) hi hbn hn (hvj2.trans hv.symm)
  · rw [List.length_set] at hk
    rw [getD_set (by omega), getD_set hk]
    by_cases hij : i = j
    · rw [if_pos hij, if_neg (by omega)]
      subst hij
      exact fun _ h2 => h.sep i k hjk hk hn h2
    · rw [if_neg hij]
      by_cases hik : i = k
      · rw [if_pos hik]
        subst hik
        exact fun h1 _ => h.sep j i hjk hk h1 hn
      · rw [if_neg hik]
        exact h.sep j k hjk hk
end Go.Proofs.Ytejajlloipkkhaa
