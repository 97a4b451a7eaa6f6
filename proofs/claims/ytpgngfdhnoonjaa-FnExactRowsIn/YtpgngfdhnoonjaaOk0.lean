/- A law's argument that is a table, opened. -/
import Derived.Test.YtpgngfdhnoonjaaTr1
import Derived.Deep.Slices
import Derived.Deep.SlicePairs
namespace Go.Proofs.Ytpgngfdhnoonjaa.Tb
open Go.RowKit Go.ChangeShapes Go.WideShapes Go.Deep Wire
set_option linter.unusedVariables false
set_option linter.unusedSimpArgs false
theorem cellsI : Try.prog.cellsOf 3 = 1 := by kernel_rfl
theorem cellsBo : Try.prog.cellsOf 4 = 1 := by kernel_rfl
theorem cellsRw : Try.prog.cellsOf 86 = 4 := by kernel_rfl
theorem choose_below {α : Type} {p : Nat → α → Prop} (d : α) : ∀ {n : Nat}, (∀ i, i < n → ∃ x, p i x) → ∃ f : Nat → α, ∀ i, i < n → p i (f i)
  | 0, _ => ⟨fun _ => d, fun i hi => absurd hi (by omega)⟩
  | n + 1, h => by
    obtain ⟨f, hf⟩ := choose_below d (n := n) (fun i hi => h i (by omega))
    obtain ⟨x, hx⟩ := h n (by omega)
    refine ⟨fun i => if i = n then x else f i, fun i hi => ?_⟩
    by_cases e : i = n
    · subst e; simpa using hx
    · simpa [e] using hf i (by omega)
section
variable {H : Type} {enc : TypeId × Value → H} {W : World} {base : Nat} {held : Bool}
theorem ls_of_trod (e : TyI) {ts te : TypeId} (hts : Try.prog.underlying ts = some (.slice te)) (hw : Try.prog.cellsOf te = e.wide) (hpos : 0 < e.wide)
    (hel : ∀ (fuel : Nat) (cs : List Value) (x : DataW H × List MemPlace), DataW.trod enc Try.prog W base (fun _ => true) held fuel te cs = some x → ∃ m, e.rep W cs m)
    {fuel : Nat} {a : Option Addr} {n cap : Nat} {x : DataW H × List MemPlace} (h : DataW.trod enc Try.prog W base (fun _ => true) held fuel ts [.slice a n cap] = some x) :
    ∃ ms : List e.den, ms.length = n ∧ n ≤ maxLen ∧ n ≤ cap ∧ LsAt e W a ms := by
  rcases open_slice hts h with ⟨hcs, _⟩ | ⟨⟨b, off, spot⟩, l, c, m, k, D, Pl, hcs, _, hl, hm, hmm, _, hx⟩
  · simp at hcs
    obtain ⟨rfl, rfl, rfl⟩ := hcs
    exact ⟨[], rfl, Nat.zero_le _, Nat.zero_le _, .inl rfl⟩
  · simp at hcs
    obtain ⟨rfl, rfl, rfl⟩ := hcs
    simp at hmm
    subst hmm
    by_cases h0 : n = 0
    · subst h0; exact ⟨[], rfl, Nat.zero_le _, Nat.zero_le _, .inl rfl⟩
    rw [hw] at hx
    have hs : spot = none := by
      obtain ⟨cs, h1, h2⟩ := hx 0 (by omega)
      obtain ⟨p, hp⟩ := hel _ _ _ h2
      have hlen := e.rep_len hp
      obtain ⟨_, _, hce⟩ := World.cells?_some h1
      have g0 := hce 0 hpos
      rw [List.getElem?_eq_getElem (by omega)] at g0
      simpa [Addr.add] using World.cell?_spot g0
    subst hs
    have key : ∀ i, i < n → ∃ p : e.den, b < W.heap.size ∧ ∃ ci, CellsAt W b (off + i * e.wide) ci ∧ e.rep W ci p := by
      intro i hi
      obtain ⟨cs, h1, h2⟩ := hx i (by omega)
      obtain ⟨p, hp⟩ := hel _ _ _ h2
      have hlen := e.rep_len hp
      obtain ⟨_, _, hce⟩ := World.cells?_some h1
      have at_ : ∀ j, j < e.wide → W.cell? ⟨b, off + i * e.wide + j, none⟩ = cs[j]? := fun j hj => by
        have g := hce j hj
        rw [add_add] at g
        rw [add_none'] at g
        rw [Nat.add_assoc]
        exact g
      have g0 := at_ 0 hpos
      rw [List.getElem?_eq_getElem (by omega)] at g0
      refine ⟨p, by simpa using block_lt_of_cell g0, cs, fun j v hj => ?_, hp⟩
      have hjl := (List.getElem?_eq_some_iff.1 hj).1
      exact (at_ j (by omega)).trans hj
    obtain ⟨f, hf⟩ := choose_below e.dflt key
    obtain ⟨hb, _⟩ := hf 0 (by omega)
    refine ⟨(List.range n).map f, by simp, by omega, hl, .inr ⟨b, off, rfl, hb, fun i hi => ?_⟩⟩
    have hi' : i < n := by simpa using hi
    have := (hf i hi').2
    simpa [List.getD_eq_getElem?_getD, hi'] using this
theorem list4 {α : Type} {l : List α} (h : l.length = 4) : ∃ c0 c1 c2 c3, l = [c0, c1, c2, c3] := by
  match l, h with
  | [c0, c1, c2, c3], _ => exact ⟨c0, c1, c2, c3, rfl⟩
theorem row_of_trod {fuel : Nat} {cs : List Value} {x : DataW H × List MemPlace} (h : DataW.trod enc Try.prog W base (fun _ => true) held fuel 86 cs = some x) : ∃ m, tyRw.rep W cs m := by
  obtain ⟨xs, n, _, _, hl, hlen, hf⟩ := DataW.trod_struct Try.underlying86 h
  obtain ⟨c0, c1, c2, c3, rfl⟩ := list4 (hl.trans cellsRw)
  obtain ⟨x0, x1, x2, x3, rfl⟩ := list4 (l := xs) hlen
  have g0 := hf 0 _ rfl
  have g1 := hf 1 _ rfl
  have g2 := hf 2 _ rfl
  have g3 := hf 3 _ rfl
  simp [Value.cells, cellsI, cellsBo] at g0 g1 g2 g3
  obtain ⟨a0, e0, _, _⟩ := DataW.trod_int Try.underlying3 g0
  obtain ⟨a1, e1, _, _⟩ := DataW.trod_int Try.underlying3 g1
  obtain ⟨a2, e2, _, _⟩ := DataW.trod_int Try.underlying3 g2
  obtain ⟨a3, e3, _⟩ := DataW.trod_bool Try.underlying4 g3
  simp at e0 e1 e2 e3
  subst e0 e1 e2 e3
  exact ⟨⟨a0, a1, a2, a3⟩, rfl⟩
theorem open_rows {a : Option Addr} {n cap : Nat} {d : DataW H} {p : List MemPlace} (h : DataW.Trod enc Try.prog W base (fun _ => true) held 48 (.slice a n cap) d p) :
    ∃ ms : List Rw, ms.length = n ∧ n ≤ maxLen ∧ LsAt tyRw W a ms := by
  obtain ⟨fuel, hf⟩ := h
  simp [Value.cells] at hf
  obtain ⟨ms, h1, h2, _, h4⟩ := ls_of_trod tyRw Try.underlying48 cellsRw (by show 0 < 4; omega) (fun _ _ _ h => row_of_trod h) hf
  exact ⟨ms, h1, h2, h4⟩
end
end Go.Proofs.Ytpgngfdhnoonjaa.Tb
namespace Go.Proofs.Ytpgngfdhnoonjaa.Wire
theorem BxV.c4 {w wr : World} {x y z u : Value} {T : TypeId} (h : BxV w wr #[x, y, z, u] T) : wr.cell? ⟨w.heap.size, 0, none⟩ = some x ∧ wr.cell? ⟨w.heap.size, 1, none⟩ = some y ∧ wr.cell? ⟨w.heap.size, 2, none⟩ = some z ∧ wr.cell? ⟨w.heap.size, 3, none⟩ = some u :=
  ⟨(cell_of_row wr _ _ _ _ _ h.row).trans rfl, (cell_of_row wr _ _ _ _ _ h.row).trans rfl, (cell_of_row wr _ _ _ _ _ h.row).trans rfl, (cell_of_row wr _ _ _ _ _ h.row).trans rfl⟩
end Go.Proofs.Ytpgngfdhnoonjaa.Wire
