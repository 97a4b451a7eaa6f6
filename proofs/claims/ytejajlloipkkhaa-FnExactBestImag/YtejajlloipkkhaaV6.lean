/- A law's argument of peers, opened. -/
import Derived.Test.YtejajlloipkkhaaV5
import Derived.Test.YtejajlloipkkhaaK1
import Derived.Deep.Slices
namespace Go.Proofs.Ytejajlloipkkhaa
open Go.RowKit Go.ChangeShapes Go.WideShapes Go.Deep
set_option linter.unusedVariables false
section
variable {H : Type} {enc : TypeId × Value → H} {W : World} {base : Nat} {held : Bool}
theorem ints_row {fuel : Nat} {a : Option Addr} {n cap : Nat} {x : DataW H × List MemPlace} (h : DataW.trod enc Try.prog W base (fun _ => true) held fuel 33 [.slice a n cap] = some x) :
    ∃ ys : List Int, ys.length = n ∧ n ≤ maxLen ∧ (n ≤ cap ∧ (a = none → cap = 0)) ∧ RowAt W a ys := by
  rcases open_ints Try.underlying33 Try.underlying3 (by kernel_rfl) h with ⟨hcs, _⟩ | ⟨x, l, c, zs, hcs, _, hl, hm, hz, _, hcell, hwz⟩
  · simp at hcs
    obtain ⟨rfl, rfl, rfl⟩ := hcs
    exact ⟨[], rfl, Nat.zero_le _, ⟨Nat.zero_le _, fun _ => rfl⟩, .inl rfl⟩
  · simp at hcs
    obtain ⟨rfl, rfl, rfl⟩ := hcs
    obtain ⟨ys, h1, h2, h3⟩ := isRow_rowAt (w := W) (a := some x) (len := n) (cap := cap) (zs := zs) (.inr ⟨_, rfl, hl, hm, by simpa using hz, hcell, hwz⟩)
    exact ⟨ys, h1, h2, ⟨hl, fun h => by cases h⟩, h3⟩
theorem slice_of_trod {t e : TypeId} {fuel : Nat} {v : Value} {x : DataW H × List MemPlace} (ht : Try.prog.underlying t = some (.slice e)) (h : DataW.trod enc Try.prog W base (fun _ => true) held fuel t [v] = some x) : ∃ a n cap, v = .slice a n cap := by
  rcases open_slice ht h with ⟨hcs, _⟩ | ⟨a, l, c, _, _, _, _, hcs, _⟩
  · simp at hcs; exact ⟨_, _, _, hcs⟩
  · simp at hcs; exact ⟨_, _, _, hcs⟩
theorem cells4 {cs : List Value} (h : cs.length = 4) : ∃ c0 c1 c2 c3, cs = [c0, c1, c2, c3] := by
  match cs, h with
  | [c0, c1, c2, c3], _ => exact ⟨c0, c1, c2, c3, rfl⟩
theorem cellsP : Try.prog.cellsOf 141 = 4 := by kernel_rfl
theorem cellsPs : Try.prog.cellsOf 65 = 3 := by kernel_rfl
theorem cellsI : Try.prog.cellsOf 3 = 1 := by kernel_rfl
theorem cellsIs : Try.prog.cellsOf 33 = 1 := by kernel_rfl
theorem cellsPl : Try.prog.cellsOf 63 = 1 := by kernel_rfl
theorem peer_of_trod {fuel : Nat} {cs : List Value} {x : DataW H × List MemPlace} (h : DataW.trod enc Try.prog W base (fun _ => true) held fuel 141 cs = some x) :
    ∃ (p : Pr) (ab : Option Addr) (cb : Nat), cs = [.int .i64 p.id, .int .i64 p.succ, .int .i64 p.point, .slice ab p.backs.length cb] ∧ RowAt W ab p.backs ∧ p.backs.length ≤ maxLen ∧ p.backs.length ≤ cb ∧ (ab = none → cb = 0) := by
  obtain ⟨y0, y1, y2, y3, n, _, hl, h0, h1, h2, h3⟩ := Joins.trod_struct4 Try.underlying141 h
  obtain ⟨c0, c1, c2, c3, rfl⟩ := cells4 (hl.trans cellsP)
  simp [cellsI] at h0 h1 h2
  simp [cellsIs] at h3
  obtain ⟨a0, e0, _, _⟩ := DataW.trod_int Try.underlying3 h0
  obtain ⟨a1, e1, _, _⟩ := DataW.trod_int Try.underlying3 h1
  obtain ⟨a2, e2, _, _⟩ := DataW.trod_int Try.underlying3 h2
  simp at e0 e1 e2
  subst e0 e1 e2
  obtain ⟨ab, nb, cb, rfl⟩ := slice_of_trod Try.underlying33 h3
  obtain ⟨ys, rfl, hm, hc, hr⟩ := ints_row h3
  exact ⟨⟨a0, a1, a2, ys⟩, ab, cb, rfl, hr, hm, hc⟩
theorem peersl_of_trod {fuel : Nat} {a : Option Addr} {n cap : Nat} {x : DataW H × List MemPlace} (h : DataW.trod enc Try.prog W base (fun _ => true) held fuel 63 [.slice a n cap] = some x) :
    ∃ ps : List Pr, ps.length = n ∧ n ≤ maxLen ∧ n ≤ cap ∧ PeersAt W a ps := by
  rcases open_slice Try.underlying63 h with ⟨hcs, _⟩ | ⟨⟨b, off, spot⟩, l, c, m, k, D, Pl, hcs, _, hl, hm, hmm, _, hx⟩
  · simp at hcs
    obtain ⟨rfl, rfl, rfl⟩ := hcs
    exact ⟨[], rfl, Nat.zero_le _, Nat.zero_le _, .inl rfl⟩
  · simp at hcs
    obtain ⟨rfl, rfl, rfl⟩ := hcs
    simp at hmm
    subst hmm
    by_cases h0 : n = 0
    · subst h0; exact ⟨[], rfl, Nat.zero_le _, Nat.zero_le _, .inl rfl⟩
    rw [cellsP] at hx
    have hs : spot = none := by
      obtain ⟨cs, h1, h2⟩ := hx 0 (by omega)
      obtain ⟨p, ab, cb, rfl, hr, hm', hc'⟩ := peer_of_trod h2
      obtain ⟨_, _, hce⟩ := World.cells?_some h1
      have g0 := hce 0 (by omega)
      simp at g0
      simpa [Addr.add] using World.cell?_spot g0
    subst hs
    have key : ∀ i, i < n → ∃ p : Pr, b < W.heap.size ∧ PeerAt W b (off + i * 4) p := by
      intro i hi
      obtain ⟨cs, h1, h2⟩ := hx i (by omega)
      obtain ⟨p, ab, cb, rfl, hr, hm', hc'⟩ := peer_of_trod h2
      obtain ⟨_, _, hce⟩ := World.cells?_some h1
      have g0 := hce 0 (by omega)
      have g1 := hce 1 (by omega)
      have g2 := hce 2 (by omega)
      have g3 := hce 3 (by omega)
      rw [add_add] at g0 g1 g2 g3
      simp at g0 g1 g2 g3
      rw [add_none'] at g0 g1 g2 g3
      exact ⟨p, by simpa using block_lt_of_cell g0, g0, by simpa [Nat.add_assoc] using g1, by simpa [Nat.add_assoc] using g2, ab, cb, by simpa [Nat.add_assoc] using g3, hr, hm', hc'⟩
    obtain ⟨f, hf⟩ := @choose_lt Pr ⟨pr0⟩ _ _ key
    obtain ⟨hb, _⟩ := hf 0 (by omega)
    refine ⟨(List.range n).map f, by simp, by omega, hl, .inr ⟨b, off, rfl, hb, fun i hi => ?_⟩⟩
    have hi' : i < n := by simpa using hi
    have := (hf i hi').2
    simpa [List.getD_eq_getElem?_getD, hi'] using this
set_option maxRecDepth 100000 in
theorem open_peers {v : Value} {r : Reach} {b0 : Nat} {d : DataW H} {p : List MemPlace} (hv : Value.okWide Try.prog W r b0 65 v) (h : DataW.Trod enc Try.prog W base (fun _ => true) held 65 v d p) :
    ∃ (b g : Int) (a : Option Addr) (cap : Nat) (ps : List Pr), v = .agg #[.int .i64 b, .int .i64 g, .slice a ps.length cap] ∧ ps.length ≤ maxLen ∧ ps.length ≤ cap ∧ PeersAt W a ps := by
  obtain ⟨cs, rfl, hsz⟩ := okWide_struct Try.underlying65 hv
  obtain ⟨c0, c1, c2, rfl⟩ := Joins.array3 (hsz.trans cellsPs)
  obtain ⟨fuel, hf⟩ := h
  obtain ⟨y0, y1, n, _, _, h0, h1⟩ := trod_struct2 Try.underlying65 hf
  simp [Value.cells, cellsS] at h0
  simp [Value.cells, cellsPl] at h1
  obtain ⟨z0, z1, m, _, _, i0, i1⟩ := trod_struct2 Try.underlying62 h0
  simp [cellsI] at i0 i1
  obtain ⟨b, e0, _, _⟩ := DataW.trod_int Try.underlying3 i0
  obtain ⟨g, e1, _, _⟩ := DataW.trod_int Try.underlying3 i1
  simp at e0 e1
  subst e0 e1
  obtain ⟨a, n, cap, rfl⟩ := slice_of_trod Try.underlying63 h1
  obtain ⟨ps, rfl, hm, hc, hr⟩ := peersl_of_trod h1
  exact ⟨b, g, a, cap, ps, rfl, hm, hc, hr⟩
end
end Go.Proofs.Ytejajlloipkkhaa
