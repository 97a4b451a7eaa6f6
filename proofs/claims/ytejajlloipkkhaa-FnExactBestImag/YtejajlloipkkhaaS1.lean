/- JoinRing, in the program. -/
import Derived.Test.YtejajlloipkkhaaS0
import Derived.Maps.AppendAt
namespace Go.Proofs.Ytejajlloipkkhaa
open Go.RowKit
set_option linter.unusedVariables false

def joinL (zs : List Int) (x : Int) : List Int := zs.take (blw zs x) ++ x :: zs.drop (blw zs x)
theorem joinL_len (zs : List Int) (x : Int) : (joinL zs x).length = zs.length + 1 := by
  have := blw_le x zs
  simp [joinL]; omega
def okJ (b d : Int) (zs : List Int) (x : Int) : Bool := askB b d zs x && !memI zs x && !decide (zs.length = 16)
theorem info_parts' : ∃ i0, Try.prog.info? 3 = some i0 ∧ i0.zero = some (.int .i64 0) ∧ i0.size = 1 ∧ i0.bytes = 8 := by
  obtain ⟨i0, h1, h2, h3, h4⟩ := info_parts info_int
  exact ⟨i0, h1, h2, h3, h4⟩
/-- the head of a row that came in -/
theorem olds_cells {w : World} {bk off : Nat} {zs : List Int} (h : RowAt w (some ⟨bk, off, none⟩) zs) (p : Nat) :
    ∀ q : Addr, some (⟨bk, off, none⟩ : Addr) = some q → ∀ (j : Nat) (u : Value), ((zs.take p).map (Value.int .i64))[j]? = some u → w.cell? (q.add j) = some u := by
  rintro q hq j u hj
  obtain rfl := Option.some.inj hq
  have hjl := (List.getElem?_eq_some_iff.1 hj).1
  simp only [List.length_map, List.length_take] at hjl
  rcases h with rfl | ⟨b', o', h, hl, hc⟩
  · simp at hjl
  · simp at h
    obtain ⟨rfl, rfl⟩ := h
    rw [Addr.add_lit, hc j (by omega)]
    rw [List.getElem?_map, List.getElem?_take_of_lt (by omega), List.getElem?_eq_getElem (by omega)] at hj
    rw [List.getD_eq_getElem?_getD, List.getElem?_eq_getElem (by omega)]
    simpa using hj
/-- its tail -/
theorem tail_cells {w : World} {bk off : Nat} {zs : List Int} (h : RowAt w (some ⟨bk, off, none⟩) zs) (p : Nat) :
    ∀ (j : Nat) (u : Value), ((zs.drop p).map (Value.int .i64))[j]? = some u → w.cell? ((⟨bk, off + p, none⟩ : Addr).add j) = some u := by
  intro j u hj
  have hjl := (List.getElem?_eq_some_iff.1 hj).1
  simp only [List.length_map, List.length_drop] at hjl
  rcases h with rfl | ⟨b', o', h, hl, hc⟩
  · simp at hjl
  · simp at h
    obtain ⟨rfl, rfl⟩ := h
    rw [Addr.add_lit, Nat.add_assoc, hc (p + j) (by omega)]
    rw [List.getElem?_map, List.getElem?_drop, List.getElem?_eq_getElem (by omega)] at hj
    rw [List.getD_eq_getElem?_getD, List.getElem?_eq_getElem (by omega)]
    simpa using hj
theorem tail_none {w : World} {zs : List Int} {p : Nat} (hp : zs.length ≤ p) (q : Addr) : ∀ (j : Nat) (u : Value), ((zs.drop p).map (Value.int .i64))[j]? = some u → w.cell? (q.add j) = some u := by
  intro j u hj
  rw [List.drop_of_length_le hp] at hj
  simp at hj
theorem tail_if {w : World} {bk off cap p : Nat} {zs : List Int} {A : Addr} (hA : (if cap = p then some (⟨bk, off, none⟩ : Addr) else some ⟨bk, off + p, none⟩) = some A) (h : RowAt w (some ⟨bk, off, none⟩) zs) (hcap : zs.length ≤ cap) (hp : p ≤ zs.length) :
    ∀ (j : Nat) (u : Value), ((zs.drop p).map (Value.int .i64))[j]? = some u → w.cell? (A.add j) = some u := by
  by_cases hpc : cap = p
  · exact tail_none (by omega) _
  · rw [if_neg hpc] at hA
    obtain rfl := Option.some.inj hA
    exact tail_cells h p
theorem grown_alloc {w w4 w5 : World} {o : Obj} (h : Below w.heap.size w w4) (hg : (w4.alloc o).grownBy w5 none) : Below w.heap.size w w5 :=
  (h.alloc h.size o).grown hg (by have := h.size; simp; omega) (fun k hk => by cases hk)
theorem alloc_size {w w4 : World} {o : Obj} (h : Below w.heap.size w w4) : w.heap.size ≤ (w4.alloc o).heap.size := by have := h.size; simp; omega
theorem grown_bel {n : Nat} {w0 w w1 : World} {r : Option Nat} (h : Below n w0 w) (hg : w.grownBy w1 r) (hn : n ≤ w.heap.size) (hr : ∀ k, r = some k → n ≤ k) : Below n w0 w1 := h.grown hg hn hr

end Go.Proofs.Ytejajlloipkkhaa
