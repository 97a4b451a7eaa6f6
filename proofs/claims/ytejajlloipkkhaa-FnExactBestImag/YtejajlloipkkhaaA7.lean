/- FromDigits on both sides: of so many digits the number. -/
import Derived.Test.YtejajlloipkkhaaA5
import Derived.Test.YtejajlloipkkhaaL1
namespace Go.Proofs.Ytejajlloipkkhaa
open Go.RowKit
set_option linter.unusedVariables false

def fOk (b d : Int) (zs : List Int) : Bool := gsB b d && (zs.length == cnt b d) && allB zs 0 (sz d - 1)
def fVal (b d : Int) (zs : List Int) : Int := if fOk b d zs = true then ofD (sz d) zs else 0

/-- the boxed space is there, and nothing old has turned -/
structure BoxAt (w wr : World) (b d : Int) : Prop where
  bel : Below w.heap.size w wr
  c0 : wr.cell? ⟨w.heap.size, 0, none⟩ = some (.int .i64 b)
  c1 : wr.cell? ⟨w.heap.size, 1, none⟩ = some (.int .i64 d)
  lt : w.heap.size < wr.heap.size
theorem BoxAt.keep {w wr w1 : World} {b d : Int} (h : BoxAt w wr b d) (hb : Below wr.heap.size wr w1) : BoxAt w w1 b d :=
  ⟨h.bel.trans (hb.mono h.bel.size), (hb.cell (p := ⟨w.heap.size, 0, none⟩) h.lt).trans h.c0, (hb.cell (p := ⟨w.heap.size, 1, none⟩) h.lt).trans h.c1, Nat.lt_of_lt_of_le h.lt hb.size⟩
theorem boxAt1 {w w1 : World} {b d : Int} {T : TypeId} {N : Nat} (hb : Below N (w.alloc (.cells #[.int .i64 b, .int .i64 d] T)) w1) (hN : w.heap.size + 1 ≤ N) : BoxAt w w1 b d := by
  refine ⟨bel1 hb (by omega), ?_, ?_, ?_⟩
  · rw [hb.cell (p := ⟨w.heap.size, 0, none⟩) (by show w.heap.size < N; omega)]; simp
  · rw [hb.cell (p := ⟨w.heap.size, 1, none⟩) (by show w.heap.size < N; omega)]; simp
  · have := hb.size; simp at this; omega
theorem digs_bd {d : Int} {zs : List Int} {k : Nat} (hk : k ≤ zs.length) (h : allB (zs.take k) 0 (sz d - 1) = true) : ∀ i, i < k → 0 ≤ zs.getD i 0 ∧ zs.getD i 0 < sz d := by
  intro i hi
  unfold allB at h
  rw [List.all_eq_true] at h
  have hm : zs.getD i 0 ∈ zs.take k := by
    rw [List.getD_eq_getElem?_getD, List.getElem?_eq_getElem (by omega)]
    exact List.mem_take_iff_getElem.2 ⟨i, by omega, rfl⟩
  have := inB_true (h _ hm)
  omega
/-- a part's number is small -/
theorem part_bd {b d : Int} {zs : List Int} {k : Nat} (hb1 : 1 ≤ b) (hb2 : b ≤ 12) (hd1 : 1 ≤ d) (hd2 : d ≤ b) (h5 : b % d = 0) (hl : zs.length = cnt b d) (hk : k ≤ zs.length) (h : allB (zs.take k) 0 (sz d - 1) = true) :
    0 ≤ ofD (sz d) (zs.take k) ∧ ofD (sz d) (zs.take k) < sz b := by
  obtain ⟨s1, s2⟩ := sz_bd hd1 (by omega : d ≤ 12)
  obtain ⟨p1, p2⟩ := ofD_bd (by omega : 0 < sz d) zs k hk (digs_bd hk h)
  have := pow_le (by omega : 1 ≤ sz d) (by omega : k ≤ cnt b d)
  rw [pow_cnt hb1 hd1 hd2 h5] at this
  exact ⟨p1, by omega⟩

theorem allB_part {zs : List Int} {lo hi : Int} {k : Nat} (h : allB zs lo hi = true) : allB (zs.take k) lo hi = true := by
  unfold allB at *
  rw [List.all_eq_true] at *
  exact fun x hx => h x (List.mem_of_mem_take hx)

end Go.Proofs.Ytejajlloipkkhaa
