/- The laws' own helpers on lists of ints: copied, compared, marked, looked at again. -/
import Derived.Test.YtpgngfdhnoonjaaA3
import Derived.Test.YtpgngfdhnoonjaaM1
import Derived.Laws.Rows
import Derived.Laws.Tables
import Derived.Deep.OwnRows
import Derived.WalkSmall
namespace Go.Proofs.Ytpgngfdhnoonjaa
open Go.RowKit
set_option linter.unusedVariables false

theorem rowAt_cell {w : World} {bk off : Nat} {zs : List Int} (h : RowAt w (some ⟨bk, off, none⟩) zs) (hz : 0 < zs.length) : bk < w.heap.size ∧ ∀ i, i < zs.length → w.cell? ⟨bk, off + i, none⟩ = some (.int .i64 (zs.getD i 0)) := by
  rcases h with rfl | ⟨b', o', h, hl, hc⟩
  · simp at hz
  · simp at h; obtain ⟨rfl, rfl⟩ := h; exact ⟨hl, hc⟩
theorem rowAt_form {w : World} {a : Option Addr} {zs : List Int} (h : RowAt w a zs) (hz : 0 < zs.length) : ∃ bk off, a = some ⟨bk, off, none⟩ := by
  rcases h with rfl | ⟨b', o', h, _⟩
  · simp at hz
  · exact ⟨b', o', h⟩
theorem made_zv (n : Nat) : madeCells #[Value.int .i64 0] n = zv (List.replicate n 0) := by
  apply Array.ext
  · simp [size_madeCells, zv]
  · intro i h1 h2
    simp [madeCells, zv, Nat.mod_one]
theorem info_int : (Try.prog.info? 3).map (fun i => (i.zero, i.size, i.bytes)) = some (some (.int .i64 0), 1, 8) := by kernel_rfl
theorem make_ints (n : Nat) (hn : n ≤ 1048576) (w : World) :
    (Instr.makeSlice 68 (.int .i64 (n : Int)) (.int .i64 (n : Int))).run Try.prog w = .ok (.slice (some ⟨w.heap.size, 0, none⟩) n n) (w.alloc (.cells (zv (List.replicate n 0)) 3)) := by
  rw [← made_zv]
  exact run_make_row' (P := Try.prog) _ _ (.int .i64 0) 8 Try.underlying68 info_int rfl .i64 .i64 n (by omega) (by omega) w

/-- the call's own list of ints at the head of a block -/
structure OwnZ (w wr : World) (g : Nat) (l : List Int) : Prop where
  bel : Below w.heap.size w wr
  lo : w.heap.size ≤ g
  row : wr.heap[g]? = some (.cells (zv l) 3 (0, 0))
theorem OwnZ.lt {w wr : World} {g : Nat} {l : List Int} (h : OwnZ w wr g l) : g < wr.heap.size := (Array.getElem?_eq_some_iff.1 h.row).1
theorem OwnZ.keep {w wr w1 : World} {g : Nat} {l : List Int} (h : OwnZ w wr g l) (hb : Below wr.heap.size wr w1) : OwnZ w w1 g l :=
  ⟨h.bel.trans (hb.mono h.bel.size), h.lo, (hb.block _ h.lt).trans h.row⟩
theorem OwnZ.put {w wr : World} {g : Nat} {l : List Int} (h : OwnZ w wr g l) (i : Nat) (v : Int) : OwnZ w (wr.setCell ⟨g, i, none⟩ (.int .i64 v)) g (l.set i v) :=
  ⟨h.bel.setCell h.lo _, h.lo, by rw [heap_setCell_same _ _ _ _ _ _ h.row, zv_set]⟩
theorem OwnZ.at {w wr : World} {g : Nat} {l : List Int} (h : OwnZ w wr g l) (i : Nat) (hi : i < l.length) :
    wr.cell? ⟨g, i, none⟩ = some (.int .i64 (l.getD i 0)) ∧ wr.frozen? ⟨g, i, none⟩ = false :=
  ⟨(cell_of_row wr _ _ _ _ _ h.row).trans (zv_get _ _ hi), frozen_of_row wr _ _ _ _ h.row⟩
theorem rowAt_of_row {w : World} {g : Nat} {l : List Int} {t : TypeId} {fr : Nat × Nat} (h : w.heap[g]? = some (.cells (zv l) t fr)) : RowAt w (some ⟨g, 0, none⟩) l :=
  .inr ⟨g, 0, rfl, (Array.getElem?_eq_some_iff.1 h).1, fun i hi => by rw [Nat.zero_add]; exact (cell_of_row w _ _ _ _ _ h).trans (zv_get _ _ hi)⟩

def cop (zs : List Int) (k : Nat) : List Int := zs.take k ++ List.replicate (zs.length - k) 0
theorem cop_set {zs : List Int} {k : Nat} (hk : k < zs.length) : (cop zs k).set k (zs.getD k 0) = cop zs (k + 1) := by
  unfold cop
  have e : zs.length - k = (zs.length - (k + 1)) + 1 := by omega
  rw [e, List.replicate_succ, List.set_append_right _ _ (by simp; omega), List.take_succ_eq_append_getElem hk]
  have : k - (List.take k zs).length = 0 := by simp; omega
  have e2 : zs.getD k 0 = zs[k] := by simp [List.getD_eq_getElem?_getD, List.getElem?_eq_getElem hk]
  rw [this, e2, List.set_cons_zero, List.append_assoc]
  rfl
theorem cop_len {zs : List Int} {k : Nat} (hk : k ≤ zs.length) : (cop zs k).length = zs.length := by simp [cop]; omega
theorem cop_all (zs : List Int) : cop zs zs.length = zs := by simp [cop]
theorem cop_none (zs : List Int) : cop zs 0 = List.replicate zs.length 0 := by simp [cop]

def sameB (xs ys : List Int) : Bool := decide (xs = ys)
theorem same_take {xs ys : List Int} {k : Nat} (h1 : k < xs.length) (h2 : k < ys.length) (h : xs.take k = ys.take k) (e : xs.getD k 0 = ys.getD k 0) : xs.take (k + 1) = ys.take (k + 1) := by
  rw [List.take_succ_eq_append_getElem h1, List.take_succ_eq_append_getElem h2, h]
  simp [List.getD_eq_getElem?_getD, List.getElem?_eq_getElem h1, List.getElem?_eq_getElem h2] at e
  rw [e]
theorem sameB_no {xs ys : List Int} {k : Nat} (e : ¬ xs.getD k 0 = ys.getD k 0) : sameB xs ys = false := decide_eq_false (fun h => e (by rw [h]))
theorem sameB_yes {xs ys : List Int} (hl : xs.length = ys.length) {k : Nat} (hk : ¬ k < xs.length) (h : xs.take k = ys.take k) : sameB xs ys = true := by
  rw [List.take_of_length_le (by omega), List.take_of_length_le (by omega)] at h
  exact decide_eq_true h

/-- nothing but block g has turned -/
structure Only (g : Nat) (w w' : World) : Prop where
  os : w'.os = w.os
  tape : w'.tape = w.tape
  output : w'.output = w.output
  size : w'.heap.size = w.heap.size
  block : ∀ k, ¬ k = g → w'.heap[k]? = w.heap[k]?
theorem Only.refl (g : Nat) (w : World) : Only g w w := ⟨rfl, rfl, rfl, rfl, fun _ _ => rfl⟩
theorem Only.put {g : Nat} {w w' : World} (h : Only g w w') (i : Nat) (v : Value) : Only g w (w'.setCell ⟨g, i, none⟩ v) :=
  ⟨h.os, h.tape, h.output, by simpa [World.setCell] using h.size, fun k hk => (heap_setCell_other _ _ _ _ hk).trans (h.block k hk)⟩
theorem Only.below {g : Nat} {w0 w w' : World} (h : Only g w w') (hb : Below w0.heap.size w0 w) (hg : w0.heap.size ≤ g) : Below w0.heap.size w0 w' :=
  hb.trans ⟨h.os, h.tape, h.output, by rw [h.size]; exact Nat.le_refl _, fun k hk => h.block k (by omega)⟩
def mrk (k0 : Int) (zs : List Int) (i : Nat) : List Int := (List.range i).map (fun j : Nat => k0 + (j : Int)) ++ zs.drop i
theorem mrk_len {k0 : Int} {zs : List Int} {i : Nat} (h : i ≤ zs.length) : (mrk k0 zs i).length = zs.length := by simp [mrk]; omega
theorem mrk_set {k0 : Int} {zs : List Int} {i : Nat} (h : i < zs.length) : (mrk k0 zs i).set i (k0 + (i : Int)) = mrk k0 zs (i + 1) := by
  unfold mrk
  rw [List.set_append_right _ _ (by simp), List.range_succ, List.map_append, List.append_assoc]
  congr 1
  simp only [List.length_map, List.length_range, Nat.sub_self, List.map_cons, List.map_nil]
  rw [List.drop_eq_getElem_cons h, List.set_cons_zero]
  rfl
theorem mrk_get {k0 : Int} {zs : List Int} {i : Nat} (h : i < zs.length) : (mrk k0 zs zs.length).getD i 0 = k0 + (i : Int) := by
  simp [mrk, List.getD_eq_getElem?_getD, h]

end Go.Proofs.Ytpgngfdhnoonjaa
