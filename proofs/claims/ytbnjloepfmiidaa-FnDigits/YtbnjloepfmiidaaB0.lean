/- Arrays of ints, held against each other. -/
import Derived.Test.YtbnjloepfmiidaaA9
import Derived.ChangeKeysEq
namespace Go.Proofs.Ytbnjloepfmiidaa
open Go.RowKit
set_option linter.unusedVariables false

theorem add_none (b o j : Nat) : (⟨b, o, none⟩ : Addr).add j = ⟨b, o + j, none⟩ := by unfold Addr.add; split <;> simp_all
theorem part_int (A : List Int) (i : Nat) (hi : i < A.length) (w : World) : (part 3 (zv A) i).run Try.prog w = .ok (.int .i64 (A.getD i 0)) w := by
  have e := zv_get A i hi
  simp [part, isAgg, go_sem, e]
theorem eqItems_ints (A B : List Int) (d : Nat) (is : List Nat) (h : ∀ i ∈ is, i < A.length ∧ i < B.length) (w : World) :
    (Op.eqItems (d + 1) 3 1 (zv A) (zv B) is).run Try.prog w = .ok (is.all fun i => A.getD i 0 == B.getD i 0) w := by
  induction is with
  | nil => rfl
  | cons i is ih =>
    have hi := h i (by simp)
    simp only [Op.eqItems, Sem.run_bind, Nat.mul_one, part_int A i hi.1, part_int B i hi.2, Result.andThen_ok, run_equalIn_int w d _ .i64 .i64 _ _ Try.underlying3]
    cases he : (A.getD i 0 == B.getD i 0)
    · simp only [Bool.not_false, if_true, List.all_cons, he, Bool.false_and, Sem.run_pure]
    · simp only [Bool.not_true, Bool.false_eq_true, if_false, List.all_cons, he, Bool.true_and]
      exact ih (fun j hj => h j (by simp [hj]))
theorem all_getD (A B : List Int) (h : A.length = B.length) : ((List.range A.length).all fun i => A.getD i 0 == B.getD i 0) = decide (A = B) := by
  rw [Bool.eq_iff_iff]
  simp only [List.all_eq_true, List.mem_range, beq_iff_eq, decide_eq_true_eq]
  constructor
  · intro k
    apply List.ext_getElem h
    intro i h1 h2
    have := k i h1
    simpa [List.getD_eq_getElem?_getD, List.getElem?_eq_getElem h1, List.getElem?_eq_getElem h2] using this
  · intro e i hi; rw [e]
theorem neq_rows (A B : List Int) (hA : A.length = 12) (hB : B.length = 12) (w : World) :
    (binOp .neq 67 (.agg (zv A)) (.agg (zv B))).run Try.prog w = .ok (.bool (!sameB A B)) w := by
  have hi : ∃ i, Try.prog.info? 3 = some i := by
    cases h : Try.prog.info? 3 with
    | none => have := size_int; rw [h] at this; cases this
    | some i => exact ⟨i, rfl⟩
  obtain ⟨i, hi⟩ := hi
  have hc : Try.prog.cellsOf 3 = 1 := by kernel_rfl
  rw [run_neq_struct, run_equalIn_array w 9999 _ _ Try.underlying67 hi, hc, eqItems_ints A B 9998 _ (fun j hj => by rw [List.mem_range] at hj; omega)]
  have := all_getD A B (by omega)
  rw [hA] at this
  rw [this]
  rfl
theorem alen : Try.prog.arrayLen 67 = 12 := by kernel_rfl
theorem aelem : Try.prog.elem 67 = 3 := by kernel_rfl
theorem aund : Try.prog.underlying 67 = some (.array (Try.prog.arrayLen 67) (Try.prog.elem 67)) := by kernel_rfl
theorem asize (w : World) : (sizeOf 3).run Try.prog w = .ok 1 w := by
  cases h : Try.prog.info? 3 with
  | none => have := size_int; rw [h] at this; cases this
  | some i =>
    have := size_int
    rw [h] at this
    simp at this
    rw [run_sizeOf w h]
    have hc : Try.prog.cellsOf 3 = 1 := by kernel_rfl
    rw [hc]
theorem cut_h (g m : Nat) (hm : m ≤ 12) (w : World) :
    (Instr.sliceAt 67 (.pointer (some ⟨g, 0, none⟩)) none (some (.int .i64 (m : Int))) none).run Try.prog w = .ok (.slice (some ⟨g, 0, none⟩) m 12) w := by
  rw [run_sliceAt_array_h w _ _ aund .i64 (m : Int) (by omega) (by rw [alen]; omega), aelem, asize, alen]
  simp [slicedAt, add_none]
theorem cut_lh (g n m : Nat) (h1 : 1 ≤ m) (hm : m ≤ n) (hn : n ≤ 12) (w : World) :
    (Instr.sliceAt 67 (.pointer (some ⟨g, 0, none⟩)) (some (.int .i64 ((n : Int) - (m : Int)))) (some (.int .i64 (n : Int))) none).run Try.prog w = .ok (.slice (some ⟨g, n - m, none⟩) m (12 - (n - m))) w := by
  rw [run_sliceAt_array_lh w _ _ aund .i64 .i64 ((n : Int) - (m : Int)) (n : Int) (by omega) (by omega) (by rw [alen]; omega), aelem, asize, alen]
  have e : ((n : Int) - (m : Int)).toNat = n - m := by omega
  have e2 : ¬ 12 = n - m := by omega
  have e3 : n - (n - m) = m := by omega
  simp [slicedAt, add_none, e, e2, e3]
theorem wrap_small {n : Int} (h1 : 0 ≤ n) (h2 : n ≤ 4096) : IntKind.i64.wrap n = n := by
  simp [IntKind.wrap, IntKind.signed, IntKind.bits]; omega
theorem cut_lhw (g n m : Nat) (h1 : 1 ≤ m) (hm : m ≤ n) (hn : n ≤ 12) (w : World) :
    (Instr.sliceAt 67 (.pointer (some ⟨g, 0, none⟩)) (some (.int .i64 (IntKind.i64.wrap ((n : Int) - (m : Int))))) (some (.int .i64 (n : Int))) none).run Try.prog w = .ok (.slice (some ⟨g, n - m, none⟩) m (12 - (n - m))) w := by
  rw [wrap_small (by omega) (by omega)]
  exact cut_lh g n m h1 hm hn w
end Go.Proofs.Ytbnjloepfmiidaa
