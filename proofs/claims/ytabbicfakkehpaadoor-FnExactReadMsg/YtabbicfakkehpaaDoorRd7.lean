/- What is read of a text: the message, the code, and whether it is good; the form and the numbers in plain words. -/
import Derived.Test.YtabbicfakkehpaaDoorRd4
import Derived.Test.YtabbicfakkehpaaDoorRd6
namespace Go.Proofs.YtabbicfakkehpaaDoor
open Go.RowKit
set_option linter.unusedVariables false
set_option linter.unusedSimpArgs false
def okA (b d : Int) (s : ByteArray) : Bool := okJ b d s (fld (bt s 1)) (fld (bt s 1)).length
def rdO (b d : Int) (s : ByteArray) : Bool := gsB b d && lenB s && knB s && fmB s && okA b d s
def rdC (b d : Int) (s : ByteArray) : Int := if gsB b d = false then 0 else if lenB s = false then lenC s else if knB s = false then 3 else if fmB s = false then 5 else if okA b d s = false then 4 else 0
def rq (b d : Int) (s : ByteArray) (x : Int) : Int := if rdO b d s = true then x else 0
def rl (b d : Int) (s : ByteArray) : List Int := if rdO b d s = true then fL s (fld (bt s 1)) (fld (bt s 1)).length else []
def fx (s : ByteArray) (f : Int) : Int := fv s (fld (bt s 1)) (fld (bt s 1)).length f
def ansV (b d : Int) (s : ByteArray) (va : Option Addr) (vn vc : Nat) : Value :=
  .tuple #[.agg #[.int .i64 (rq b d s (bt s 1)), .int .i64 (rq b d s (bt s 2)), .int .i64 (rq b d s (a2 s 3)), .int .i64 (rq b d s (a2 s 5)), .int .i64 (rq b d s (fx s 1)), .int .i64 (rq b d s (fx s 2)), .int .i64 (rq b d s (fx s 3)), .int .i64 (rq b d s (fx s 4)), .slice va vn vc], .int .i64 (rdC b d s), .bool (rdO b d s)]
theorem ansV_no {b d : Int} {s : ByteArray} {c : Int} (h : rdO b d s = false) (hc : rdC b d s = c) : ansV b d s none 0 0 = .tuple #[.agg #[.int .i64 0, .int .i64 0, .int .i64 0, .int .i64 0, .int .i64 0, .int .i64 0, .int .i64 0, .int .i64 0, .slice none 0 0], .int .i64 c, .bool false] := by
  unfold ansV rq
  rw [h, hc]
  rfl
theorem rl_no {b d : Int} {s : ByteArray} (h : rdO b d s = false) : rl b d s = [] := by unfold rl; rw [h]; rfl
theorem ansV_yes {b d : Int} {s : ByteArray} {va : Option Addr} {vn vc : Nat} (h : rdO b d s = true) (hc : rdC b d s = 0) : ansV b d s va vn vc = .tuple #[.agg #[.int .i64 (bt s 1), .int .i64 (bt s 2), .int .i64 (a2 s 3), .int .i64 (a2 s 5), .int .i64 (fx s 1), .int .i64 (fx s 2), .int .i64 (fx s 3), .int .i64 (fx s 4), .slice va vn vc], .int .i64 0, .bool true] := by
  unfold ansV rq
  rw [h, hc]
  rfl
theorem rl_yes {b d : Int} {s : ByteArray} (h : rdO b d s = true) : rl b d s = fL s (fld (bt s 1)) (fld (bt s 1)).length := by unfold rl; rw [if_pos h]
theorem rd_gs {b d : Int} {s : ByteArray} (h : gsB b d = false) : rdO b d s = false ∧ rdC b d s = 0 := by
  unfold rdO rdC; rw [h]; exact ⟨rfl, rfl⟩
theorem rd_len {b d : Int} {s : ByteArray} (h : gsB b d = true) (h1 : lenB s = false) : rdO b d s = false ∧ rdC b d s = lenC s := by
  unfold rdO rdC; rw [h, h1]; exact ⟨rfl, rfl⟩
theorem rd_kn {b d : Int} {s : ByteArray} (h : gsB b d = true) (h1 : lenB s = true) (h2 : knB s = false) : rdO b d s = false ∧ rdC b d s = 3 := by
  unfold rdO rdC; rw [h, h1, h2]; exact ⟨rfl, rfl⟩
theorem rd_fm {b d : Int} {s : ByteArray} (h : gsB b d = true) (h1 : lenB s = true) (h2 : knB s = true) (h3 : fmB s = false) : rdO b d s = false ∧ rdC b d s = 5 := by
  unfold rdO rdC; rw [h, h1, h2, h3]; exact ⟨rfl, rfl⟩
theorem rd_sp {b d : Int} {s : ByteArray} (h : gsB b d = true) (h1 : lenB s = true) (h2 : knB s = true) (h3 : fmB s = true) (h4 : okA b d s = false) : rdO b d s = false ∧ rdC b d s = 4 := by
  unfold rdO rdC; rw [h, h1, h2, h3, h4]; exact ⟨rfl, rfl⟩
theorem rd_yes {b d : Int} {s : ByteArray} (h : gsB b d = true) (h1 : lenB s = true) (h2 : knB s = true) (h3 : fmB s = true) (h4 : okA b d s = true) : rdO b d s = true ∧ rdC b d s = 0 := by
  unfold rdO rdC; rw [h, h1, h2, h3, h4]; exact ⟨rfl, rfl⟩
/-- a text of its kind's form has room for its fields -/
theorem form_at {s : ByteArray} (h : fmB s = true) : 6 < s.size ∧ (∀ j, j < (fld (bt s 1)).length → ¬ (fld (bt s 1)).getD j 0 = 5 → 7 + 2 * j + 1 < s.size) ∧ (bt s 1 = 5 → 9 < s.size ∧ 10 + 2 * (bt s 9).toNat ≤ s.size ∧ bt s 9 ≤ 4) := by
  obtain ⟨hm, hl⟩ : many s ≤ 4 ∧ (s.size : Int) - 1 = flong (bt s 1) (many s) := of_decide_eq_true h
  have hb := many_bd s
  unfold flong lnj at hl
  by_cases h5 : bt s 1 = 5
  · have h2 := fld_5len h5
    rw [h2, if_pos ⟨h5, rfl⟩] at hl
    have h9 : 9 < s.size := by omega
    have hm2 : many s = bt s 9 := by unfold many; rw [if_pos ⟨h5, h9⟩]
    have hb9 := bt_bd s 9
    refine ⟨by omega, fun j hj hn => ?_, fun _ => ⟨h9, by omega, by omega⟩⟩
    have := fld_five (bt s 1) j hj
    rw [h2] at hj
    have : ¬ j = 1 := fun e => hn (this.2 ⟨h5, e⟩)
    omega
  · rw [if_neg (fun k => h5 k.1)] at hl
    refine ⟨by omega, fun j hj _ => by omega, fun k => absurd k h5⟩
theorem a2_in (s : ByteArray) (i : Nat) (m : Int) : inB (a2 s i) 0 m = decide (a2 s i ≤ m) := by
  have := (a2_bd s i).1
  unfold inB
  exact decide_eq_decide.2 ⟨fun h => h.2, fun h => ⟨this, h⟩⟩
theorem lv_all (s : ByteArray) (m : Int) : allB (lv s) 0 m = allLe (lv s) m := by
  unfold allB allLe lv
  rw [List.all_map, List.all_map]
  congr 1
  funext k
  exact a2_in s _ m
theorem hasB_cons (y : Int) (ys : List Int) (x : Int) : hasB (y :: ys) x = (decide (y = x) || hasB ys x) := by
  unfold hasB
  rw [Bool.eq_iff_iff]
  simp only [Bool.or_eq_true, decide_eq_true_eq]
  constructor
  · rintro ⟨i, hi, h⟩
    cases i with
    | zero => exact .inl (by simpa using h)
    | succ i => exact .inr ⟨i, by simpa using hi, by simpa using h⟩
  · rintro (h | ⟨i, hi, h⟩)
    · exact ⟨0, by simp, by simpa using h⟩
    · exact ⟨i + 1, by simpa using hi, by simpa using h⟩
/-- the message that is read is good just where no number is too great -/
theorem good_read {b d : Int} {s : ByteArray} (hg : gsB b d = true) (hk : kdB (bt s 1) = true) (hf : fmB s = true) :
    gmB b d (bt s 1) (bt s 2) (a2 s 3) (a2 s 5) (fx s 1) (fx s 2) (fx s 3) (fx s 4) (fL s (fld (bt s 1)) (fld (bt s 1)).length) = okA b d s := by
  have hl : bt s 1 = 5 → (lv s).length ≤ 4 := fun h => by
    have := ((form_at hf).2.2 h).2.2
    rw [lv_len]; omega
  have h2 := bt_bd s 2
  have h2' : inB (bt s 2) 0 255 = true := inB_yes h2.1 h2.2
  have hk' : inB (bt s 1) 1 8 = true := hk
  have hk2 := inB_true hk'
  unfold gmB okA fx
  rw [h2', hk', numsB_2]
  unfold numB
  rw [hg, a2_in, a2_in]
  generalize bt s 1 = K at *
  have h9 : K = 1 ∨ K = 2 ∨ K = 3 ∨ K = 4 ∨ K = 5 ∨ K = 6 ∨ K = 7 ∨ K = 8 := by omega
  rcases h9 with rfl | rfl | rfl | rfl | rfl | rfl | rfl | rfl
  all_goals simp [fldB, hasB_cons, hasB_nil, fld, okF, noF, okJ, fv, fL, numB, hg, a2_in, mo, numsB, lv_all]
  all_goals first | (simp only [Bool.and_assoc]; done) | (rw [decide_eq_true (hl rfl), Bool.true_and]; simp only [Bool.and_assoc])
end Go.Proofs.YtabbicfakkehpaaDoor
