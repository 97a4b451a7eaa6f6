/- Slices of Row copied whole, into memory of their own. -/
import Derived.Test.YtpgngfdhnoonjaaTr0
import Derived.Test.YtpgngfdhnoonjaaK0
namespace Go.Proofs.Ytpgngfdhnoonjaa.Tb
open Go.RowKit Wire
set_option linter.unusedVariables false
set_option linter.unusedSimpArgs false
theorem info_rw : (Try.prog.info? 37).map (fun i => (i.zero, i.size, i.bytes)) = some (some (.agg #[.int .i64 0, .int .i64 0, .int .i64 0, .bool false]), 4, 32) := by kernel_rfl
theorem make_rw (n : Nat) (hn : n ≤ 1048576) (w : World) :
    (Instr.makeSlice 26 (.int .i64 (n : Int)) (.int .i64 (n : Int))).run Try.prog w = .ok (.slice (some ⟨w.heap.size, 0, none⟩) n n) (w.alloc (.cells (madeCells #[.int .i64 0, .int .i64 0, .int .i64 0, .bool false] (n * 4)) 37)) := by
  obtain ⟨i0, hi, hz0, hz1, hz2⟩ := info_parts info_rw
  have := run_make (P := Try.prog) w 26 37 i0 _ Try.underlying26 hi hz0 .i64 .i64 (n : Int) (n : Int) (by omega) (by omega) (by rw [hz2]; omega) (by omega)
  rw [hz1] at this
  rw [this]
  simp
  rfl
theorem own_rw0 (B T : Nat) (w : World) : tyRw.own B T w (#[.int .i64 0, .int .i64 0, .int .i64 0, .bool false] : Array Value).toList rw0 [] := ⟨rfl, rfl⟩
def setTr (w : World) (q o : Nat) (v0 v1 v2 v3 : Value) : World := (((w.setCell ⟨q, o, none⟩ v0).setCell ⟨q, o + 1, none⟩ v1).setCell ⟨q, o + 2, none⟩ v2).setCell ⟨q, o + 3, none⟩ v3
theorem setTr_eq (w : World) (q o : Nat) (v0 v1 v2 v3 : Value) : setTr w q o v0 v1 v2 v3 = setO w q o [v0, v1, v2, v3] := rfl
theorem own_slotTr {t : TypeId} {B T : Nat} {w : World} {g cap : Nat} {M : List Rw} {F : List Nat} (h : (tySlice t tyRw).own B T w [.slice (some ⟨g, 0, none⟩) M.length cap] M F) {i : Nat} (hi : i < M.length) : (∃ cur, w.heap[g]? = some (.cells cur t (0, 0))) ∧ ∃ m, CellsAt w g (i * 4) (rwV m) := by
  obtain ⟨ad, cap', h0, h1, h2, h3, h4⟩ := h
  simp at h0
  obtain ⟨rfl, h0⟩ := h0
  have hcc : cap = cap' := by first | exact h0 | exact h0.2
  subst hcc
  rcases h4 with ⟨h4, _⟩ | ⟨g', cur, Fs, ha, hB, hT, hg, hl, hF, hc⟩
  · have hl0 : M.length = 0 := by rw [h4]; rfl
    omega
  · simp at ha
    subst ha
    obtain ⟨ci, p1, rfl, _⟩ := hc i hi
    exact ⟨⟨cur, hg⟩, _, p1⟩
theorem setTr_below {n : Nat} {w0 w : World} {q o : Nat} (v0 v1 v2 v3 : Value) (h : Below n w0 w) (hq : n ≤ q) : Below n w0 (setTr w q o v0 v1 v2 v3) := by
  rw [setTr_eq]
  exact setO_below hq _ _ h
theorem own_putTr {t : TypeId} {B : Nat} {w w1 : World} {g cap n : Nat} {M : List Rw} {F : List Nat} (h : (tySlice t tyRw).own B w.heap.size w [.slice (some ⟨g, 0, none⟩) M.length cap] M F) (hn : F.Nodup) (hb : Below w.heap.size w w1) {i : Nat} (hi : i < M.length) (hM : M.length = n) (m : Rw) :
    ∃ F2, (tySlice t tyRw).own B (setTr w1 g (i * 4) (.int .i64 m.x0) (.int .i64 m.x1) (.int .i64 m.x2) (.bool m.b)).heap.size (setTr w1 g (i * 4) (.int .i64 m.x0) (.int .i64 m.x1) (.int .i64 m.x2) (.bool m.b)) [.slice (some ⟨g, 0, none⟩) (M.set i m).length cap] (M.set i m) F2 ∧ F2.Nodup ∧ (M.set i m).length = n := by
  obtain ⟨F2, q1, q2⟩ := own_put (e := tyRw) (m1 := m) (F1 := []) (c1 := rwV m) h hn hb hi ⟨rfl, rfl⟩ (by simp)
  have hsl : (M.set i m).length = M.length := List.length_set
  refine ⟨F2, ?_, q2, by rw [hsl]; exact hM⟩
  rw [hsl, setTr_eq]
  exact q1
set_option maxHeartbeats 3200000 in
theorem toRow_own (x0 x1 x2 : Int) (b : Bool) (w : World) :
    Calls Try.prog 65 #[.agg #[.int .i64 x0, .int .i64 x1, .int .i64 x2, .bool b]] w fun e w' => e = .returned (.agg #[.int .i64 x0, .int .i64 x1, .int .i64 x2, .bool b]) ∧ Below w.heap.size w w' := by
  go_enter Try.func65, Try.ntmps65
  go_wp2
  have K : Wire.Bk (((w.alloc (.cells #[.int .i64 x0, .int .i64 x1, .int .i64 x2, .bool b] 86)).alloc (.cells #[.int .i64 x0, .int .i64 x1, .int .i64 x2, .bool b] 37)).alloc (.cells #[.int .i64 x0, .int .i64 x1, .int .i64 x2, .bool b] 37)) (w.heap.size + 1) #[.int .i64 x0, .int .i64 x1, .int .i64 x2, .bool b] 37 := by
    have h := (Wire.Bk.new (w.alloc (.cells #[.int .i64 x0, .int .i64 x1, .int .i64 x2, .bool b] 86)) #[.int .i64 x0, .int .i64 x1, .int .i64 x2, .bool b] 37).alloc (.cells #[.int .i64 x0, .int .i64 x1, .int .i64 x2, .bool b] 37)
    simp only [World.size_alloc] at h
    exact h
  refine bodyPost_ret (results_cell_row Try.results65 _ _ (w.heap.size + 1) _ _ _ _ rfl K Try.underlying37 rfl (by kernel_rfl)) rfl ⟨rfl, (((Below.refl _ _).alloc (Nat.le_refl _) _).alloc (by simp) _).alloc (by simp; omega) _⟩
set_option maxRecDepth 100000 in
set_option maxHeartbeats 6400000 in
theorem toRowS_any (a : Option Addr) (cap : Nat) (ms : List Rw) (w : World) (hz : ms.length ≤ 1048576) (hr : LsAt tyRw w a ms) :
    Calls Try.prog 38 #[.slice a ms.length cap] w fun e w' => ∃ a', e = .returned (.slice a' ms.length ms.length) ∧ OwnEs tyRw 37 w.heap.size w'.heap.size w' a' ms.length ms ∧ Below w.heap.size w w' := by
  have HR : Hid (LsAt tyRw w a ms) := hr
  clear hr
  have hmk := make_rw ms.length hz
  have OW0 : Hid (∃ F : List Nat, F.Nodup ∧ (tySlice 37 tyRw).own w.heap.size (w.alloc (.cells (madeCells #[.int .i64 0, .int .i64 0, .int .i64 0, .bool false] (ms.length * 4)) 37)).heap.size (w.alloc (.cells (madeCells #[.int .i64 0, .int .i64 0, .int .i64 0, .bool false] (ms.length * 4)) 37)) [.slice (some ⟨w.heap.size, 0, none⟩) (List.replicate ms.length rw0).length ms.length] (List.replicate ms.length rw0) F) :=
    ⟨_, by simp, made_own 37 tyRw #[.int .i64 0, .int .i64 0, .int .i64 0, .bool false] ms.length w rfl (fun w' => own_rw0 _ _ _) hz⟩
  go_enter Try.func38, Try.ntmps38
  go_wp2_with fail
  clear hmk
  go_loopw [4] (fun vi wr => ∃ (k : Nat) (M : List Rw) (F : List Nat), k ≤ ms.length ∧ vi = .int .i64 k ∧ M.length = ms.length ∧ Hid (∀ i, i < k → M.getD i rw0 = ms.getD i rw0) ∧ Hid (F.Nodup) ∧ (tySlice 37 tyRw).own w.heap.size wr.heap.size wr [.slice (some ⟨w.heap.size, 0, none⟩) M.length ms.length] M F ∧ Below w.heap.size w wr) (fun vi _ => ms.length - (intOf vi).toNat)
  case atStart =>
    obtain ⟨F0, hF0, ho0⟩ := OW0.out
    exact ⟨0, List.replicate ms.length rw0, F0, Nat.zero_le _, rfl, List.length_replicate, fun i hi => by omega, hF0, ho0, (Below.refl _ _).alloc (Nat.le_refl _) _⟩
  case round =>
    obtain ⟨k, M, F, hk, rfl, hM, hs, HF, ow, hbel⟩ := hrel
    have HOW : Hid ((tySlice 37 tyRw).own w.heap.size wr.heap.size wr [.slice (some ⟨w.heap.size, 0, none⟩) M.length ms.length] M F) := ow
    have HB : Hid (Below w.heap.size w wr) := hbel
    have HM : Hid (M.length = ms.length) := hM
    clear ow hbel hM OW0
    by_cases hlt : k < ms.length
    · obtain ⟨bk, off, rfl⟩ := lsAt_form HR.out (by show 0 < ms.length; omega)
      obtain ⟨hb1, hc⟩ := rwAt_cell (HR.out.keep HB.out) hlt
      obtain ⟨c0, c1, c2, c3⟩ := CellsAt.rw hc
      obtain ⟨p, hp⟩ : ∃ p, p = ms.getD k rw0 := ⟨_, rfl⟩
      have HP : Hid (p = ms.getD k rw0) := hp
      rw [← hp] at c0 c1 c2 c3
      clear hp hc
      obtain ⟨x0, x1, x2, b⟩ := p
      go_wp2_with fail
      refine (toRow_own x0 x1 x2 b _).mono ?_
      rintro e w1 ⟨rfl, hw1⟩
      have hkM : k < M.length := by rw [HM.out]; exact hlt
      have ow1 := (tySlice 37 tyRw).own_keep HOW.out hw1
      obtain ⟨⟨cur, hcur⟩, mo, hco⟩ := own_slotTr ow1 hkM
      obtain ⟨e0, e1, e2, e3⟩ := CellsAt.rw hco
      have f0 : w1.frozen? ⟨w.heap.size, k * 4, none⟩ = false := frozen_of_row w1 _ _ _ _ hcur
      have f1 : w1.frozen? ⟨w.heap.size, k * 4 + 1, none⟩ = false := frozen_of_row w1 _ _ _ _ hcur
      have f2 : w1.frozen? ⟨w.heap.size, k * 4 + 2, none⟩ = false := frozen_of_row w1 _ _ _ _ hcur
      have f3 : w1.frozen? ⟨w.heap.size, k * 4 + 3, none⟩ = false := frozen_of_row w1 _ _ _ _ hcur
      obtain ⟨F2, ho2, hf2, hl2⟩ := own_putTr HOW.out HF.out hw1 hkM HM.out (⟨x0, x1, x2, b⟩ : Rw)
      have HO2 : Hid ((tySlice 37 tyRw).own w.heap.size (setTr w1 w.heap.size (k * 4) (.int .i64 x0) (.int .i64 x1) (.int .i64 x2) (.bool b)).heap.size (setTr w1 w.heap.size (k * 4) (.int .i64 x0) (.int .i64 x1) (.int .i64 x2) (.bool b)) [.slice (some ⟨w.heap.size, 0, none⟩) (M.set k (⟨x0, x1, x2, b⟩ : Rw)).length ms.length] (M.set k (⟨x0, x1, x2, b⟩ : Rw)) F2) := ho2
      have HF2 : Hid (F2.Nodup) := hf2
      have HML : Hid ((M.set k (⟨x0, x1, x2, b⟩ : Rw)).length = ms.length) := hl2
      clear ho2 hf2 hl2
      have HB1 : Hid (Below w.heap.size w (setTr w1 w.heap.size (k * 4) (.int .i64 x0) (.int .i64 x1) (.int .i64 x2) (.bool b))) := setTr_below _ _ _ _ (belt HB.out hw1) (Nat.le_refl _)
      have HS1 : Hid (∀ i, i < k + 1 → (M.set k (⟨x0, x1, x2, b⟩ : Rw)).getD i rw0 = ms.getD i rw0) := fun i hi => by
        rw [getD_set' (by have := HM.out; omega)]
        by_cases hik : k = i
        · subst hik; rw [if_pos rfl]; exact HP.out
        · rw [if_neg hik]; exact hs.out i (by omega)
      generalize mo.x0 = y0 at e0
      generalize mo.x1 = y1 at e1
      generalize mo.x2 = y2 at e2
      generalize mo.b = y3 at e3
      clear hcur ow1 hco
      go_wp2
      go_roundw
      case rel => exact ⟨k + 1, _, F2, by omega, by go_num, HML.out, HS1, HF2, HO2.out, HB1.out⟩
      case measure => simp [intOf]; omega
    · have hke : k = ms.length := by omega
      subst hke
      have HME : Hid (M = ms) := getD_seq HM.out hs.out
      go_wp2
      go_ret
      refine ⟨_, rfl, ⟨rfl, hz, .inr ⟨w.heap.size, F, ms.length, rfl, HF.out, ?_⟩⟩, HB.out⟩
      have := HOW.out
      rw [HME.out] at this
      exact this
end Go.Proofs.Ytpgngfdhnoonjaa.Tb
