/- Replies copied whole. Marks on messages and replies: what they are, and that they are found again. Messages and replies that are owned are marked. Replies that are owned are marked. Two lists of messages, two of replies that read the same are told so. Nets in memory: how they are read, how much they hold, when two read the same. Nets of one's own: copied whole, marked, marks found again. Nets copied whole, into memory of their own. A region that draws its order: a load of a whole struct may be taken first where nothing old is written. GoodMsg: what is good, and the specification's side. The fields of a kind, on both sides. GoodMsg of the specification. What answers nets are, and when a net is good, in numbers. Ways through the ring: what a walk, a step and a route are, in numbers. -/
import Derived.Deep.RegionHeld
import Derived.BigQuiet
import Derived.Deep.QuietTactic
import Derived.Test.YtioiacmaijgdoaaZ0
import Derived.Test.YtioiacmaijgdoaaZ1
import Derived.Test.YtioiacmaijgdoaaZ2
namespace Go.Proofs.Ytioiacmaijgdoaa
open Go.RowKit
set_option linter.unusedVariables false
set_option linter.unusedSimpArgs false
set_option maxHeartbeats 3200000 in
theorem toReply_own (x0 x1 x2 x3 : Int) (b : Bool) (w : World) :
    Calls Try.prog 76 #[.agg #[.int .i64 x0, .int .i64 x1, .int .i64 x2, .int .i64 x3, .bool b]] w fun e w' => e = .returned (.agg #[.int .i64 x0, .int .i64 x1, .int .i64 x2, .int .i64 x3, .bool b]) ∧ Below w.heap.size w w' := by
  go_enter Try.func76, Try.ntmps76
  go_wp2
  have K : Wire.Bk (((w.alloc (.cells #[.int .i64 x0, .int .i64 x1, .int .i64 x2, .int .i64 x3, .bool b] 109)).alloc (.cells #[.int .i64 x0, .int .i64 x1, .int .i64 x2, .int .i64 x3, .bool b] 86)).alloc (.cells #[.int .i64 x0, .int .i64 x1, .int .i64 x2, .int .i64 x3, .bool b] 86)) (w.heap.size + 1) #[.int .i64 x0, .int .i64 x1, .int .i64 x2, .int .i64 x3, .bool b] 86 := by
    have h := (Wire.Bk.new (w.alloc (.cells #[.int .i64 x0, .int .i64 x1, .int .i64 x2, .int .i64 x3, .bool b] 109)) #[.int .i64 x0, .int .i64 x1, .int .i64 x2, .int .i64 x3, .bool b] 86).alloc (.cells #[.int .i64 x0, .int .i64 x1, .int .i64 x2, .int .i64 x3, .bool b] 86)
    simp only [World.size_alloc] at h
    exact h
  refine bodyPost_ret (results_cell_row Try.results76 _ _ (w.heap.size + 1) _ _ _ _ rfl K Try.underlying86 rfl (by kernel_rfl)) rfl ⟨rfl, (((Below.refl _ _).alloc (Nat.le_refl _) _).alloc (by simp) _).alloc (by simp; omega) _⟩
set_option maxRecDepth 100000 in
set_option maxHeartbeats 6400000 in
theorem toReplyS_any (a : Option Addr) (cap : Nat) (ms : List Rp) (w : World) (hz : ms.length ≤ 1048576) (hr : LsAt tyRp w a ms) :
    Calls Try.prog 49 #[.slice a ms.length cap] w fun e w' => ∃ a', e = .returned (.slice a' ms.length ms.length) ∧ OwnEs tyRp 86 w.heap.size w'.heap.size w' a' ms.length ms ∧ Below w.heap.size w w' := by
  have HR : Hid (LsAt tyRp w a ms) := hr
  clear hr
  have hmk := make_replies ms.length hz
  have OW0 : Hid (∃ F : List Nat, F.Nodup ∧ (tySlice 86 tyRp).own w.heap.size (w.alloc (.cells (madeCells #[.int .i64 0, .int .i64 0, .int .i64 0, .int .i64 0, .bool false] (ms.length * 5)) 86)).heap.size (w.alloc (.cells (madeCells #[.int .i64 0, .int .i64 0, .int .i64 0, .int .i64 0, .bool false] (ms.length * 5)) 86)) [.slice (some ⟨w.heap.size, 0, none⟩) (List.replicate ms.length rp0).length ms.length] (List.replicate ms.length rp0) F) :=
    ⟨_, by simp, made_own 86 tyRp #[.int .i64 0, .int .i64 0, .int .i64 0, .int .i64 0, .bool false] ms.length w rfl (fun w' => own5 _ _ _) hz⟩
  go_enter Try.func49, Try.ntmps49
  go_wp2_with fail
  clear hmk
  go_loopw [4] (fun vi wr => ∃ (k : Nat) (M : List Rp) (F : List Nat), k ≤ ms.length ∧ vi = .int .i64 k ∧ M.length = ms.length ∧ Hid (∀ i, i < k → M.getD i rp0 = ms.getD i rp0) ∧ Hid (F.Nodup) ∧ (tySlice 86 tyRp).own w.heap.size wr.heap.size wr [.slice (some ⟨w.heap.size, 0, none⟩) M.length ms.length] M F ∧ Below w.heap.size w wr) (fun vi _ => ms.length - (intOf vi).toNat)
  case atStart =>
    obtain ⟨F0, hF0, ho0⟩ := OW0.out
    exact ⟨0, List.replicate ms.length rp0, F0, Nat.zero_le _, rfl, List.length_replicate, fun i hi => by omega, hF0, ho0, (Below.refl _ _).alloc (Nat.le_refl _) _⟩
  case round =>
    obtain ⟨k, M, F, hk, rfl, hM, hs, HF, ow, hbel⟩ := hrel
    have HOW : Hid ((tySlice 86 tyRp).own w.heap.size wr.heap.size wr [.slice (some ⟨w.heap.size, 0, none⟩) M.length ms.length] M F) := ow
    have HB : Hid (Below w.heap.size w wr) := hbel
    have HM : Hid (M.length = ms.length) := hM
    clear ow hbel hM OW0
    by_cases hlt : k < ms.length
    · obtain ⟨bk, off, rfl⟩ := lsAt_form HR.out (by show 0 < ms.length; omega)
      obtain ⟨hb1, hc⟩ := rsAt_cell (HR.out.keep HB.out) hlt
      obtain ⟨c0, c1, c2, c3, c4⟩ := hc.r5
      obtain ⟨p, hp⟩ : ∃ p, p = ms.getD k rp0 := ⟨_, rfl⟩
      have HP : Hid (p = ms.getD k rp0) := hp
      rw [← hp] at c0 c1 c2 c3 c4
      clear hp hc
      obtain ⟨x0, x1, x2, x3, b⟩ := p
      go_wp2_with fail
      refine (toReply_own x0 x1 x2 x3 b _).mono ?_
      rintro e w1 ⟨rfl, hw1⟩
      have hkM : k < M.length := by rw [HM.out]; exact hlt
      have ow1 := (tySlice 86 tyRp).own_keep HOW.out hw1
      obtain ⟨⟨cur, hcur⟩, mo, hco⟩ := own_slot5 ow1 hkM
      obtain ⟨e0, e1, e2, e3, e4⟩ := hco.r5
      have f0 : w1.frozen? ⟨w.heap.size, k * 5, none⟩ = false := frozen_of_row w1 _ _ _ _ hcur
      have f1 : w1.frozen? ⟨w.heap.size, k * 5 + 1, none⟩ = false := frozen_of_row w1 _ _ _ _ hcur
      have f2 : w1.frozen? ⟨w.heap.size, k * 5 + 2, none⟩ = false := frozen_of_row w1 _ _ _ _ hcur
      have f3 : w1.frozen? ⟨w.heap.size, k * 5 + 3, none⟩ = false := frozen_of_row w1 _ _ _ _ hcur
      have f4 : w1.frozen? ⟨w.heap.size, k * 5 + 4, none⟩ = false := frozen_of_row w1 _ _ _ _ hcur
      obtain ⟨F2, ho2, hf2, hl2⟩ := own_put5 HOW.out HF.out hw1 hkM HM.out (⟨x0, x1, x2, x3, b⟩ : Rp)
      have HO2 : Hid ((tySlice 86 tyRp).own w.heap.size (set5 w1 w.heap.size (k * 5) (.int .i64 x0) (.int .i64 x1) (.int .i64 x2) (.int .i64 x3) (.bool b)).heap.size (set5 w1 w.heap.size (k * 5) (.int .i64 x0) (.int .i64 x1) (.int .i64 x2) (.int .i64 x3) (.bool b)) [.slice (some ⟨w.heap.size, 0, none⟩) (M.set k (⟨x0, x1, x2, x3, b⟩ : Rp)).length ms.length] (M.set k (⟨x0, x1, x2, x3, b⟩ : Rp)) F2) := ho2
      have HF2 : Hid (F2.Nodup) := hf2
      have HML : Hid ((M.set k (⟨x0, x1, x2, x3, b⟩ : Rp)).length = ms.length) := hl2
      clear ho2 hf2 hl2
      have HB1 : Hid (Below w.heap.size w (set5 w1 w.heap.size (k * 5) (.int .i64 x0) (.int .i64 x1) (.int .i64 x2) (.int .i64 x3) (.bool b))) := set5_below _ _ _ _ _ (belt HB.out hw1) (Nat.le_refl _)
      have HS1 : Hid (∀ i, i < k + 1 → (M.set k (⟨x0, x1, x2, x3, b⟩ : Rp)).getD i rp0 = ms.getD i rp0) := fun i hi => by
        rw [getD_set' (by have := HM.out; omega)]
        by_cases hik : k = i
        · subst hik; rw [if_pos rfl]; exact HP.out
        · rw [if_neg hik]; exact hs.out i (by omega)
      generalize mo.x0 = y0 at e0
      generalize mo.x1 = y1 at e1
      generalize mo.x2 = y2 at e2
      generalize mo.x3 = y3 at e3
      generalize mo.b = y4 at e4
      clear hcur ow1 hco
      go_wp2
      go_roundw
      case rel => exact ⟨k + 1, _, F2, by omega, by go_num, HML.out, HS1, HF2, HO2.out, HB1.out⟩
      case measure => simp [intOf]; omega
    · have hke : k = ms.length := by omega
      subst hke
      have HME : Hid (M = ms) := getD_seq HM.out hs.out
      go_wp2
      go_ret
      refine ⟨_, rfl, ⟨rfl, hz, .inr ⟨w.heap.size, F, ms.length, rfl, HF.out, ?_⟩⟩, HB.out⟩
      have := HOW.out
      rw [HME.out] at this
      exact this
end Go.Proofs.Ytioiacmaijgdoaa
namespace Go.Proofs.Ytioiacmaijgdoaa
open Go.RowKit
set_option linter.unusedVariables false
set_option linter.unusedSimpArgs false
def mrkM (k : Int) (ms : List Mg) : List Mg := (mrkL tyMg.mrk k ms).1
def kM (k : Int) (ms : List Mg) (i : Nat) : Int := kAtT tyMg k ms i
theorem mrkM_len (k : Int) (ms : List Mg) : (mrkM k ms).length = ms.length := mrkL_len _ _ _
theorem mrkM_get {k : Int} {ms : List Mg} {i : Nat} (h : i < ms.length) : (mrkM k ms).getD i mg0 = mgK (kM k ms i) (ms.getD i mg0) := mrkL_get (e := tyMg) k ms i h
theorem kM_zero (k : Int) (ms : List Mg) : kM k ms 0 = k := by
  show k + ((0 : Nat) : Int) = k
  omega
theorem kM_succ {k : Int} {ms : List Mg} {i : Nat} (h : i < ms.length) : kM k ms (i + 1) = kM k ms i + 8 + ((ms.getD i mg0).l.length : Int) := by
  have h1 : kM k ms (i + 1) = kM k ms i + ((8 + (ms.getD i mg0).l.length : Nat) : Int) := kAtT_succ (e := tyMg) h
  omega
theorem kM_bd {k : Int} {ms : List Mg} (i : Nat) (hb : ms.length + lsum ms ≤ 1048576) : k ≤ kM k ms i ∧ kM k ms i ≤ k + 8388608 := by
  have h1 := kAtT_bd (e := tyMg) k ms i
  have h2 : sumL tyMg.cnt ms ≤ 8 * (ms.length + lsum ms) := mul_sum (f := fun m : Mg => m.l.length) (c := tyMg.cnt) tyMg.cnt_tot ms
  unfold kM
  omega
def mrkR (k : Int) (ms : List Rp) : List Rp := (mrkL tyRp.mrk k ms).1
theorem mrkR_len (k : Int) (ms : List Rp) : (mrkR k ms).length = ms.length := mrkL_len _ _ _
theorem sum5 (ms : List Rp) (i : Nat) (h : i ≤ ms.length) : sumL tyRp.cnt (ms.take i) = 5 * i := by
  have : ∀ l : List Rp, sumL tyRp.cnt l = 5 * l.length := fun l => by
    induction l with
    | nil => rfl
    | cons x xs ih => simp only [sumL, List.length_cons]; rw [ih]; show 5 + 5 * xs.length = _; omega
  exact (this (ms.take i)).trans (by rw [List.length_take, Nat.min_eq_left h])
theorem mrkR_get {k : Int} {ms : List Rp} {i : Nat} (h : i < ms.length) : (mrkR k ms).getD i rp0 = rpK (k + 5 * (i : Int)) := by
  have h1 := mrkL_get (e := tyRp) k ms i h
  unfold kAtT at h1
  rw [sum5 ms i (by omega)] at h1
  have e : k + 5 * (i : Int) = k + ((5 * i : Nat) : Int) := by omega
  rw [e]
  exact h1
set_option maxRecDepth 100000 in
set_option maxHeartbeats 6400000 in
theorem heldMsgS_any (a : Option Addr) (cap : Nat) (ms : List Mg) (k0 : Int) (w : World) (hb : ms.length + lsum ms ≤ 1048576) (k1 : 0 ≤ k0) (k2 : k0 ≤ 1000000000000) (hr : LsAt tyMg w a (mrkM k0 ms)) :
    Calls Try.prog 41 #[.slice a ms.length cap, .int .i64 k0] w fun e w' => e = .returned (.int .i64 (kM k0 ms ms.length)) ∧ w' = w := by
  have HR : Hid (LsAt tyMg w a (mrkM k0 ms)) := hr
  clear hr
  have HL : Hid ((mrkM k0 ms).length = ms.length) := mrkM_len k0 ms
  have hz : ms.length ≤ 1048576 := by omega
  go_enter Try.func41, Try.ntmps41
  go_wp2_with fail
  go_loop [1, 5] (fun vk vi => ∃ i : Nat, i ≤ ms.length ∧ vi = .int .i64 i ∧ vk = .int .i64 (kM k0 ms i)) (fun _ vi => ms.length - (intOf vi).toNat)
  case atStart => exact ⟨0, Nat.zero_le _, rfl, by rw [kM_zero]⟩
  case round =>
    obtain ⟨i, hi, rfl, rfl⟩ := hrel
    by_cases hlt : i < ms.length
    · obtain ⟨bk, off, rfl⟩ := lsAt_form HR.out (by show 0 < (mrkM k0 ms).length; rw [HL.out]; omega)
      obtain ⟨hb1, ab, cb, hc, hr, _, _⟩ := msAt_cell HR.out (by rw [HL.out]; exact hlt)
      rw [mrkM_get hlt] at hc hr
      obtain ⟨c0, c1, c2, c3, c4, c5, c6, c7, c8⟩ := hc.m9
      clear hc
      have HS : Hid (kM k0 ms (i + 1) = kM k0 ms i + 8 + ((ms.getD i mg0).l.length : Int)) := kM_succ hlt
      have hbd := kM_bd (k := k0) i hb
      have hnb := lsum_mem hlt
      obtain ⟨nb, hnbe⟩ : ∃ nb, nb = (ms.getD i mg0).l.length := ⟨_, rfl⟩
      simp only [mgK] at c0 c1 c2 c3 c4 c5 c6 c7 c8 hr
      generalize (ms.getD i mg0).l = zs at *
      rw [mrk_len (Nat.le_refl _)] at c8
      rw [← hnbe] at c8 hr HS hnb
      obtain ⟨u1, u2⟩ := hbd
      generalize kM k0 ms i = K at *
      obtain ⟨m1, m2⟩ := mrk_at' (k0 := K + 8) hnbe.symm
      have C := heldIntS_any ab cb (mrk (K + 8) zs nb) (K + 8) w (by rw [m1]; omega) (by omega) (by omega) hr m2
      rw [m1] at C
      clear m1 m2 hnbe hr
      have e7 : K + 7 + 1 = K + 8 := by omega
      have e6 : K + 6 + 1 = K + 7 := by omega
      have e5 : K + 5 + 1 = K + 6 := by omega
      have e4 : K + 4 + 1 = K + 5 := by omega
      have e3 : K + 3 + 1 = K + 4 := by omega
      have e2 : K + 2 + 1 = K + 3 := by omega
      have e1 : K + 1 + 1 = K + 2 := by omega
      go_wp2_with fail
      try rw [e7]
      refine C.mono ?_
      rintro e w1 ⟨rfl, he1⟩
      have he1 := he1.symm
      subst he1
      go_wp2
      go_round
      case rel => exact ⟨i + 1, by omega, by go_num, by rw [HS.out]⟩
      case measure => simp [intOf]; omega
    · have hkl : i = ms.length := by omega
      subst hkl
      go_wp2
      go_ret
      exact ⟨rfl, rfl⟩
set_option maxRecDepth 100000 in
set_option maxHeartbeats 6400000 in
theorem heldReplyS_any (a : Option Addr) (cap : Nat) (ms : List Rp) (k0 : Int) (w : World) (hz : ms.length ≤ 1048576) (k1 : 0 ≤ k0) (k2 : k0 ≤ 1000000000000) (hr : LsAt tyRp w a (mrkR k0 ms)) :
    Calls Try.prog 42 #[.slice a ms.length cap, .int .i64 k0] w fun e w' => e = .returned (.int .i64 (k0 + 5 * (ms.length : Int))) ∧ w' = w := by
  have HR : Hid (LsAt tyRp w a (mrkR k0 ms)) := hr
  clear hr
  have HL : Hid ((mrkR k0 ms).length = ms.length) := mrkR_len k0 ms
  go_enter Try.func42, Try.ntmps42
  go_wp2_with fail
  go_loop [1, 5] (fun vk vi => ∃ i : Nat, i ≤ ms.length ∧ vi = .int .i64 i ∧ vk = .int .i64 (k0 + 5 * (i : Int))) (fun _ vi => ms.length - (intOf vi).toNat)
  case atStart => exact ⟨0, Nat.zero_le _, rfl, by simp⟩
  case round =>
    obtain ⟨i, hi, rfl, rfl⟩ := hrel
    by_cases hlt : i < ms.length
    · obtain ⟨bk, off, rfl⟩ := lsAt_form HR.out (by show 0 < (mrkR k0 ms).length; rw [HL.out]; omega)
      obtain ⟨hb1, hc⟩ := rsAt_cell HR.out (by rw [HL.out]; exact hlt)
      rw [mrkR_get hlt] at hc
      obtain ⟨c0, c1, c2, c3, c4⟩ := hc.r5
      clear hc
      simp only [rpK] at c0 c1 c2 c3 c4
      have HS : Hid (k0 + 5 * ((i + 1 : Nat) : Int) = k0 + 5 * (i : Int) + 5) := by unfold Hid; omega
      obtain ⟨K, hK⟩ : ∃ K, K = k0 + 5 * (i : Int) := ⟨_, rfl⟩
      have u1 : 0 ≤ K := by omega
      have u2 : K ≤ 1000100000000 := by omega
      rw [← hK] at c0 c1 c2 c3 c4 HS ⊢
      clear hK
      have e4 : K + 4 + 1 = K + 5 := by omega
      have e3 : K + 3 + 1 = K + 4 := by omega
      have e2 : K + 2 + 1 = K + 3 := by omega
      have e1 : K + 1 + 1 = K + 2 := by omega
      by_cases h3 : (K + 4) % 3 = 0
      · rw [decide_eq_true h3] at c4
        go_wp2
        go_round
        case rel => exact ⟨i + 1, by omega, by go_num, by rw [HS.out]⟩
        case measure => simp [intOf]; omega
      · rw [decide_eq_false h3] at c4
        go_wp2
        go_round
        case rel => exact ⟨i + 1, by omega, by go_num, by rw [HS.out]⟩
        case measure => simp [intOf]; omega
    · have hkl : i = ms.length := by omega
      subst hkl
      go_wp2
      go_ret
      exact ⟨rfl, rfl⟩
end Go.Proofs.Ytioiacmaijgdoaa
namespace Go.Proofs.Ytioiacmaijgdoaa
open Go.RowKit
set_option linter.unusedVariables false
set_option linter.unusedSimpArgs false
theorem within_setO {B T g : Nat} {w0 : World} (h1 : B ≤ g) (h2 : g < T) : ∀ (vs : List Value) {w : World} (o : Nat), Within B T w0 w → Within B T w0 (setO w g o vs)
  | [], w, o, h => h
  | v :: vs, w, o, h => within_setO h1 h2 vs (o + 1) (h.put h1 h2 o v)
theorem setO_more {g : Nat} {vs old rest : List Value} {w : World} {o : Nat} (h : CellsAt w g o (old ++ rest)) (hl : old.length = vs.length) : CellsAt (setO w g o vs) g o (vs ++ rest) := by
  intro j v hj
  by_cases hlt : j < vs.length
  · rw [List.getElem?_append_left hlt] at hj
    refine setO_in vs o (fun q hq => ?_) j v hj
    have hq2 : q < (old ++ rest).length := by rw [List.length_append]; omega
    exact ⟨_, h q _ (List.getElem?_eq_getElem hq2)⟩
  · rw [List.getElem?_append_right (by omega)] at hj
    refine setO_out vs o (.inr (by omega)) (h j v ?_)
    rw [List.getElem?_append_right (by omega), hl]
    exact hj
def set8 (w : World) (q o : Nat) (v0 v1 v2 v3 v4 v5 v6 v7 : Value) : World := (((((((w.setCell ⟨q, o, none⟩ v0).setCell ⟨q, o + 1, none⟩ v1).setCell ⟨q, o + 2, none⟩ v2).setCell ⟨q, o + 3, none⟩ v3).setCell ⟨q, o + 4, none⟩ v4).setCell ⟨q, o + 5, none⟩ v5).setCell ⟨q, o + 6, none⟩ v6).setCell ⟨q, o + 7, none⟩ v7
theorem set8_eq (w : World) (q o : Nat) (v0 v1 v2 v3 v4 v5 v6 v7 : Value) : set8 w q o v0 v1 v2 v3 v4 v5 v6 v7 = setO w q o [v0, v1, v2, v3, v4, v5, v6, v7] := rfl
def mgV8 (m : Mg) : List Value := [.int .i64 m.x0, .int .i64 m.x1, .int .i64 m.x2, .int .i64 m.x3, .int .i64 m.x4, .int .i64 m.x5, .int .i64 m.x6, .int .i64 m.x7]
theorem mgV_split (m : Mg) (s : Value) : mgV m s = mgV8 m ++ [s] := rfl
/-- one message's own list is marked -/
theorem markTail (B T : Nat) (w : World) (a : Option Addr) (c : Nat) (m m1 : Mg) (F : List Nat) (k : Int) (k1 : 0 ≤ k) (k2 : k ≤ 1099511627776) (hl : m1.l = mrk k m.l m.l.length) (h : tyMg.own B T w (mgV m (.slice a m.l.length c)) m F) :
    Calls Try.prog 22 #[.slice a m.l.length c, .int .i64 k] w fun e w' => e = .returned (.int .i64 (k + (m.l.length : Int))) ∧ (∀ q, ¬ q ∈ F → w'.heap[q]? = w.heap[q]?) ∧ Within B T w w' ∧ tyMg.own B T w' (mgV m1 (.slice a m1.l.length c)) m1 F ∧ m1.l.length = m.l.length := by
  obtain ⟨a', c', e, h1, h2, h3, h4⟩ := h
  have ee : a = a' ∧ c = c' := by
    have h9 : (mgV m (.slice a m.l.length c))[8]? = (mgV m (.slice a' m.l.length c'))[8]? := by rw [e]
    simp [mgV] at h9
    exact h9
  obtain ⟨rfl, rfl⟩ := ee
  have hml : m1.l.length = m.l.length := by rw [hl]; exact mrk_len (Nat.le_refl _)
  rcases h4 with ⟨h4, hF⟩ | ⟨g, ha, hF, hT, os⟩
  · have hz : m.l.length = 0 := by rw [h4]; rfl
    rw [hz]
    refine (markIntS_empty a c k w).mono ?_
    rintro e w1 ⟨rfl, he⟩
    have he' := he.symm
    subst he'
    refine ⟨by simp, fun _ _ => rfl, Within.refl _ _ _, ⟨a, c, rfl, by omega, by omega, fun hh => h3 hh, .inl ⟨?_, hF⟩⟩, by omega⟩
    exact List.length_eq_zero_iff.1 (by omega)
  · subst ha
    refine (markOwn_any B g c m.l k w h1 k1 k2 os).mono ?_
    rintro e w1 ⟨rfl, os1, on⟩
    refine ⟨rfl, fun q hq => on.block q (fun he => hq (by rw [hF, he]; simp)), (Within.refl B T w).only on os.lo hT, ⟨_, c, rfl, by omega, by omega, fun hh => (by cases hh), .inr ⟨g, rfl, hF, hT, by rw [hl]; exact os1⟩⟩, hml⟩
theorem own_elem9 {t : TypeId} {B T : Nat} {w : World} {g cap : Nat} {m : List Mg} {F : List Nat} (h : (tySlice t tyMg).own B T w [.slice (some ⟨g, 0, none⟩) m.length cap] m F) (hn : F.Nodup) {i : Nat} (hi : i < m.length) :
    ∃ a c Fi, CellsAt w g (i * 9) (mgV (m.getD i mg0) (.slice a (m.getD i mg0).l.length c)) ∧ tyMg.own B T w (mgV (m.getD i mg0) (.slice a (m.getD i mg0).l.length c)) (m.getD i mg0) Fi ∧ ¬ g ∈ Fi ∧ B ≤ g ∧ g < T ∧ (∃ cur, w.heap[g]? = some (.cells cur t (0, 0))) ∧
      ∀ (w1 : World) (m1 : Mg), (∃ cur1, w1.heap[g]? = some (.cells cur1 t (0, 0))) → (∀ k, ¬ k = g → ¬ k ∈ Fi → w1.heap[k]? = w.heap[k]?) →
        CellsAt w1 g (i * 9) (mgV m1 (.slice a m1.l.length c)) → (∀ j v, (j < i * 9 ∨ (i + 1) * 9 ≤ j) → w.cell? ⟨g, j, none⟩ = some v → w1.cell? ⟨g, j, none⟩ = some v) → tyMg.own B T w1 (mgV m1 (.slice a m1.l.length c)) m1 Fi →
        (tySlice t tyMg).own B T w1 [.slice (some ⟨g, 0, none⟩) m.length cap] (List.set m i m1) F := by
  obtain ⟨ci, Fi, q1, q2, q3, q4, q5, q6, q7, q8⟩ := own_focus h hn hi
  have q2' := q2
  obtain ⟨a, c, rfl, _⟩ := q2
  have bd := (tySlice t tyMg).own_bd h g q5
  exact ⟨a, c, Fi, q1, q2', q4, bd.1, bd.2.1, q7, fun w1 m1 ⟨cur1, r1⟩ r2 r3 r4 r5 => q8 w1 _ m1 cur1 r1 (fun k _ hk1 hk2 => r2 k hk1 hk2) r3 r4 r5⟩
set_option maxRecDepth 100000 in
set_option maxHeartbeats 6400000 in
theorem markMsgS_any (B T g cap0 cap : Nat) (ms : List Mg) (F : List Nat) (k0 : Int) (w : World) (hb : ms.length + lsum ms ≤ 1048576) (k1 : 0 ≤ k0) (k2 : k0 ≤ 1000000000000) (h : (tySlice 82 tyMg).own B T w [.slice (some ⟨g, 0, none⟩) ms.length cap0] ms F) (hn : F.Nodup) :
    Calls Try.prog 38 #[.slice (some ⟨g, 0, none⟩) ms.length cap, .int .i64 k0] w fun e w' => e = .returned (.int .i64 (kM k0 ms ms.length)) ∧ Within B T w w' ∧ (tySlice 82 tyMg).own B T w' [.slice (some ⟨g, 0, none⟩) (mrkM k0 ms).length cap0] (mrkM k0 ms) F := by
  have hz : ms.length ≤ 1048576 := by omega
  have HO : Hid ((tySlice 82 tyMg).own B T w [.slice (some ⟨g, 0, none⟩) ms.length cap0] ms F) := h
  have HN : Hid (F.Nodup) := hn
  have HBB : Hid (ms.length + lsum ms ≤ 1048576) := hb
  clear h hn hb
  go_enter Try.func38, Try.ntmps38
  go_wp2_with fail
  go_loopw [1, 5] (fun vk vi wr => ∃ (i : Nat) (M : List Mg), i ≤ ms.length ∧ vi = .int .i64 i ∧ vk = .int .i64 (kM k0 ms i) ∧ M.length = ms.length ∧ Hid (∀ j, j < i → M.getD j mg0 = (mrkM k0 ms).getD j mg0) ∧ Hid (∀ j, i ≤ j → j < ms.length → M.getD j mg0 = ms.getD j mg0) ∧ (tySlice 82 tyMg).own B T wr [.slice (some ⟨g, 0, none⟩) M.length cap0] M F ∧ Within B T w wr) (fun _ vi _ => ms.length - (intOf vi).toNat)
  case atStart => exact ⟨0, ms, Nat.zero_le _, rfl, by rw [kM_zero], rfl, fun j hj => by omega, fun j _ hj => rfl, HO.out, Within.refl _ _ _⟩
  case round =>
    obtain ⟨i, M, hi, rfl, rfl, hM, hs1, hs2, ow, wi⟩ := hrel
    have HML : Hid (M.length = ms.length) := hM
    have HOW : Hid ((tySlice 82 tyMg).own B T wr [.slice (some ⟨g, 0, none⟩) M.length cap0] M F) := ow
    have HW : Hid (Within B T w wr) := wi
    clear hM ow wi
    by_cases hlt : i < ms.length
    · have hiM : i < M.length := by rw [HML.out]; exact hlt
      have HS : Hid (kM k0 ms (i + 1) = kM k0 ms i + 8 + ((ms.getD i mg0).l.length : Int)) := kM_succ hlt
      have hbd := kM_bd (k := k0) i HBB.out
      have HMK : Hid ((mrkM k0 ms).getD i mg0 = mgK (kM k0 ms i) (ms.getD i mg0)) := mrkM_get hlt
      obtain ⟨u1, u2⟩ := hbd
      have HNB : Hid ((ms.getD i mg0).l.length ≤ 1048576) := by have := lsum_mem hlt; have := HBB.out; unfold Hid; omega
      obtain ⟨K, hK⟩ : ∃ K, K = kM k0 ms i := ⟨_, rfl⟩
      rw [← hK] at u1 u2 HS HMK ⊢
      clear hK
      obtain ⟨a, c, Fi, fc, fo, fg, fB, fT, ⟨cur, hcur⟩, fput⟩ := own_elem9 HOW.out HN.out hiM
      rw [hs2.out i (Nat.le_refl _) hlt] at fc fo
      obtain ⟨p, hp⟩ : ∃ p, p = ms.getD i mg0 := ⟨_, rfl⟩
      rw [← hp] at fc fo HS HMK HNB
      clear hp
      obtain ⟨c0, c1, c2, c3, c4, c5, c6, c7, c8⟩ := fc.m9
      have f0 : wr.frozen? ⟨g, i * 9, none⟩ = false := frozen_of_row wr _ _ _ _ hcur
      have f1 : wr.frozen? ⟨g, i * 9 + 1, none⟩ = false := frozen_of_row wr _ _ _ _ hcur
      have f2 : wr.frozen? ⟨g, i * 9 + 2, none⟩ = false := frozen_of_row wr _ _ _ _ hcur
      have f3 : wr.frozen? ⟨g, i * 9 + 3, none⟩ = false := frozen_of_row wr _ _ _ _ hcur
      have f4 : wr.frozen? ⟨g, i * 9 + 4, none⟩ = false := frozen_of_row wr _ _ _ _ hcur
      have f5 : wr.frozen? ⟨g, i * 9 + 5, none⟩ = false := frozen_of_row wr _ _ _ _ hcur
      have f6 : wr.frozen? ⟨g, i * 9 + 6, none⟩ = false := frozen_of_row wr _ _ _ _ hcur
      have f7 : wr.frozen? ⟨g, i * 9 + 7, none⟩ = false := frozen_of_row wr _ _ _ _ hcur
      have ho8 : ∀ q, ¬ q = g → (set8 wr g (i * 9) (.int .i64 K) (.int .i64 (K + 1)) (.int .i64 (K + 2)) (.int .i64 (K + 3)) (.int .i64 (K + 4)) (.int .i64 (K + 5)) (.int .i64 (K + 6)) (.int .i64 (K + 7))).heap[q]? = wr.heap[q]? := fun q hq => setO_oth hq [.int .i64 K, .int .i64 (K + 1), .int .i64 (K + 2), .int .i64 (K + 3), .int .i64 (K + 4), .int .i64 (K + 5), .int .i64 (K + 6), .int .i64 (K + 7)] wr (i * 9)
      have fo8 : tyMg.own B T (set8 wr g (i * 9) (.int .i64 K) (.int .i64 (K + 1)) (.int .i64 (K + 2)) (.int .i64 (K + 3)) (.int .i64 (K + 4)) (.int .i64 (K + 5)) (.int .i64 (K + 6)) (.int .i64 (K + 7))) (mgV p (.slice a p.l.length c)) p Fi := tyMg.own_blocks fo (fun q hq => ho8 q (fun he => fg (he ▸ hq)))
      have C := markTail B T (set8 wr g (i * 9) (.int .i64 K) (.int .i64 (K + 1)) (.int .i64 (K + 2)) (.int .i64 (K + 3)) (.int .i64 (K + 4)) (.int .i64 (K + 5)) (.int .i64 (K + 6)) (.int .i64 (K + 7))) a c p (mgK K p) Fi (K + 8) (by omega) (by omega) rfl fo8
      have HR8 : Hid (∃ cur, (set8 wr g (i * 9) (.int .i64 K) (.int .i64 (K + 1)) (.int .i64 (K + 2)) (.int .i64 (K + 3)) (.int .i64 (K + 4)) (.int .i64 (K + 5)) (.int .i64 (K + 6)) (.int .i64 (K + 7))).heap[g]? = some (.cells cur 82 (0, 0))) := setO_row [.int .i64 K, .int .i64 (K + 1), .int .i64 (K + 2), .int .i64 (K + 3), .int .i64 (K + 4), .int .i64 (K + 5), .int .i64 (K + 6), .int .i64 (K + 7)] (i * 9) ⟨cur, hcur⟩
      have HC8 : Hid (CellsAt (set8 wr g (i * 9) (.int .i64 K) (.int .i64 (K + 1)) (.int .i64 (K + 2)) (.int .i64 (K + 3)) (.int .i64 (K + 4)) (.int .i64 (K + 5)) (.int .i64 (K + 6)) (.int .i64 (K + 7))) g (i * 9) (mgV (mgK K p) (.slice a p.l.length c))) := setO_more (old := mgV8 p) (rest := [.slice a p.l.length c]) (vs := [.int .i64 K, .int .i64 (K + 1), .int .i64 (K + 2), .int .i64 (K + 3), .int .i64 (K + 4), .int .i64 (K + 5), .int .i64 (K + 6), .int .i64 (K + 7)]) fc rfl
      have HT8 : Hid (∀ j v, (j < i * 9 ∨ (i + 1) * 9 ≤ j) → wr.cell? ⟨g, j, none⟩ = some v → (set8 wr g (i * 9) (.int .i64 K) (.int .i64 (K + 1)) (.int .i64 (K + 2)) (.int .i64 (K + 3)) (.int .i64 (K + 4)) (.int .i64 (K + 5)) (.int .i64 (K + 6)) (.int .i64 (K + 7))).cell? ⟨g, j, none⟩ = some v) := fun j v hj hv => setO_out [.int .i64 K, .int .i64 (K + 1), .int .i64 (K + 2), .int .i64 (K + 3), .int .i64 (K + 4), .int .i64 (K + 5), .int .i64 (K + 6), .int .i64 (K + 7)] (i * 9) (by simp only [List.length_cons, List.length_nil]; omega) hv
      have HW8 : Hid (Within B T w (set8 wr g (i * 9) (.int .i64 K) (.int .i64 (K + 1)) (.int .i64 (K + 2)) (.int .i64 (K + 3)) (.int .i64 (K + 4)) (.int .i64 (K + 5)) (.int .i64 (K + 6)) (.int .i64 (K + 7)))) := within_setO fB fT [.int .i64 K, .int .i64 (K + 1), .int .i64 (K + 2), .int .i64 (K + 3), .int .i64 (K + 4), .int .i64 (K + 5), .int .i64 (K + 6), .int .i64 (K + 7)] (i * 9) HW.out
      have HO8 : Hid (∀ q, ¬ q = g → (set8 wr g (i * 9) (.int .i64 K) (.int .i64 (K + 1)) (.int .i64 (K + 2)) (.int .i64 (K + 3)) (.int .i64 (K + 4)) (.int .i64 (K + 5)) (.int .i64 (K + 6)) (.int .i64 (K + 7))).heap[q]? = wr.heap[q]?) := ho8
      have HP : Hid (∀ (w1 : World) (m1 : Mg), (∃ cur1, w1.heap[g]? = some (.cells cur1 82 (0, 0))) → (∀ k, ¬ k = g → ¬ k ∈ Fi → w1.heap[k]? = wr.heap[k]?) →
        CellsAt w1 g (i * 9) (mgV m1 (.slice a m1.l.length c)) → (∀ j v, (j < i * 9 ∨ (i + 1) * 9 ≤ j) → wr.cell? ⟨g, j, none⟩ = some v → w1.cell? ⟨g, j, none⟩ = some v) → tyMg.own B T w1 (mgV m1 (.slice a m1.l.length c)) m1 Fi →
        (tySlice 82 tyMg).own B T w1 [.slice (some ⟨g, 0, none⟩) M.length cap0] (List.set M i m1) F) := fput
      have HG : Hid (¬ g ∈ Fi) := fg
      clear fput fc fo fo8 ho8 hcur fg
      obtain ⟨nb, hnb⟩ : ∃ nb, nb = p.l.length := ⟨_, rfl⟩
      have HNE : Hid (nb = p.l.length) := hnb
      rw [← hnb] at c8 C HS HNB
      clear hnb
      have hnb3 : nb ≤ 1048576 := HNB.out
      generalize p.x0 = y0 at c0
      generalize p.x1 = y1 at c1
      generalize p.x2 = y2 at c2
      generalize p.x3 = y3 at c3
      generalize p.x4 = y4 at c4
      generalize p.x5 = y5 at c5
      generalize p.x6 = y6 at c6
      generalize p.x7 = y7 at c7
      have e7 : K + 7 + 1 = K + 8 := by omega
      have e6 : K + 6 + 1 = K + 7 := by omega
      have e5 : K + 5 + 1 = K + 6 := by omega
      have e4 : K + 4 + 1 = K + 5 := by omega
      have e3 : K + 3 + 1 = K + 4 := by omega
      have e2 : K + 2 + 1 = K + 3 := by omega
      have e1 : K + 1 + 1 = K + 2 := by omega
      go_wp2_with fail
      refine C.mono ?_
      rintro e w1 ⟨rfl, hoth, hwi, hown, hlen⟩
      have HW1 : Hid (Within B T w w1) := HW8.out.trans hwi
      have HC1 : Hid (CellsAt w1 g (i * 9) (mgV (mgK K p) (.slice a (mgK K p).l.length c))) := by
        have hgb := hoth g HG.out
        have := HC8.out.block hgb
        rw [hlen, HNE.out]
        exact this
      have HO2 : Hid ((tySlice 82 tyMg).own B T w1 [.slice (some ⟨g, 0, none⟩) (M.set i (mgK K p)).length cap0] (M.set i (mgK K p)) F) := by
        have hsl : (M.set i (mgK K p)).length = M.length := List.length_set
        rw [Hid, hsl]
        obtain ⟨cur8, hcur8⟩ := HR8.out
        exact HP.out w1 (mgK K p) ⟨cur8, (hoth g HG.out).trans hcur8⟩ (fun q hq1 hq2 => (hoth q hq2).trans (HO8.out q hq1)) HC1.out (fun j v hj hv => (World.cell?_of_block (a := ⟨g, j, none⟩) (hoth g HG.out)).trans (HT8.out j v hj hv)) hown
      have HS1 : Hid (∀ j, j < i + 1 → (M.set i (mgK K p)).getD j mg0 = (mrkM k0 ms).getD j mg0) := by
        intro j hj
        rw [getD_set' (by omega)]
        by_cases hij : i = j
        · subst hij; rw [if_pos rfl, HMK.out]
        · rw [if_neg hij]; exact hs1.out j (by omega)
      have HS2 : Hid (∀ j, i + 1 ≤ j → j < ms.length → (M.set i (mgK K p)).getD j mg0 = ms.getD j mg0) := fun j hj hjl => by
        rw [getD_set' (by rw [HML.out]; exact hjl), if_neg (by omega)]
        exact hs2.out j (by omega) hjl
      have HMN : Hid ((M.set i (mgK K p)).length = ms.length) := List.length_set.trans HML.out
      clear hoth hwi hown hlen C hs1 hs2
      go_wp2
      go_roundw
      case rel => exact ⟨i + 1, _, by omega, by go_num, by rw [HS.out], HMN.out, HS1, HS2, HO2.out, HW1.out⟩
      case measure => simp [intOf]; omega
    · have hie : i = ms.length := by omega
      subst hie
      have HME : Hid (M = mrkM k0 ms) := getD_seq (by rw [mrkM_len]; exact HML.out) (fun j hj => hs1.out j (by rw [mrkM_len] at hj; exact hj))
      go_wp2
      go_ret
      refine ⟨rfl, HW.out, ?_⟩
      have := HOW.out
      rw [HME.out] at this
      exact this
end Go.Proofs.Ytioiacmaijgdoaa
namespace Go.Proofs.Ytioiacmaijgdoaa
open Go.RowKit
set_option linter.unusedVariables false
set_option linter.unusedSimpArgs false
theorem own_elem5 {t : TypeId} {B T : Nat} {w : World} {g cap : Nat} {m : List Rp} {F : List Nat} (h : (tySlice t tyRp).own B T w [.slice (some ⟨g, 0, none⟩) m.length cap] m F) (hn : F.Nodup) {i : Nat} (hi : i < m.length) :
    CellsAt w g (i * 5) (rpV (m.getD i rp0)) ∧ B ≤ g ∧ g < T ∧ (∃ cur, w.heap[g]? = some (.cells cur t (0, 0))) ∧
      ∀ (w1 : World) (m1 : Rp), (∃ cur1, w1.heap[g]? = some (.cells cur1 t (0, 0))) → (∀ k, ¬ k = g → w1.heap[k]? = w.heap[k]?) →
        CellsAt w1 g (i * 5) (rpV m1) → (∀ j v, (j < i * 5 ∨ (i + 1) * 5 ≤ j) → w.cell? ⟨g, j, none⟩ = some v → w1.cell? ⟨g, j, none⟩ = some v) →
        (tySlice t tyRp).own B T w1 [.slice (some ⟨g, 0, none⟩) m.length cap] (List.set m i m1) F := by
  obtain ⟨ci, Fi, q1, ⟨rfl, rfl⟩, q3, q4, q5, q6, q7, q8⟩ := own_focus h hn hi
  have bd := (tySlice t tyRp).own_bd h g q5
  exact ⟨q1, bd.1, bd.2.1, q7, fun w1 m1 ⟨cur1, r1⟩ r2 r3 r4 => q8 w1 _ m1 cur1 r1 (fun k _ hk1 hk2 => r2 k hk1) r3 r4 ⟨rfl, rfl⟩⟩
set_option maxRecDepth 100000 in
set_option maxHeartbeats 6400000 in
theorem markReplyS_any (B T g cap0 cap : Nat) (ms : List Rp) (F : List Nat) (k0 : Int) (w : World) (hz : ms.length ≤ 1048576) (k1 : 0 ≤ k0) (k2 : k0 ≤ 1000000000000) (h : (tySlice 86 tyRp).own B T w [.slice (some ⟨g, 0, none⟩) ms.length cap0] ms F) (hn : F.Nodup) :
    Calls Try.prog 39 #[.slice (some ⟨g, 0, none⟩) ms.length cap, .int .i64 k0] w fun e w' => e = .returned (.int .i64 (k0 + 5 * (ms.length : Int))) ∧ Within B T w w' ∧ (tySlice 86 tyRp).own B T w' [.slice (some ⟨g, 0, none⟩) (mrkR k0 ms).length cap0] (mrkR k0 ms) F := by
  have HO : Hid ((tySlice 86 tyRp).own B T w [.slice (some ⟨g, 0, none⟩) ms.length cap0] ms F) := h
  have HN : Hid (F.Nodup) := hn
  clear h hn
  go_enter Try.func39, Try.ntmps39
  go_wp2_with fail
  go_loopw [1, 5] (fun vk vi wr => ∃ (i : Nat) (M : List Rp), i ≤ ms.length ∧ vi = .int .i64 i ∧ vk = .int .i64 (k0 + 5 * (i : Int)) ∧ M.length = ms.length ∧ Hid (∀ j, j < i → M.getD j rp0 = (mrkR k0 ms).getD j rp0) ∧ (tySlice 86 tyRp).own B T wr [.slice (some ⟨g, 0, none⟩) M.length cap0] M F ∧ Within B T w wr) (fun _ vi _ => ms.length - (intOf vi).toNat)
  case atStart => exact ⟨0, ms, Nat.zero_le _, rfl, by simp, rfl, fun j hj => by omega, HO.out, Within.refl _ _ _⟩
  case round =>
    obtain ⟨i, M, hi, rfl, rfl, hM, hs1, ow, wi⟩ := hrel
    have HML : Hid (M.length = ms.length) := hM
    have HOW : Hid ((tySlice 86 tyRp).own B T wr [.slice (some ⟨g, 0, none⟩) M.length cap0] M F) := ow
    have HW : Hid (Within B T w wr) := wi
    clear hM ow wi
    by_cases hlt : i < ms.length
    · have hiM : i < M.length := by rw [HML.out]; exact hlt
      have HMK : Hid ((mrkR k0 ms).getD i rp0 = rpK (k0 + 5 * (i : Int))) := mrkR_get hlt
      have HS : Hid (k0 + 5 * ((i + 1 : Nat) : Int) = k0 + 5 * (i : Int) + 5) := by unfold Hid; omega
      obtain ⟨K, hK⟩ : ∃ K, K = k0 + 5 * (i : Int) := ⟨_, rfl⟩
      have u1 : 0 ≤ K := by omega
      have u2 : K ≤ 1000100000000 := by omega
      rw [← hK] at HMK HS ⊢
      clear hK
      obtain ⟨fc, fB, fT, ⟨cur, hcur⟩, fput⟩ := own_elem5 HOW.out HN.out hiM
      generalize M.getD i rp0 = p at fc
      obtain ⟨c0, c1, c2, c3, c4⟩ := fc.r5
      have f0 : wr.frozen? ⟨g, i * 5, none⟩ = false := frozen_of_row wr _ _ _ _ hcur
      have f1 : wr.frozen? ⟨g, i * 5 + 1, none⟩ = false := frozen_of_row wr _ _ _ _ hcur
      have f2 : wr.frozen? ⟨g, i * 5 + 2, none⟩ = false := frozen_of_row wr _ _ _ _ hcur
      have f3 : wr.frozen? ⟨g, i * 5 + 3, none⟩ = false := frozen_of_row wr _ _ _ _ hcur
      have f4 : wr.frozen? ⟨g, i * 5 + 4, none⟩ = false := frozen_of_row wr _ _ _ _ hcur
      have HO2 : Hid ((tySlice 86 tyRp).own B T (set5 wr g (i * 5) (.int .i64 K) (.int .i64 (K + 1)) (.int .i64 (K + 2)) (.int .i64 (K + 3)) (.bool (decide ((K + 4) % 3 = 0)))) [.slice (some ⟨g, 0, none⟩) (M.set i (rpK K)).length cap0] (M.set i (rpK K)) F) := by
        have hsl : (M.set i (rpK K)).length = M.length := List.length_set
        rw [Hid, hsl]
        refine fput (set5 wr g (i * 5) (.int .i64 K) (.int .i64 (K + 1)) (.int .i64 (K + 2)) (.int .i64 (K + 3)) (.bool (decide ((K + 4) % 3 = 0)))) (rpK K) (setO_row [.int .i64 K, .int .i64 (K + 1), .int .i64 (K + 2), .int .i64 (K + 3), .bool (decide ((K + 4) % 3 = 0))] (i * 5) ⟨cur, hcur⟩) (fun q hq => setO_oth hq [.int .i64 K, .int .i64 (K + 1), .int .i64 (K + 2), .int .i64 (K + 3), .bool (decide ((K + 4) % 3 = 0))] wr (i * 5)) ?_ (fun j v hj hv => setO_out [.int .i64 K, .int .i64 (K + 1), .int .i64 (K + 2), .int .i64 (K + 3), .bool (decide ((K + 4) % 3 = 0))] (i * 5) (by simp only [List.length_cons, List.length_nil]; omega) hv)
        exact setO_more (old := rpV p) (rest := []) (vs := [.int .i64 K, .int .i64 (K + 1), .int .i64 (K + 2), .int .i64 (K + 3), .bool (decide ((K + 4) % 3 = 0))]) (by rw [List.append_nil]; exact fc) rfl
      have HW1 : Hid (Within B T w (set5 wr g (i * 5) (.int .i64 K) (.int .i64 (K + 1)) (.int .i64 (K + 2)) (.int .i64 (K + 3)) (.bool (decide ((K + 4) % 3 = 0))))) := within_setO fB fT [.int .i64 K, .int .i64 (K + 1), .int .i64 (K + 2), .int .i64 (K + 3), .bool (decide ((K + 4) % 3 = 0))] (i * 5) HW.out
      have HS1 : Hid (∀ j, j < i + 1 → (M.set i (rpK K)).getD j rp0 = (mrkR k0 ms).getD j rp0) := fun j hj => by
        rw [getD_set' (by omega)]
        by_cases hij : i = j
        · subst hij; rw [if_pos rfl, HMK.out]
        · rw [if_neg hij]; exact hs1.out j (by omega)
      have HMN : Hid ((M.set i (rpK K)).length = ms.length) := List.length_set.trans HML.out
      clear fput fc hcur hs1
      generalize p.x0 = y0 at c0
      generalize p.x1 = y1 at c1
      generalize p.x2 = y2 at c2
      generalize p.x3 = y3 at c3
      generalize p.b = y4 at c4
      have e4 : K + 4 + 1 = K + 5 := by omega
      have e3 : K + 3 + 1 = K + 4 := by omega
      have e2 : K + 2 + 1 = K + 3 := by omega
      have e1 : K + 1 + 1 = K + 2 := by omega
      by_cases h3 : (K + 4) % 3 = 0
      · rw [decide_eq_true h3] at HO2 HW1
        go_wp2
        go_roundw
        case rel => exact ⟨i + 1, _, by omega, by go_num, by rw [HS.out], HMN.out, HS1, HO2.out, HW1.out⟩
        case measure => simp [intOf]; omega
      · rw [decide_eq_false h3] at HO2 HW1
        have h3b : ((K + 4) % 3 == 0) = false := by simpa using h3
        clear h3
        go_wp2
        go_roundw
        case rel => exact ⟨i + 1, _, by omega, by go_num, by rw [HS.out], HMN.out, HS1, HO2.out, HW1.out⟩
        case measure => simp [intOf]; omega
    · have hie : i = ms.length := by omega
      subst hie
      have HME : Hid (M = mrkR k0 ms) := getD_seq (by rw [mrkR_len]; exact HML.out) (fun j hj => hs1.out j (by rw [mrkR_len] at hj; exact hj))
      go_wp2
      go_ret
      refine ⟨rfl, HW.out, ?_⟩
      have := HOW.out
      rw [HME.out] at this
      exact this
end Go.Proofs.Ytioiacmaijgdoaa
namespace Go.Proofs.Ytioiacmaijgdoaa
open Go.RowKit
set_option linter.unusedVariables false
set_option linter.unusedSimpArgs false
set_option maxRecDepth 100000 in
set_option maxHeartbeats 3200000 in
theorem eqMsgS_same (a a' : Option Addr) (cap cap' : Nat) (ms : List Mg) (w : World) (hm : ms.length + lsum ms ≤ 1048576) (hx : LsAt tyMg w a ms) (hy : LsAt tyMg w a' ms) :
    Calls Try.prog 33 #[.slice a ms.length cap, .slice a' ms.length cap'] w fun e w' => e = .returned (.bool true) ∧ Below w.heap.size w w' := by
  have HX : Hid (LsAt tyMg w a ms) := hx
  have HY : Hid (LsAt tyMg w a' ms) := hy
  have HMM : Hid (ms.length + lsum ms ≤ 1048576) := hm
  have hm1 : ms.length ≤ 1048576 := by omega
  clear hx hy hm
  go_enter Try.func33, Try.ntmps33
  go_wp2_with fail
  go_loopw [5] (fun vi wr => ∃ k : Nat, k ≤ ms.length ∧ vi = .int .i64 k ∧ Below w.heap.size w wr) (fun vi _ => ms.length - (intOf vi).toNat)
  case atStart => exact ⟨0, Nat.zero_le _, rfl, Below.refl _ _⟩
  case round =>
    obtain ⟨k, hk, rfl, hbel⟩ := hrel
    by_cases hlt : k < ms.length
    · obtain ⟨bk, off, rfl⟩ := lsAt_form HX.out (by show 0 < ms.length; omega)
      obtain ⟨bk2, off2, rfl⟩ := lsAt_form HY.out (by show 0 < ms.length; omega)
      obtain ⟨hb1, ab, cb, hc, hr, hn, hcb⟩ := msAt_cell (HX.out.keep hbel) hlt
      obtain ⟨hb2, ab2, cb2, hc2, hr2, hn2, hcb2⟩ := msAt_cell (HY.out.keep hbel) hlt
      obtain ⟨c0, c1, c2, c3, c4, c5, c6, c7, c8⟩ := hc.m9
      obtain ⟨d0, d1, d2, d3, d4, d5, d6, d7, d8⟩ := hc2.m9
      have HML : Hid ((ms.getD k mg0).l.length ≤ 1048576) := by have := lsum_mem hlt; have := HMM.out; unfold Hid; omega
      clear hc hc2 hcb hcb2 hn2 hn
      generalize ms.getD k mg0 = p at *
      obtain ⟨x0, x1, x2, x3, x4, x5, x6, x7, l⟩ := p
      have g0 : ∀ q : Kin wr.heap.size wr, q.v.cell? ⟨bk, off + k * 9, none⟩ = some (.int .i64 x0) := kin_cell hb1 c0
      have f0 : ∀ q : Kin wr.heap.size wr, q.v.cell? ⟨bk2, off2 + k * 9, none⟩ = some (.int .i64 x0) := kin_cell hb2 d0
      have g1 : ∀ q : Kin wr.heap.size wr, q.v.cell? ⟨bk, off + k * 9 + 1, none⟩ = some (.int .i64 x1) := kin_cell hb1 c1
      have f1 : ∀ q : Kin wr.heap.size wr, q.v.cell? ⟨bk2, off2 + k * 9 + 1, none⟩ = some (.int .i64 x1) := kin_cell hb2 d1
      have g2 : ∀ q : Kin wr.heap.size wr, q.v.cell? ⟨bk, off + k * 9 + 2, none⟩ = some (.int .i64 x2) := kin_cell hb1 c2
      have f2 : ∀ q : Kin wr.heap.size wr, q.v.cell? ⟨bk2, off2 + k * 9 + 2, none⟩ = some (.int .i64 x2) := kin_cell hb2 d2
      have g3 : ∀ q : Kin wr.heap.size wr, q.v.cell? ⟨bk, off + k * 9 + 3, none⟩ = some (.int .i64 x3) := kin_cell hb1 c3
      have f3 : ∀ q : Kin wr.heap.size wr, q.v.cell? ⟨bk2, off2 + k * 9 + 3, none⟩ = some (.int .i64 x3) := kin_cell hb2 d3
      have g4 : ∀ q : Kin wr.heap.size wr, q.v.cell? ⟨bk, off + k * 9 + 4, none⟩ = some (.int .i64 x4) := kin_cell hb1 c4
      have f4 : ∀ q : Kin wr.heap.size wr, q.v.cell? ⟨bk2, off2 + k * 9 + 4, none⟩ = some (.int .i64 x4) := kin_cell hb2 d4
      have g5 : ∀ q : Kin wr.heap.size wr, q.v.cell? ⟨bk, off + k * 9 + 5, none⟩ = some (.int .i64 x5) := kin_cell hb1 c5
      have f5 : ∀ q : Kin wr.heap.size wr, q.v.cell? ⟨bk2, off2 + k * 9 + 5, none⟩ = some (.int .i64 x5) := kin_cell hb2 d5
      have g6 : ∀ q : Kin wr.heap.size wr, q.v.cell? ⟨bk, off + k * 9 + 6, none⟩ = some (.int .i64 x6) := kin_cell hb1 c6
      have f6 : ∀ q : Kin wr.heap.size wr, q.v.cell? ⟨bk2, off2 + k * 9 + 6, none⟩ = some (.int .i64 x6) := kin_cell hb2 d6
      have g7 : ∀ q : Kin wr.heap.size wr, q.v.cell? ⟨bk, off + k * 9 + 7, none⟩ = some (.int .i64 x7) := kin_cell hb1 c7
      have f7 : ∀ q : Kin wr.heap.size wr, q.v.cell? ⟨bk2, off2 + k * 9 + 7, none⟩ = some (.int .i64 x7) := kin_cell hb2 d7
      have g8 : ∀ q : Kin wr.heap.size wr, q.v.cell? ⟨bk, off + k * 9 + 8, none⟩ = some (.slice ab l.length cb) := kin_cell hb1 c8
      have f8 : ∀ q : Kin wr.heap.size wr, q.v.cell? ⟨bk2, off2 + k * 9 + 8, none⟩ = some (.slice ab2 l.length cb2) := kin_cell hb2 d8
      have HRA : Hid (RowAt wr ab l) := hr
      have HRB : Hid (RowAt wr ab2 l) := hr2
      clear c0 c1 c2 c3 c4 c5 c6 c7 c8 d0 d1 d2 d3 d4 d5 d6 d7 d8 hr hr2
      go_wp2
      refine region_kin wr.heap.size (by kernel_rfl) (by kernel_rfl) (fun hne => ?_)
      repeat (go_big_quiet_step ((go_at_call 68; exact kin_of (Nat.le_refl _) (Wire.eqMsg_own x0 x1 x2 x3 x4 x5 x6 x7 ab ab2 cb cb2 l.length l _ rfl HML.out (HRA.out.keepB (Kin.bel _) (Nat.le_refl _)) (HRB.out.keepB (Kin.bel _) (Nat.le_refl _))))))
      refine wpQuiet_nil ?_
      intro xw hw'
      obtain ⟨⟨w1, hw1⟩, hw1'⟩ := hw'
      have hw1'' : w1 = xw := hw1'.symm
      subst hw1''
      clear g0 g1 g2 g3 g4 g5 g6 g7 g8 f0 f1 f2 f3 f4 f5 f6 f7 f8 hne
      have hbel1 := belt hbel hw1
      have hkw : IntKind.i64.wrap ((k : Int) + 1) = (k : Int) + 1 := by rw [IntKind.wrap_i64]; omega
      go_wp2
      go_roundw
      case rel => exact ⟨k + 1, by omega, by go_num, hbel1⟩
      case measure => simp [intOf]; omega
    · go_wp2
      go_ret
      exact ⟨rfl, hbel⟩
set_option maxHeartbeats 1600000 in
theorem eqReply_same (x0 x1 x2 x3 : Int) (b : Bool) (w : World) :
    Calls Try.prog 69 #[.agg #[.int .i64 x0, .int .i64 x1, .int .i64 x2, .int .i64 x3, .bool b], .agg #[.int .i64 x0, .int .i64 x1, .int .i64 x2, .int .i64 x3, .bool b]] w fun e w' => e = .returned (.bool true) ∧ Below w.heap.size w w' := by
  have hbb := bne_self_bool b
  go_enter Try.func69, Try.ntmps69
  go_wp2
  go_ret
  exact ⟨rfl, ((Below.refl _ _).alloc (Nat.le_refl _) _).alloc (by simp) _⟩
set_option maxRecDepth 100000 in
set_option maxHeartbeats 3200000 in
theorem eqReplyS_same (a a' : Option Addr) (cap cap' : Nat) (ms : List Rp) (w : World) (hm : ms.length ≤ 1048576) (hx : LsAt tyRp w a ms) (hy : LsAt tyRp w a' ms) :
    Calls Try.prog 34 #[.slice a ms.length cap, .slice a' ms.length cap'] w fun e w' => e = .returned (.bool true) ∧ Below w.heap.size w w' := by
  have HX : Hid (LsAt tyRp w a ms) := hx
  have HY : Hid (LsAt tyRp w a' ms) := hy
  clear hx hy
  go_enter Try.func34, Try.ntmps34
  go_wp2_with fail
  go_loopw [5] (fun vi wr => ∃ k : Nat, k ≤ ms.length ∧ vi = .int .i64 k ∧ Below w.heap.size w wr) (fun vi _ => ms.length - (intOf vi).toNat)
  case atStart => exact ⟨0, Nat.zero_le _, rfl, Below.refl _ _⟩
  case round =>
    obtain ⟨k, hk, rfl, hbel⟩ := hrel
    by_cases hlt : k < ms.length
    · obtain ⟨bk, off, rfl⟩ := lsAt_form HX.out (by show 0 < ms.length; omega)
      obtain ⟨bk2, off2, rfl⟩ := lsAt_form HY.out (by show 0 < ms.length; omega)
      obtain ⟨hb1, hc⟩ := rsAt_cell (HX.out.keep hbel) hlt
      obtain ⟨hb2, hc2⟩ := rsAt_cell (HY.out.keep hbel) hlt
      obtain ⟨c0, c1, c2, c3, c4⟩ := hc.r5
      obtain ⟨d0, d1, d2, d3, d4⟩ := hc2.r5
      clear hc hc2
      generalize ms.getD k rp0 = p at *
      obtain ⟨x0, x1, x2, x3, b⟩ := p
      have g0 : ∀ q : Kin wr.heap.size wr, q.v.cell? ⟨bk, off + k * 5, none⟩ = some (.int .i64 x0) := kin_cell hb1 c0
      have f0 : ∀ q : Kin wr.heap.size wr, q.v.cell? ⟨bk2, off2 + k * 5, none⟩ = some (.int .i64 x0) := kin_cell hb2 d0
      have g1 : ∀ q : Kin wr.heap.size wr, q.v.cell? ⟨bk, off + k * 5 + 1, none⟩ = some (.int .i64 x1) := kin_cell hb1 c1
      have f1 : ∀ q : Kin wr.heap.size wr, q.v.cell? ⟨bk2, off2 + k * 5 + 1, none⟩ = some (.int .i64 x1) := kin_cell hb2 d1
      have g2 : ∀ q : Kin wr.heap.size wr, q.v.cell? ⟨bk, off + k * 5 + 2, none⟩ = some (.int .i64 x2) := kin_cell hb1 c2
      have f2 : ∀ q : Kin wr.heap.size wr, q.v.cell? ⟨bk2, off2 + k * 5 + 2, none⟩ = some (.int .i64 x2) := kin_cell hb2 d2
      have g3 : ∀ q : Kin wr.heap.size wr, q.v.cell? ⟨bk, off + k * 5 + 3, none⟩ = some (.int .i64 x3) := kin_cell hb1 c3
      have f3 : ∀ q : Kin wr.heap.size wr, q.v.cell? ⟨bk2, off2 + k * 5 + 3, none⟩ = some (.int .i64 x3) := kin_cell hb2 d3
      have g4 : ∀ q : Kin wr.heap.size wr, q.v.cell? ⟨bk, off + k * 5 + 4, none⟩ = some (.bool b) := kin_cell hb1 c4
      have f4 : ∀ q : Kin wr.heap.size wr, q.v.cell? ⟨bk2, off2 + k * 5 + 4, none⟩ = some (.bool b) := kin_cell hb2 d4
      clear c0 c1 c2 c3 c4 d0 d1 d2 d3 d4
      go_wp2
      refine region_kin wr.heap.size (by kernel_rfl) (by kernel_rfl) (fun hne => ?_)
      repeat (go_big_quiet_step ((go_at_call 69; exact kin_of (Nat.le_refl _) (eqReply_same x0 x1 x2 x3 b _))))
      refine wpQuiet_nil ?_
      intro xw hw'
      obtain ⟨⟨w1, hw1⟩, hw1'⟩ := hw'
      have hw1'' : w1 = xw := hw1'.symm
      subst hw1''
      clear g0 g1 g2 g3 g4 f0 f1 f2 f3 f4 hne
      have hbel1 := belt hbel hw1
      have hkw : IntKind.i64.wrap ((k : Int) + 1) = (k : Int) + 1 := by rw [IntKind.wrap_i64]; omega
      go_wp2
      go_roundw
      case rel => exact ⟨k + 1, by omega, by go_num, hbel1⟩
      case measure => simp [intOf]; omega
    · go_wp2
      go_ret
      exact ⟨rfl, hbel⟩
end Go.Proofs.Ytioiacmaijgdoaa
namespace Go.Proofs.Ytioiacmaijgdoaa
open Go.RowKit
set_option linter.unusedVariables false
set_option linter.unusedSimpArgs false
/-- what the slices of a net read as -/
structure NetAt (w : World) (ap am ag ar : Option Addr) (ps : List Pr) (ms : List Mg) (gs : List Int) (rs : List Rp) : Prop where
  p : PeersAt w ap ps
  m : LsAt tyMg w am ms
  g : RowAt w ag gs
  r : LsAt tyRp w ar rs
theorem NetAt.keep {w w1 : World} {ap am ag ar : Option Addr} {ps : List Pr} {ms : List Mg} {gs : List Int} {rs : List Rp} (h : NetAt w ap am ag ar ps ms gs rs) (hb : Below w.heap.size w w1) : NetAt w1 ap am ag ar ps ms gs rs := ⟨h.p.keep hb, h.m.keep hb, h.g.keep hb, h.r.keep hb⟩
structure BigN (ps : List Pr) (ms : List Mg) (gs : List Int) (rs : List Rp) : Prop where
  p : ps.length + bsum ps ≤ 1048576
  m : ms.length + lsum ms ≤ 1048576
  g : gs.length ≤ 1048576
  r : rs.length ≤ 1048576
theorem szPeers_all (b d : Int) (a : Option Addr) (cap : Nat) (ps : List Pr) (w : World) (hm : ps.length ≤ maxLen) (hr : PeersAt w a ps) :
    Calls Try.prog 6 #[.agg #[.int .i64 b, .int .i64 d, .slice a ps.length cap], .int .i64 1048576] w fun e w' => ∃ v : Int, e = .returned (.int .i64 v) ∧ (v < 0 ∨ (0 ≤ v ∧ ps.length + bsum ps ≤ 1048576)) ∧ v ≤ 1048576 ∧ Below w.heap.size w w' := by
  have hr1 := hr.alloc (.cells #[.int .i64 b, .int .i64 d, .slice a ps.length cap] 26)
  go_enter Try.func6, Try.ntmps6
  go_wp2_with fail
  refine (szPeerS_any a cap ps _ hm hr1).mono ?_
  rintro e w1 ⟨v, rfl, hv, v1, v2, hw1⟩
  by_cases hn : v < 0
  · go_wp2
    go_ret
    exact ⟨-1, rfl, .inl (by omega), by omega, bel1 hw1 (by simp)⟩
  · go_wp2
    go_ret
    exact ⟨v, rfl, hv, v2, bel1 hw1 (by simp)⟩
theorem szIntS_all (a : Option Addr) (n cap : Nat) (l : Int) (w : World) (hn : n ≤ maxLen) (l1 : 0 ≤ l) (l2 : l ≤ 1048576) :
    Calls Try.prog 44 #[.slice a n cap, .int .i64 l] w fun e w' => ∃ v : Int, e = .returned (.int .i64 v) ∧ (v < 0 ∨ (0 ≤ v ∧ n ≤ 1048576)) ∧ v ≤ 1048576 ∧ Below w.heap.size w w' := by
  refine (szIntS_any a n cap l w hn l1 l2).mono ?_
  rintro e w1 ⟨rfl, rfl⟩
  refine ⟨_, rfl, ?_, ?_, Below.refl _ _⟩ <;> by_cases h : l - (n : Int) < 0
  · rw [if_pos h]; exact .inl (by omega)
  · rw [if_neg h]; exact .inr ⟨by omega, by omega⟩
  · rw [if_pos h]; omega
  · rw [if_neg h]; omega
theorem szReplyS_all (a : Option Addr) (n cap : Nat) (l : Int) (w : World) (hn : n ≤ maxLen) (l1 : 0 ≤ l) (l2 : l ≤ 1048576) :
    Calls Try.prog 45 #[.slice a n cap, .int .i64 l] w fun e w' => ∃ v : Int, e = .returned (.int .i64 v) ∧ (v < 0 ∨ (0 ≤ v ∧ n ≤ 1048576)) ∧ v ≤ 1048576 ∧ Below w.heap.size w w' := by
  refine (szReplyS_any a cap n l w hn l1 l2).mono ?_
  rintro e w1 ⟨rfl, rfl⟩
  refine ⟨_, rfl, ?_, ?_, Below.refl _ _⟩ <;> by_cases h : l - (n : Int) < 0
  · rw [if_pos h]; exact .inl (by omega)
  · rw [if_neg h]; exact .inr ⟨by omega, by omega⟩
  · rw [if_pos h]; omega
  · rw [if_neg h]; omega
theorem BxV.n7 {w wr : World} {x0 x1 x2 x3 x4 x5 x6 : Value} {T : TypeId} (h : BxV w wr #[x0, x1, x2, x3, x4, x5, x6] T) : wr.cell? ⟨w.heap.size, 0, none⟩ = some x0 ∧ wr.cell? ⟨w.heap.size, 1, none⟩ = some x1 ∧ wr.cell? ⟨w.heap.size, 2, none⟩ = some x2 ∧ wr.cell? ⟨w.heap.size, 3, none⟩ = some x3 ∧ wr.cell? ⟨w.heap.size, 4, none⟩ = some x4 ∧ wr.cell? ⟨w.heap.size, 5, none⟩ = some x5 ∧ wr.cell? ⟨w.heap.size, 6, none⟩ = some x6 :=
  ⟨(cell_of_row wr _ _ _ _ _ h.row).trans rfl, (cell_of_row wr _ _ _ _ _ h.row).trans rfl, (cell_of_row wr _ _ _ _ _ h.row).trans rfl, (cell_of_row wr _ _ _ _ _ h.row).trans rfl, (cell_of_row wr _ _ _ _ _ h.row).trans rfl, (cell_of_row wr _ _ _ _ _ h.row).trans rfl, (cell_of_row wr _ _ _ _ _ h.row).trans rfl⟩
theorem bxv14 {w w4 wr : World} {x0 x1 x2 x3 x4 x5 x6 y0 y1 y2 y3 y4 y5 y6 : Value} {T T' : TypeId} (h : BxV w wr #[x0, x1, x2, x3, x4, x5, x6] T) (k : BxV w4 wr #[y0, y1, y2, y3, y4, y5, y6] T') : wr.cell? ⟨w.heap.size, 0, none⟩ = some x0 ∧ wr.cell? ⟨w.heap.size, 1, none⟩ = some x1 ∧ wr.cell? ⟨w.heap.size, 2, none⟩ = some x2 ∧ wr.cell? ⟨w.heap.size, 3, none⟩ = some x3 ∧ wr.cell? ⟨w.heap.size, 4, none⟩ = some x4 ∧ wr.cell? ⟨w.heap.size, 5, none⟩ = some x5 ∧ wr.cell? ⟨w.heap.size, 6, none⟩ = some x6 ∧ wr.cell? ⟨w4.heap.size, 0, none⟩ = some y0 ∧ wr.cell? ⟨w4.heap.size, 1, none⟩ = some y1 ∧ wr.cell? ⟨w4.heap.size, 2, none⟩ = some y2 ∧ wr.cell? ⟨w4.heap.size, 3, none⟩ = some y3 ∧ wr.cell? ⟨w4.heap.size, 4, none⟩ = some y4 ∧ wr.cell? ⟨w4.heap.size, 5, none⟩ = some y5 ∧ wr.cell? ⟨w4.heap.size, 6, none⟩ = some y6 :=
  ⟨h.n7.1, h.n7.2.1, h.n7.2.2.1, h.n7.2.2.2.1, h.n7.2.2.2.2.1, h.n7.2.2.2.2.2.1, h.n7.2.2.2.2.2.2, k.n7.1, k.n7.2.1, k.n7.2.2.1, k.n7.2.2.2.1, k.n7.2.2.2.2.1, k.n7.2.2.2.2.2.1, k.n7.2.2.2.2.2.2⟩
set_option maxHeartbeats 1600000 in
theorem szNet_any (b d ttl : Int) (ap am ag ar : Option Addr) (cp cm cg cr : Nat) (ps : List Pr) (ms : List Mg) (gs : List Int) (rs : List Rp) (w : World) (hp : ps.length ≤ maxLen) (hm : ms.length ≤ maxLen) (hg : gs.length ≤ maxLen) (hq : rs.length ≤ maxLen) (hr : NetAt w ap am ag ar ps ms gs rs) :
    Calls Try.prog 15 #[.agg #[.int .i64 b, .int .i64 d, .slice ap ps.length cp, .int .i64 ttl, .slice am ms.length cm, .slice ag gs.length cg, .slice ar rs.length cr], .int .i64 1048576] w fun e w' => ∃ v : Int, e = .returned (.int .i64 v) ∧ (v < 0 ∨ BigN ps ms gs rs) ∧ Below w.heap.size w w' := by
  have HR : Hid (NetAt w ap am ag ar ps ms gs rs) := hr
  clear hr
  go_enter Try.func15, Try.ntmps15
  go_wp2_with fail
  refine (szPeers_all b d ap cp ps _ hp (HR.out.keep (belA _ _)).p).mono ?_
  rintro e w1 ⟨v1, rfl, hv1, u1, HW⟩
  have BX1 : Hid (BxV w w1 #[.int .i64 b, .int .i64 d, .slice ap ps.length cp, .int .i64 ttl, .slice am ms.length cm, .slice ag gs.length cg, .slice ar rs.length cr] 48) := bxV1 HW
  have BEL1 : Hid (Below w.heap.size w w1) := belt (belA _ _) HW
  clear HW
  obtain ⟨q0, q1, q2, q3, q4, q5, q6⟩ := BX1.out.n7
  by_cases hn1 : v1 < 0
  · go_wp2
    go_ret
    exact ⟨-1, rfl, .inl (by omega), BEL1.out⟩
  have z1 : 0 ≤ v1 := by omega
  have HP : Hid (ps.length + bsum ps ≤ 1048576) := by
    rcases hv1 with h | h
    · exact absurd h hn1
    · exact h.2
  clear hv1
  go_wp2_with fail
  refine (szMsgS_any am cm ms v1 _ hm z1 u1 (HR.out.keep BEL1.out).m).mono ?_
  rintro e w2 ⟨v2, rfl, hv2, _, u2, HW⟩
  have BX2 : Hid (BxV w w2 #[.int .i64 b, .int .i64 d, .slice ap ps.length cp, .int .i64 ttl, .slice am ms.length cm, .slice ag gs.length cg, .slice ar rs.length cr] 48) := BX1.out.keep HW
  have BEL2 : Hid (Below w.heap.size w w2) := belt BEL1.out HW
  clear HW q0 q1 q2 q3 q4 q5 q6 BX1 BEL1 u1 z1 hn1
  obtain ⟨q0, q1, q2, q3, q4, q5, q6⟩ := BX2.out.n7
  by_cases hn1 : v2 < 0
  · go_wp2
    go_ret
    exact ⟨-1, rfl, .inl (by omega), BEL2.out⟩
  have z1 : 0 ≤ v2 := by omega
  have HM : Hid (ms.length + lsum ms ≤ 1048576) := by
    rcases hv2 with h | h
    · exact absurd h hn1
    · exact h.2
  clear hv2
  go_wp2_with fail
  refine (szIntS_all ag gs.length cg v2 _ hg z1 u2).mono ?_
  rintro e w3 ⟨v3, rfl, hv3, u3, HW⟩
  have BX3 : Hid (BxV w w3 #[.int .i64 b, .int .i64 d, .slice ap ps.length cp, .int .i64 ttl, .slice am ms.length cm, .slice ag gs.length cg, .slice ar rs.length cr] 48) := BX2.out.keep HW
  have BEL3 : Hid (Below w.heap.size w w3) := belt BEL2.out HW
  clear HW q0 q1 q2 q3 q4 q5 q6 BX2 BEL2 u2 z1 hn1
  obtain ⟨q0, q1, q2, q3, q4, q5, q6⟩ := BX3.out.n7
  by_cases hn1 : v3 < 0
  · go_wp2
    go_ret
    exact ⟨-1, rfl, .inl (by omega), BEL3.out⟩
  have z1 : 0 ≤ v3 := by omega
  have HG : Hid (gs.length ≤ 1048576) := by
    rcases hv3 with h | h
    · exact absurd h hn1
    · exact h.2
  clear hv3
  go_wp2_with fail
  refine (szReplyS_all ar rs.length cr v3 _ hq z1 u3).mono ?_
  rintro e w4 ⟨v4, rfl, hv4, u4, HW⟩
  have BEL4 : Hid (Below w.heap.size w w4) := belt BEL3.out HW
  clear HW q0 q1 q2 q3 q4 q5 q6 BX3 BEL3 u3 z1 hn1
  by_cases hn1 : v4 < 0
  · go_wp2
    go_ret
    exact ⟨-1, rfl, .inl (by omega), BEL4.out⟩
  have HQ : Hid (BigN ps ms gs rs) := by
    rcases hv4 with h | h
    · exact absurd h hn1
    · exact ⟨HP.out, HM.out, HG.out, h.2⟩
  clear hv4
  go_wp2
  go_ret
  exact ⟨v4, rfl, .inr HQ.out, BEL4.out⟩
set_option maxHeartbeats 1600000 in
theorem eqNet_same (b d ttl : Int) (ap am ag ar ap' am' ag' ar' : Option Addr) (cp cm cg cr cp' cm' cg' cr' : Nat) (ps : List Pr) (ms : List Mg) (gs : List Int) (rs : List Rp) (w : World) (hb : BigN ps ms gs rs) (hx : NetAt w ap am ag ar ps ms gs rs) (hy : NetAt w ap' am' ag' ar' ps ms gs rs) :
    Calls Try.prog 10 #[.agg #[.int .i64 b, .int .i64 d, .slice ap ps.length cp, .int .i64 ttl, .slice am ms.length cm, .slice ag gs.length cg, .slice ar rs.length cr], .agg #[.int .i64 b, .int .i64 d, .slice ap' ps.length cp', .int .i64 ttl, .slice am' ms.length cm', .slice ag' gs.length cg', .slice ar' rs.length cr']] w fun e w' => e = .returned (.bool true) ∧ Below w.heap.size w w' := by
  have HB : Hid (BigN ps ms gs rs) := hb
  have HX : Hid (NetAt w ap am ag ar ps ms gs rs) := hx
  have HY : Hid (NetAt w ap' am' ag' ar' ps ms gs rs) := hy
  have BEL0 : Hid (Below w.heap.size w ((w.alloc (.cells #[.int .i64 b, .int .i64 d, .slice ap ps.length cp, .int .i64 ttl, .slice am ms.length cm, .slice ag gs.length cg, .slice ar rs.length cr] 36)).alloc (.cells #[.int .i64 b, .int .i64 d, .slice ap' ps.length cp', .int .i64 ttl, .slice am' ms.length cm', .slice ag' gs.length cg', .slice ar' rs.length cr'] 36))) := ((Below.refl _ _).alloc (Nat.le_refl _) _).alloc (by simp) _
  clear hb hx hy
  go_enter Try.func10, Try.ntmps10
  go_wp2_with fail
  refine (eqPeers_own b d ap ap' cp cp' ps.length ps _ rfl (by have := HB.out.p; omega) (HX.out.keep BEL0.out).p (HY.out.keep BEL0.out).p).mono ?_
  rintro e w1 ⟨rfl, HW⟩
  have BX1 : Hid (BxV w w1 #[.int .i64 b, .int .i64 d, .slice ap ps.length cp, .int .i64 ttl, .slice am ms.length cm, .slice ag gs.length cg, .slice ar rs.length cr] 36) := (BxV.keep ⟨(heap_alloc_old _ _ (by simp)).trans (heap_alloc_new _ _)⟩ HW)
  have BY1 : Hid (BxV (w.alloc (.cells #[.int .i64 b, .int .i64 d, .slice ap ps.length cp, .int .i64 ttl, .slice am ms.length cm, .slice ag gs.length cg, .slice ar rs.length cr] 36)) w1 #[.int .i64 b, .int .i64 d, .slice ap' ps.length cp', .int .i64 ttl, .slice am' ms.length cm', .slice ag' gs.length cg', .slice ar' rs.length cr'] 36) := bxV1 HW
  have BEL1 : Hid (Below w.heap.size w w1) := belt BEL0.out HW
  clear HW BEL0
  obtain ⟨q0, q1, q2, q3, q4, q5, q6⟩ := BX1.out.n7
  obtain ⟨p0, p1, p2, p3, p4, p5, p6⟩ := BY1.out.n7
  simp only [World.size_alloc] at p0 p1 p2 p3 p4 p5 p6
  go_wp2_with fail
  refine (eqMsgS_same am am' cm cm' ms _ HB.out.m (HX.out.keep BEL1.out).m (HY.out.keep BEL1.out).m).mono ?_
  rintro e w2 ⟨rfl, HW⟩
  have BX2 : Hid (BxV w w2 #[.int .i64 b, .int .i64 d, .slice ap ps.length cp, .int .i64 ttl, .slice am ms.length cm, .slice ag gs.length cg, .slice ar rs.length cr] 36) := BX1.out.keep HW
  have BY2 : Hid (BxV (w.alloc (.cells #[.int .i64 b, .int .i64 d, .slice ap ps.length cp, .int .i64 ttl, .slice am ms.length cm, .slice ag gs.length cg, .slice ar rs.length cr] 36)) w2 #[.int .i64 b, .int .i64 d, .slice ap' ps.length cp', .int .i64 ttl, .slice am' ms.length cm', .slice ag' gs.length cg', .slice ar' rs.length cr'] 36) := BY1.out.keep HW
  have BEL2 : Hid (Below w.heap.size w w2) := belt BEL1.out HW
  clear HW BX1 BY1 BEL1 q0 q1 q2 q3 q4 q5 q6 p0 p1 p2 p3 p4 p5 p6
  obtain ⟨q0, q1, q2, q3, q4, q5, q6⟩ := BX2.out.n7
  obtain ⟨p0, p1, p2, p3, p4, p5, p6⟩ := BY2.out.n7
  simp only [World.size_alloc] at p0 p1 p2 p3 p4 p5 p6
  go_wp2_with fail
  refine (eqIntS_own ag ag' cg cg' gs.length gs _ rfl HB.out.g (HX.out.keep BEL2.out).g (HY.out.keep BEL2.out).g).mono ?_
  rintro e w3 ⟨rfl, HW⟩
  have BX3 : Hid (BxV w w3 #[.int .i64 b, .int .i64 d, .slice ap ps.length cp, .int .i64 ttl, .slice am ms.length cm, .slice ag gs.length cg, .slice ar rs.length cr] 36) := BX2.out.keep HW
  have BY3 : Hid (BxV (w.alloc (.cells #[.int .i64 b, .int .i64 d, .slice ap ps.length cp, .int .i64 ttl, .slice am ms.length cm, .slice ag gs.length cg, .slice ar rs.length cr] 36)) w3 #[.int .i64 b, .int .i64 d, .slice ap' ps.length cp', .int .i64 ttl, .slice am' ms.length cm', .slice ag' gs.length cg', .slice ar' rs.length cr'] 36) := BY2.out.keep HW
  have BEL3 : Hid (Below w.heap.size w w3) := belt BEL2.out HW
  clear HW BX2 BY2 BEL2 q0 q1 q2 q3 q4 q5 q6 p0 p1 p2 p3 p4 p5 p6
  obtain ⟨q0, q1, q2, q3, q4, q5, q6⟩ := BX3.out.n7
  obtain ⟨p0, p1, p2, p3, p4, p5, p6⟩ := BY3.out.n7
  simp only [World.size_alloc] at p0 p1 p2 p3 p4 p5 p6
  go_wp2_with fail
  refine (eqReplyS_same ar ar' cr cr' rs _ HB.out.r (HX.out.keep BEL3.out).r (HY.out.keep BEL3.out).r).mono ?_
  rintro e w4 ⟨rfl, HW⟩
  have BX4 : Hid (BxV w w4 #[.int .i64 b, .int .i64 d, .slice ap ps.length cp, .int .i64 ttl, .slice am ms.length cm, .slice ag gs.length cg, .slice ar rs.length cr] 36) := BX3.out.keep HW
  have BY4 : Hid (BxV (w.alloc (.cells #[.int .i64 b, .int .i64 d, .slice ap ps.length cp, .int .i64 ttl, .slice am ms.length cm, .slice ag gs.length cg, .slice ar rs.length cr] 36)) w4 #[.int .i64 b, .int .i64 d, .slice ap' ps.length cp', .int .i64 ttl, .slice am' ms.length cm', .slice ag' gs.length cg', .slice ar' rs.length cr'] 36) := BY3.out.keep HW
  have BEL4 : Hid (Below w.heap.size w w4) := belt BEL3.out HW
  clear HW BX3 BY3 BEL3 q0 q1 q2 q3 q4 q5 q6 p0 p1 p2 p3 p4 p5 p6
  go_wp2
  go_ret
  exact ⟨rfl, BEL4.out⟩
end Go.Proofs.Ytioiacmaijgdoaa
namespace Go.Proofs.Ytioiacmaijgdoaa
open Go.RowKit
set_option linter.unusedVariables false
set_option linter.unusedSimpArgs false
/-- a net of one's own: each of its lists among blocks of its own -/
structure OwnN (B T : Nat) (w : World) (ap am ag ar : Option Addr) (np nm ng nr : Nat) (ps : List Pr) (ms : List Mg) (gs : List Int) (rs : List Rp) : Prop where
  ex : ∃ p0 p1 m0 m1 g0 g1 r0 r1 : Nat, (B ≤ p0 ∧ p0 ≤ p1 ∧ p1 ≤ T ∧ B ≤ m0 ∧ m1 ≤ T ∧ B ≤ g0 ∧ g1 ≤ T ∧ B ≤ r0 ∧ r1 ≤ T) ∧ ((p1 ≤ m0 ∨ m1 ≤ p0) ∧ (p1 ≤ g0 ∨ g1 ≤ p0) ∧ (p1 ≤ r0 ∨ r1 ≤ p0) ∧ (m1 ≤ g0 ∨ g1 ≤ m0) ∧ (m1 ≤ r0 ∨ r1 ≤ m0) ∧ (g1 ≤ r0 ∨ r1 ≤ g0)) ∧
    OwnPs p0 p1 w ap np ps ∧ OwnEs tyMg 82 m0 m1 w am nm ms ∧ OwnLs g0 g1 w ag ng gs ∧ OwnEs tyRp 86 r0 r1 w ar nr rs
theorem OwnN.at {B T : Nat} {w : World} {ap am ag ar : Option Addr} {np nm ng nr : Nat} {ps : List Pr} {ms : List Mg} {gs : List Int} {rs : List Rp} (h : OwnN B T w ap am ag ar np nm ng nr ps ms gs rs) : NetAt w ap am ag ar ps ms gs rs := by
  obtain ⟨p0, p1, m0, m1, g0, g1, r0, r1, _, _, h1, h2, h3, h4⟩ := h.ex
  exact ⟨h1.peersAt, h2.at, h3.rowAt, h4.at⟩
theorem OwnN.blocks {B T : Nat} {w w1 : World} {ap am ag ar : Option Addr} {np nm ng nr : Nat} {ps : List Pr} {ms : List Mg} {gs : List Int} {rs : List Rp} (h : OwnN B T w ap am ag ar np nm ng nr ps ms gs rs) (hb : ∀ k, B ≤ k → k < T → k < w.heap.size → w1.heap[k]? = w.heap[k]?) : OwnN B T w1 ap am ag ar np nm ng nr ps ms gs rs := by
  obtain ⟨p0, p1, m0, m1, g0, g1, r0, r1, hr, hd, h1, h2, h3, h4⟩ := h.ex
  exact ⟨⟨p0, p1, m0, m1, g0, g1, r0, r1, hr, hd, h1.blocks (fun k a1 a2 a3 => hb k (by omega) (by omega) a3), h2.blocks (fun k a1 a2 a3 => hb k (by omega) (by omega) a3), h3.blocks (fun k a1 a2 a3 => hb k (by omega) (by omega) a3), h4.blocks (fun k a1 a2 a3 => hb k (by omega) (by omega) a3)⟩⟩
theorem OwnN.keep {B T : Nat} {w w1 : World} {ap am ag ar : Option Addr} {np nm ng nr : Nat} {ps : List Pr} {ms : List Mg} {gs : List Int} {rs : List Rp} (h : OwnN B T w ap am ag ar np nm ng nr ps ms gs rs) (hb : Below w.heap.size w w1) : OwnN B T w1 ap am ag ar np nm ng nr ps ms gs rs := h.blocks (fun k _ _ hk => hb.block k hk)
theorem OwnN.mkd {B T B' T' : Nat} {w w1 : World} {ap am ag ar : Option Addr} {np nm ng nr : Nat} {ps : List Pr} {ms : List Mg} {gs : List Int} {rs : List Rp} (h : OwnN B T w ap am ag ar np nm ng nr ps ms gs rs) (m : Mk B' T' w w1) (hd : T ≤ B' ∨ T' ≤ B) : OwnN B T w1 ap am ag ar np nm ng nr ps ms gs rs := h.blocks (fun k h1 h2 hk => m.block k hk (by omega))
theorem OwnN.wide {B T B' T' : Nat} {w : World} {ap am ag ar : Option Addr} {np nm ng nr : Nat} {ps : List Pr} {ms : List Mg} {gs : List Int} {rs : List Rp} (h : OwnN B T w ap am ag ar np nm ng nr ps ms gs rs) (hB : B' ≤ B) (hT : T ≤ T') : OwnN B' T' w ap am ag ar np nm ng nr ps ms gs rs := by
  obtain ⟨p0, p1, m0, m1, g0, g1, r0, r1, hr, hd, h1, h2, h3, h4⟩ := h.ex
  exact ⟨⟨p0, p1, m0, m1, g0, g1, r0, r1, by omega, hd, h1, h2, h3, h4⟩⟩
theorem Mk.trans {B T : Nat} {w w1 w2 : World} (h : Mk B T w w1) (k : Mk B T w1 w2) : Mk B T w w2 :=
  ⟨fun n w0 hn hb => k.below n w0 hn (h.below n w0 hn hb), fun i hi hn => (k.block i (Nat.lt_of_lt_of_le hi h.size) hn).trans (h.block i hi hn), Nat.le_trans h.size k.size⟩
theorem within_mk {B T : Nat} {w w1 : World} (h : Within B T w w1) : Mk B T w w1 := ⟨fun n w0 hn hb => h.below hb hn, fun k hk hn => h.block k hn, by rw [h.size]; exact Nat.le_refl _⟩
theorem markMsgS_empty (a : Option Addr) (cap : Nat) (k0 : Int) (w : World) :
    Calls Try.prog 38 #[.slice a 0 cap, .int .i64 k0] w fun e w' => e = .returned (.int .i64 k0) ∧ w' = w := by
  go_enter Try.func38, Try.ntmps38
  go_wp2
  go_loop [1, 5] (fun k i => i = .int .i64 0 ∧ k = .int .i64 k0) (fun _ i => 0)
  case atStart => exact ⟨rfl, rfl⟩
  case round =>
    obtain ⟨rfl, rfl⟩ := hrel
    go_wp2
    go_ret
    exact ⟨rfl, rfl⟩
theorem markReplyS_empty (a : Option Addr) (cap : Nat) (k0 : Int) (w : World) :
    Calls Try.prog 39 #[.slice a 0 cap, .int .i64 k0] w fun e w' => e = .returned (.int .i64 k0) ∧ w' = w := by
  go_enter Try.func39, Try.ntmps39
  go_wp2
  go_loop [1, 5] (fun k i => i = .int .i64 0 ∧ k = .int .i64 k0) (fun _ i => 0)
  case atStart => exact ⟨rfl, rfl⟩
  case round =>
    obtain ⟨rfl, rfl⟩ := hrel
    go_wp2
    go_ret
    exact ⟨rfl, rfl⟩
theorem markMsgS_own (B T cap : Nat) (a : Option Addr) (n : Nat) (ms : List Mg) (k0 : Int) (w : World) (hb : ms.length + lsum ms ≤ 1048576) (k1 : 0 ≤ k0) (k2 : k0 ≤ 1000000000000) (h : OwnEs tyMg 82 B T w a n ms) :
    Calls Try.prog 38 #[.slice a n cap, .int .i64 k0] w fun e w' => e = .returned (.int .i64 (kM k0 ms n)) ∧ Mk B T w w' ∧ OwnEs tyMg 82 B T w' a n (mrkM k0 ms) := by
  obtain ⟨rfl, hn, ho⟩ := h
  rcases ho with he | ⟨g, F, cap0, rfl, hF, os⟩
  · have he' : ms = [] := he
    subst he'
    refine (markMsgS_empty a cap k0 w).mono ?_
    rintro e w1 ⟨rfl, rfl⟩
    exact ⟨by show _ = Ending.returned (.int .i64 (kM k0 [] 0)); rw [kM_zero], Mk.refl _ _ _, rfl, hn, .inl rfl⟩
  · refine (markMsgS_any B T g cap0 cap ms F k0 w hb k1 k2 os hF).mono ?_
    rintro e w1 ⟨rfl, wi, os1⟩
    exact ⟨rfl, within_mk wi, mrkM_len _ _, hn, .inr ⟨g, F, cap0, rfl, hF, os1⟩⟩
theorem markReplyS_own (B T cap : Nat) (a : Option Addr) (n : Nat) (ms : List Rp) (k0 : Int) (w : World) (k1 : 0 ≤ k0) (k2 : k0 ≤ 1000000000000) (h : OwnEs tyRp 86 B T w a n ms) :
    Calls Try.prog 39 #[.slice a n cap, .int .i64 k0] w fun e w' => e = .returned (.int .i64 (k0 + 5 * (n : Int))) ∧ Mk B T w w' ∧ OwnEs tyRp 86 B T w' a n (mrkR k0 ms) := by
  obtain ⟨rfl, hn, ho⟩ := h
  rcases ho with he | ⟨g, F, cap0, rfl, hF, os⟩
  · have he' : ms = [] := he
    subst he'
    refine (markReplyS_empty a cap k0 w).mono ?_
    rintro e w1 ⟨rfl, rfl⟩
    exact ⟨by show _ = Ending.returned (.int .i64 (k0 + 5 * ((0 : Nat) : Int))); simp, Mk.refl _ _ _, rfl, hn, .inl rfl⟩
  · refine (markReplyS_any B T g cap0 cap ms F k0 w hn k1 k2 os hF).mono ?_
    rintro e w1 ⟨rfl, wi, os1⟩
    exact ⟨rfl, within_mk wi, mrkR_len _ _, hn, .inr ⟨g, F, cap0, rfl, hF, os1⟩⟩
def kN1 (k : Int) (ps : List Pr) : Int := kAt k ps ps.length
def kN2 (k : Int) (ps : List Pr) (ms : List Mg) : Int := kM (kN1 k ps) ms ms.length
def kN3 (k : Int) (ps : List Pr) (ms : List Mg) (gs : List Int) : Int := kN2 k ps ms + (gs.length : Int)
def kN4 (k : Int) (ps : List Pr) (ms : List Mg) (gs : List Int) (rs : List Rp) : Int := kN3 k ps ms gs + 5 * (rs.length : Int)
theorem kN_bd {k : Int} {ps : List Pr} {ms : List Mg} {gs : List Int} {rs : List Rp} (hb : BigN ps ms gs rs) (k1 : 0 ≤ k) (k2 : k ≤ 1000) : (0 ≤ kN1 k ps ∧ kN1 k ps ≤ 100000000) ∧ (0 ≤ kN2 k ps ms ∧ kN2 k ps ms ≤ 100000000) ∧ (0 ≤ kN3 k ps ms gs ∧ kN3 k ps ms gs ≤ 100000000) ∧ 0 ≤ kN4 k ps ms gs rs ∧ kN4 k ps ms gs rs ≤ 100000000 := by
  have h1 := kAt_bd (k := k) (Nat.le_refl ps.length) hb.p
  have h2 := kM_bd (k := kN1 k ps) ms.length hb.m
  have h3 := hb.g
  have h4 := hb.r
  unfold kN4 kN3 kN2
  unfold kN1 at h2 ⊢
  omega
set_option maxHeartbeats 3200000 in
theorem markNet_own (b d ttl : Int) (ap am ag ar : Option Addr) (cp cm cg cr : Nat) (np nm ng nr : Nat) (ps : List Pr) (ms : List Mg) (gs : List Int) (rs : List Rp) (B T : Nat) (w : World) (k0 : Int) (hb : BigN ps ms gs rs) (k1 : 0 ≤ k0) (k2 : k0 ≤ 1000) (hB : B ≤ w.heap.size) (hT : T ≤ w.heap.size) (h : OwnN B T w ap am ag ar np nm ng nr ps ms gs rs) :
    Calls Try.prog 13 #[.agg #[.int .i64 b, .int .i64 d, .slice ap np cp, .int .i64 ttl, .slice am nm cm, .slice ag ng cg, .slice ar nr cr], .int .i64 k0] w fun e w' => e = .returned (.int .i64 (kN4 k0 ps ms gs rs)) ∧ Mk B T w w' ∧ OwnN B T w' ap am ag ar np nm ng nr (mrkP k0 ps) (mrkM (kN1 k0 ps) ms) (mrk (kN2 k0 ps ms) gs ng) (mrkR (kN3 k0 ps ms gs) rs) := by
  have HBG : Hid (BigN ps ms gs rs) := hb
  obtain ⟨⟨u1, v1⟩, ⟨u2, v2⟩, ⟨u3, v3⟩, _, _⟩ := kN_bd hb k1 k2
  obtain ⟨p0, p1, m0, m1, g0, g1, r0, r1, hr, hd, hp, hm, hg, hq⟩ := (h.keep (belA w (.cells #[.int .i64 b, .int .i64 d, .slice ap np cp, .int .i64 ttl, .slice am nm cm, .slice ag ng cg, .slice ar nr cr] 36))).ex
  have HR : Hid (B ≤ p0 ∧ p0 ≤ p1 ∧ p1 ≤ T ∧ B ≤ m0 ∧ m1 ≤ T ∧ B ≤ g0 ∧ g1 ≤ T ∧ B ≤ r0 ∧ r1 ≤ T) := hr
  have HD : Hid ((p1 ≤ m0 ∨ m1 ≤ p0) ∧ (p1 ≤ g0 ∨ g1 ≤ p0) ∧ (p1 ≤ r0 ∨ r1 ≤ p0) ∧ (m1 ≤ g0 ∨ g1 ≤ m0) ∧ (m1 ≤ r0 ∨ r1 ≤ m0) ∧ (g1 ≤ r0 ∨ r1 ≤ g0)) := hd
  obtain rfl : ps.length = np := hp.1
  obtain rfl : ms.length = nm := hm.1
  obtain rfl : gs.length = ng := hg.1
  obtain rfl : rs.length = nr := hq.1
  have HP : Hid (OwnPs p0 p1 (w.alloc (.cells #[.int .i64 b, .int .i64 d, .slice ap ps.length cp, .int .i64 ttl, .slice am ms.length cm, .slice ag gs.length cg, .slice ar rs.length cr] 36)) ap ps.length ps) := hp
  have HM : Hid (OwnEs tyMg 82 m0 m1 (w.alloc (.cells #[.int .i64 b, .int .i64 d, .slice ap ps.length cp, .int .i64 ttl, .slice am ms.length cm, .slice ag gs.length cg, .slice ar rs.length cr] 36)) am ms.length ms) := hm
  have HG : Hid (OwnLs g0 g1 (w.alloc (.cells #[.int .i64 b, .int .i64 d, .slice ap ps.length cp, .int .i64 ttl, .slice am ms.length cm, .slice ag gs.length cg, .slice ar rs.length cr] 36)) ag gs.length gs) := hg
  have HQ : Hid (OwnEs tyRp 86 r0 r1 (w.alloc (.cells #[.int .i64 b, .int .i64 d, .slice ap ps.length cp, .int .i64 ttl, .slice am ms.length cm, .slice ag gs.length cg, .slice ar rs.length cr] 36)) ar rs.length rs) := hq
  have HT0 : Hid (B ≤ w.heap.size ∧ T ≤ w.heap.size) := ⟨hB, hT⟩
  have HBX0 : Hid (BxV w (w.alloc (.cells #[.int .i64 b, .int .i64 d, .slice ap ps.length cp, .int .i64 ttl, .slice am ms.length cm, .slice ag gs.length cg, .slice ar rs.length cr] 36)) #[.int .i64 b, .int .i64 d, .slice ap ps.length cp, .int .i64 ttl, .slice am ms.length cm, .slice ag gs.length cg, .slice ar rs.length cr] 36) := ⟨heap_alloc_new _ _⟩
  have HK0 : Hid (Mk B T w (w.alloc (.cells #[.int .i64 b, .int .i64 d, .slice ap ps.length cp, .int .i64 ttl, .slice am ms.length cm, .slice ag gs.length cg, .slice ar rs.length cr] 36))) := mk_below (belA _ _) hB
  clear h hr hd hp hm hg hq hB hT hb
  go_enter Try.func13, Try.ntmps13
  go_wp2_with fail
  refine (markPeers_own b d p0 p1 cp ap ps.length ps k0 _ HBG.out.p k1 (by omega) (by have := HT0.out; have := HR.out; simp; omega) (by have := HT0.out; have := HR.out; simp; omega) HP.out).mono ?_
  rintro e w1 ⟨rfl, MK, OO⟩
  have HMx : Hid (OwnEs tyMg 82 m0 m1 w1 am ms.length ms) := HM.out.mkd MK (by have := HD.out; omega)
  have HGx : Hid (OwnLs g0 g1 w1 ag gs.length gs) := HG.out.mkd MK (by have := HD.out; omega)
  have HQx : Hid (OwnEs tyRp 86 r0 r1 w1 ar rs.length rs) := HQ.out.mkd MK (by have := HD.out; omega)
  have HPx : Hid (OwnPs p0 p1 w1 ap ps.length (mrkP k0 ps)) := OO
  have HBXx : Hid (BxV w w1 #[.int .i64 b, .int .i64 d, .slice ap ps.length cp, .int .i64 ttl, .slice am ms.length cm, .slice ag gs.length cg, .slice ar rs.length cr] 36) := HBX0.out.mkd MK (by have := HT0.out; have := HR.out; omega)
  have HKx : Hid (Mk B T w w1) := HK0.out.trans (MK.wide (by have := HR.out; omega) (by have := HR.out; omega))
  clear MK OO HP HM HG HQ HBX0 HK0
  have HP : Hid (OwnPs p0 p1 w1 ap ps.length (mrkP k0 ps)) := HPx.out
  have HM : Hid (OwnEs tyMg 82 m0 m1 w1 am ms.length ms) := HMx.out
  have HG : Hid (OwnLs g0 g1 w1 ag gs.length gs) := HGx.out
  have HQ : Hid (OwnEs tyRp 86 r0 r1 w1 ar rs.length rs) := HQx.out
  have HBX0 : Hid (BxV w w1 #[.int .i64 b, .int .i64 d, .slice ap ps.length cp, .int .i64 ttl, .slice am ms.length cm, .slice ag gs.length cg, .slice ar rs.length cr] 36) := HBXx.out
  have HK0 : Hid (Mk B T w w1) := HKx.out
  clear HPx HMx HGx HQx HBXx HKx
  obtain ⟨q0, q1, q2, q3, q4, q5, q6⟩ := HBX0.out.n7
  go_wp2_with fail
  clear q0 q1 q2 q3 q4 q5 q6
  refine (markMsgS_own m0 m1 cm am ms.length ms (kN1 k0 ps) _ HBG.out.m u1 (by omega) HM.out).mono ?_
  rintro e w2 ⟨rfl, MK, OO⟩
  have HPx : Hid (OwnPs p0 p1 w2 ap ps.length (mrkP k0 ps)) := HP.out.mkd MK (by have := HD.out; omega)
  have HGx : Hid (OwnLs g0 g1 w2 ag gs.length gs) := HG.out.mkd MK (by have := HD.out; omega)
  have HQx : Hid (OwnEs tyRp 86 r0 r1 w2 ar rs.length rs) := HQ.out.mkd MK (by have := HD.out; omega)
  have HMx : Hid (OwnEs tyMg 82 m0 m1 w2 am ms.length (mrkM (kN1 k0 ps) ms)) := OO
  have HBXx : Hid (BxV w w2 #[.int .i64 b, .int .i64 d, .slice ap ps.length cp, .int .i64 ttl, .slice am ms.length cm, .slice ag gs.length cg, .slice ar rs.length cr] 36) := HBX0.out.mkd MK (by have := HT0.out; have := HR.out; omega)
  have HKx : Hid (Mk B T w w2) := HK0.out.trans (MK.wide (by have := HR.out; omega) (by have := HR.out; omega))
  clear MK OO HP HM HG HQ HBX0 HK0
  have HP : Hid (OwnPs p0 p1 w2 ap ps.length (mrkP k0 ps)) := HPx.out
  have HM : Hid (OwnEs tyMg 82 m0 m1 w2 am ms.length (mrkM (kN1 k0 ps) ms)) := HMx.out
  have HG : Hid (OwnLs g0 g1 w2 ag gs.length gs) := HGx.out
  have HQ : Hid (OwnEs tyRp 86 r0 r1 w2 ar rs.length rs) := HQx.out
  have HBX0 : Hid (BxV w w2 #[.int .i64 b, .int .i64 d, .slice ap ps.length cp, .int .i64 ttl, .slice am ms.length cm, .slice ag gs.length cg, .slice ar rs.length cr] 36) := HBXx.out
  have HK0 : Hid (Mk B T w w2) := HKx.out
  clear HPx HMx HGx HQx HBXx HKx
  obtain ⟨q0, q1, q2, q3, q4, q5, q6⟩ := HBX0.out.n7
  go_wp2_with fail
  clear q0 q1 q2 q3 q4 q5 q6
  refine (markIntS_own g0 g1 cg ag gs.length gs (kN2 k0 ps ms) _ HBG.out.g u2 (by omega) HG.out).mono ?_
  rintro e w3 ⟨rfl, MK, OO⟩
  have HPx : Hid (OwnPs p0 p1 w3 ap ps.length (mrkP k0 ps)) := HP.out.mkd MK (by have := HD.out; omega)
  have HMx : Hid (OwnEs tyMg 82 m0 m1 w3 am ms.length (mrkM (kN1 k0 ps) ms)) := HM.out.mkd MK (by have := HD.out; omega)
  have HQx : Hid (OwnEs tyRp 86 r0 r1 w3 ar rs.length rs) := HQ.out.mkd MK (by have := HD.out; omega)
  have HGx : Hid (OwnLs g0 g1 w3 ag gs.length (mrk (kN2 k0 ps ms) gs gs.length)) := OO
  have HBXx : Hid (BxV w w3 #[.int .i64 b, .int .i64 d, .slice ap ps.length cp, .int .i64 ttl, .slice am ms.length cm, .slice ag gs.length cg, .slice ar rs.length cr] 36) := HBX0.out.mkd MK (by have := HT0.out; have := HR.out; omega)
  have HKx : Hid (Mk B T w w3) := HK0.out.trans (MK.wide (by have := HR.out; omega) (by have := HR.out; omega))
  clear MK OO HP HM HG HQ HBX0 HK0
  have HP : Hid (OwnPs p0 p1 w3 ap ps.length (mrkP k0 ps)) := HPx.out
  have HM : Hid (OwnEs tyMg 82 m0 m1 w3 am ms.length (mrkM (kN1 k0 ps) ms)) := HMx.out
  have HG : Hid (OwnLs g0 g1 w3 ag gs.length (mrk (kN2 k0 ps ms) gs gs.length)) := HGx.out
  have HQ : Hid (OwnEs tyRp 86 r0 r1 w3 ar rs.length rs) := HQx.out
  have HBX0 : Hid (BxV w w3 #[.int .i64 b, .int .i64 d, .slice ap ps.length cp, .int .i64 ttl, .slice am ms.length cm, .slice ag gs.length cg, .slice ar rs.length cr] 36) := HBXx.out
  have HK0 : Hid (Mk B T w w3) := HKx.out
  clear HPx HMx HGx HQx HBXx HKx
  obtain ⟨q0, q1, q2, q3, q4, q5, q6⟩ := HBX0.out.n7
  go_wp2_with fail
  clear q0 q1 q2 q3 q4 q5 q6
  refine (markReplyS_own r0 r1 cr ar rs.length rs (kN3 k0 ps ms gs) _ u3 (by omega) HQ.out).mono ?_
  rintro e w4 ⟨rfl, MK, OO⟩
  have HPx : Hid (OwnPs p0 p1 w4 ap ps.length (mrkP k0 ps)) := HP.out.mkd MK (by have := HD.out; omega)
  have HMx : Hid (OwnEs tyMg 82 m0 m1 w4 am ms.length (mrkM (kN1 k0 ps) ms)) := HM.out.mkd MK (by have := HD.out; omega)
  have HGx : Hid (OwnLs g0 g1 w4 ag gs.length (mrk (kN2 k0 ps ms) gs gs.length)) := HG.out.mkd MK (by have := HD.out; omega)
  have HQx : Hid (OwnEs tyRp 86 r0 r1 w4 ar rs.length (mrkR (kN3 k0 ps ms gs) rs)) := OO
  have HBXx : Hid (BxV w w4 #[.int .i64 b, .int .i64 d, .slice ap ps.length cp, .int .i64 ttl, .slice am ms.length cm, .slice ag gs.length cg, .slice ar rs.length cr] 36) := HBX0.out.mkd MK (by have := HT0.out; have := HR.out; omega)
  have HKx : Hid (Mk B T w w4) := HK0.out.trans (MK.wide (by have := HR.out; omega) (by have := HR.out; omega))
  clear MK OO HP HM HG HQ HBX0 HK0
  have HP : Hid (OwnPs p0 p1 w4 ap ps.length (mrkP k0 ps)) := HPx.out
  have HM : Hid (OwnEs tyMg 82 m0 m1 w4 am ms.length (mrkM (kN1 k0 ps) ms)) := HMx.out
  have HG : Hid (OwnLs g0 g1 w4 ag gs.length (mrk (kN2 k0 ps ms) gs gs.length)) := HGx.out
  have HQ : Hid (OwnEs tyRp 86 r0 r1 w4 ar rs.length (mrkR (kN3 k0 ps ms gs) rs)) := HQx.out
  have HBX0 : Hid (BxV w w4 #[.int .i64 b, .int .i64 d, .slice ap ps.length cp, .int .i64 ttl, .slice am ms.length cm, .slice ag gs.length cg, .slice ar rs.length cr] 36) := HBXx.out
  have HK0 : Hid (Mk B T w w4) := HKx.out
  clear HPx HMx HGx HQx HBXx HKx
  go_wp2
  go_ret
  exact ⟨rfl, HK0.out, ⟨⟨p0, p1, m0, m1, g0, g1, r0, r1, HR.out, HD.out, HP.out, HM.out, HG.out, HQ.out⟩⟩⟩
set_option maxHeartbeats 3200000 in
theorem heldNet_any (b d ttl : Int) (ap am ag ar : Option Addr) (cp cm cg cr : Nat) (ps : List Pr) (ms : List Mg) (gs : List Int) (rs : List Rp) (w : World) (k0 : Int) (hb : BigN ps ms gs rs) (k1 : 0 ≤ k0) (k2 : k0 ≤ 1000) (h : NetAt w ap am ag ar (mrkP k0 ps) (mrkM (kN1 k0 ps) ms) (mrk (kN2 k0 ps ms) gs gs.length) (mrkR (kN3 k0 ps ms gs) rs)) :
    Calls Try.prog 14 #[.agg #[.int .i64 b, .int .i64 d, .slice ap ps.length cp, .int .i64 ttl, .slice am ms.length cm, .slice ag gs.length cg, .slice ar rs.length cr], .int .i64 k0] w fun e w' => e = .returned (.int .i64 (kN4 k0 ps ms gs rs)) ∧ Below w.heap.size w w' := by
  have HBG : Hid (BigN ps ms gs rs) := hb
  obtain ⟨⟨u1, v1⟩, ⟨u2, v2⟩, ⟨u3, v3⟩, _, _⟩ := kN_bd hb k1 k2
  have hn1 : ¬ kAt k0 ps ps.length < 0 := by have := u1; unfold kN1 at this; omega
  have hn2 : ¬ kM (kN1 k0 ps) ms ms.length < 0 := by have := u2; unfold kN2 at this; omega
  have hn3 : ¬ kN2 k0 ps ms + (gs.length : Int) < 0 := by have := u3; unfold kN3 at this; omega
  have HR : Hid (NetAt w ap am ag ar (mrkP k0 ps) (mrkM (kN1 k0 ps) ms) (mrk (kN2 k0 ps ms) gs gs.length) (mrkR (kN3 k0 ps ms gs) rs)) := h
  clear h hb
  go_enter Try.func14, Try.ntmps14
  go_wp2_with fail
  refine (heldPeers_any b d ap cp ps k0 _ HBG.out.p k1 (by omega) (HR.out.keep (belA _ _)).p).mono ?_
  rintro e w1 ⟨rfl, HW⟩
  have BX1 : Hid (BxV w w1 #[.int .i64 b, .int .i64 d, .slice ap ps.length cp, .int .i64 ttl, .slice am ms.length cm, .slice ag gs.length cg, .slice ar rs.length cr] 36) := bxV1 HW
  have BEL1 : Hid (Below w.heap.size w w1) := belt (belA _ _) HW
  clear HW
  obtain ⟨q0, q1, q2, q3, q4, q5, q6⟩ := BX1.out.n7
  go_wp2_with fail
  refine (heldMsgS_any am cm ms (kN1 k0 ps) _ HBG.out.m u1 (by omega) (HR.out.keep BEL1.out).m).mono ?_
  rintro e w2 ⟨rfl, he⟩
  have he' := he.symm
  subst he'
  clear he
  go_wp2_with fail
  have m1 := mrk_at' (k0 := kN2 k0 ps ms) (zs := gs) rfl
  have C := heldIntS_any ag cg (mrk (kN2 k0 ps ms) gs gs.length) (kN2 k0 ps ms) w1 (by rw [m1.1]; exact HBG.out.g) u2 (by omega) (HR.out.keep BEL1.out).g m1.2
  rw [m1.1] at C
  clear m1
  refine C.mono ?_
  rintro e w3 ⟨rfl, he⟩
  have he' := he.symm
  subst he'
  clear C he
  go_wp2_with fail
  refine (heldReplyS_any ar cr rs (kN3 k0 ps ms gs) _ HBG.out.r u3 (by omega) (HR.out.keep BEL1.out).r).mono ?_
  rintro e w4 ⟨rfl, rfl⟩
  have hn4 : ¬ kN3 k0 ps ms gs + 5 * (rs.length : Int) < 0 := by omega
  go_wp2
  go_ret
  exact ⟨rfl, BEL1.out⟩
end Go.Proofs.Ytioiacmaijgdoaa
namespace Go.Proofs.Ytioiacmaijgdoaa
open Go.RowKit
set_option linter.unusedVariables false
set_option linter.unusedSimpArgs false
/-- the copier's three blocks: what came in, the answer, the copy -/
structure TN (w wr : World) (A R O : Array Value) : Prop where
  bel : Below w.heap.size w wr
  ka : Wire.Bk wr w.heap.size A 48
  kr : Wire.Bk wr (w.heap.size + 1) R 36
  ko : Wire.Bk wr (w.heap.size + 1 + 1) O 36
theorem TN.keep {w wr w1 : World} {A R O : Array Value} (h : TN w wr A R O) (hb : Below wr.heap.size wr w1) : TN w w1 A R O := ⟨belt h.bel hb, h.ka.keep hb, h.kr.keep hb, h.ko.keep hb⟩
theorem wireOth {w : World} {g k : Nat} {C : Array Value} {T : TypeId} (h : Wire.Bk w g C T) (hk : ¬ g = k) (i : Nat) (vs : List Value) : Wire.Bk (Wire.setL w k i vs) g C T := (Wire.setL_oth hk vs w i).trans h
theorem TN.put {w wr : World} {A R O : Array Value} (h : TN w wr A R O) (i : Nat) (vs : List Value) : TN w (Wire.setL wr (w.heap.size + 1 + 1) i vs) A R (Wire.ovr O i vs) :=
  ⟨Wire.setL_below (by omega) vs i h.bel, wireOth h.ka (by omega) i vs, wireOth h.kr (by omega) i vs, h.ko.setL vs i⟩
theorem TN.res {w wr : World} {A R O : Array Value} (h : TN w wr A R O) (i : Nat) (vs : List Value) : TN w (Wire.setL wr (w.heap.size + 1) i vs) A (Wire.ovr R i vs) O :=
  ⟨Wire.setL_below (by omega) vs i h.bel, wireOth h.ka (by omega) i vs, h.kr.setL vs i, wireOth h.ko (by omega) i vs⟩
theorem tn0 (w : World) (A Z O : Array Value) : TN w (((w.alloc (.cells A 48)).alloc (.cells Z 36)).alloc (.cells O 36)) A Z O := by
  obtain ⟨h1, h2, h3, h4⟩ := Wire.bk3 (w := w) (A := A) (B := Z) (C := O) (S := 48) (T := 36) (U := 36) (Below.refl _ _)
  exact ⟨h4, h1, h2, h3⟩
theorem Wire.Bk.m7 {w : World} {g : Nat} {e0 e1 e2 e3 e4 e5 e6 : Value} {T : TypeId} (h : Wire.Bk w g #[e0, e1, e2, e3, e4, e5, e6] T) : w.cell? ⟨g, 0, none⟩ = some e0 ∧ w.cell? ⟨g, 1, none⟩ = some e1 ∧ w.cell? ⟨g, 2, none⟩ = some e2 ∧ w.cell? ⟨g, 3, none⟩ = some e3 ∧ w.cell? ⟨g, 4, none⟩ = some e4 ∧ w.cell? ⟨g, 5, none⟩ = some e5 ∧ w.cell? ⟨g, 6, none⟩ = some e6 := ⟨h.cell 0, h.cell 1, h.cell 2, h.cell 3, h.cell 4, h.cell 5, h.cell 6⟩
theorem Wire.Bk.g7 {w : World} {g : Nat} {C : Array Value} {T : TypeId} (h : Wire.Bk w g C T) : w.frozen? ⟨g, 0, none⟩ = false ∧ w.frozen? ⟨g, 1, none⟩ = false ∧ w.frozen? ⟨g, 2, none⟩ = false ∧ w.frozen? ⟨g, 3, none⟩ = false ∧ w.frozen? ⟨g, 4, none⟩ = false ∧ w.frozen? ⟨g, 5, none⟩ = false ∧ w.frozen? ⟨g, 6, none⟩ = false := ⟨h.fr 0, h.fr 1, h.fr 2, h.fr 3, h.fr 4, h.fr 5, h.fr 6⟩
theorem ovrA (z0 z1 z2 z3 z4 z5 z6 v0 v1 v2 v3 : Value) : Wire.ovr #[z0, z1, z2, z3, z4, z5, z6] 0 [v0, v1, v2, v3] = #[v0, v1, v2, v3, z4, z5, z6] := by simp [Wire.ovr]
theorem ovrB (z0 z1 z2 z3 z4 z5 z6 v : Value) : Wire.ovr #[z0, z1, z2, z3, z4, z5, z6] 4 [v] = #[z0, z1, z2, z3, v, z5, z6] := by simp [Wire.ovr]
theorem ovrC (z0 z1 z2 z3 z4 z5 z6 v : Value) : Wire.ovr #[z0, z1, z2, z3, z4, z5, z6] 5 [v] = #[z0, z1, z2, z3, z4, v, z6] := by simp [Wire.ovr]
theorem ovrD (z0 z1 z2 z3 z4 z5 z6 v : Value) : Wire.ovr #[z0, z1, z2, z3, z4, z5, z6] 6 [v] = #[z0, z1, z2, z3, z4, z5, v] := by simp [Wire.ovr]
theorem ovrE (z0 z1 z2 z3 z4 z5 z6 v0 v1 v2 v3 v4 v5 v6 : Value) : Wire.ovr #[z0, z1, z2, z3, z4, z5, z6] 0 [v0, v1, v2, v3, v4, v5, v6] = #[v0, v1, v2, v3, v4, v5, v6] := by simp [Wire.ovr]
set_option maxRecDepth 100000 in
set_option maxHeartbeats 6400000 in
theorem toNet_own (b d ttl : Int) (ap am ag ar : Option Addr) (cp cm cg cr : Nat) (ps : List Pr) (ms : List Mg) (gs : List Int) (rs : List Rp) (w : World) (hb : BigN ps ms gs rs) (hr : NetAt w ap am ag ar ps ms gs rs) :
    Calls Try.prog 17 #[.agg #[.int .i64 b, .int .i64 d, .slice ap ps.length cp, .int .i64 ttl, .slice am ms.length cm, .slice ag gs.length cg, .slice ar rs.length cr]] w fun e w' => ∃ ap' am' ag' ar', e = .returned (.agg #[.int .i64 b, .int .i64 d, .slice ap' ps.length ps.length, .int .i64 ttl, .slice am' ms.length ms.length, .slice ag' gs.length gs.length, .slice ar' rs.length rs.length]) ∧ OwnN w.heap.size w'.heap.size w' ap' am' ag' ar' ps.length ms.length gs.length rs.length ps ms gs rs ∧ Below w.heap.size w w' := by
  have HBG : Hid (BigN ps ms gs rs) := hb
  have HR : Hid (NetAt w ap am ag ar ps ms gs rs) := hr
  have N0 : Hid (TN w (((w.alloc (.cells #[.int .i64 b, .int .i64 d, .slice ap ps.length cp, .int .i64 ttl, .slice am ms.length cm, .slice ag gs.length cg, .slice ar rs.length cr] 48)).alloc (.cells #[.int .i64 0, .int .i64 0, .slice none 0 0, .int .i64 0, .slice none 0 0, .slice none 0 0, .slice none 0 0] 36)).alloc (.cells #[.int .i64 0, .int .i64 0, .slice none 0 0, .int .i64 0, .slice none 0 0, .slice none 0 0, .slice none 0 0] 36)) #[.int .i64 b, .int .i64 d, .slice ap ps.length cp, .int .i64 ttl, .slice am ms.length cm, .slice ag gs.length cg, .slice ar rs.length cr] #[.int .i64 0, .int .i64 0, .slice none 0 0, .int .i64 0, .slice none 0 0, .slice none 0 0, .slice none 0 0] #[.int .i64 0, .int .i64 0, .slice none 0 0, .int .i64 0, .slice none 0 0, .slice none 0 0, .slice none 0 0]) := tn0 w _ _ _
  clear hb hr
  go_enter Try.func17, Try.ntmps17
  go_wp2_with fail
  refine (toPeers_own b d ap cp ps _ HBG.out.p (HR.out.keep N0.out.bel).p).mono ?_
  rintro e w1 ⟨ap', rfl, OP, HW⟩
  have N1 : Hid (TN w w1 #[.int .i64 b, .int .i64 d, .slice ap ps.length cp, .int .i64 ttl, .slice am ms.length cm, .slice ag gs.length cg, .slice ar rs.length cr] #[.int .i64 0, .int .i64 0, .slice none 0 0, .int .i64 0, .slice none 0 0, .slice none 0 0, .slice none 0 0] #[.int .i64 0, .int .i64 0, .slice none 0 0, .int .i64 0, .slice none 0 0, .slice none 0 0, .slice none 0 0]) := N0.out.keep HW
  have OP1 : Hid (OwnPs (w.heap.size + 1 + 1 + 1) w1.heap.size w1 ap' ps.length ps) := by have h := OP; simp only [World.size_alloc] at h; exact h
  clear HW N0 OP
  obtain ⟨a0, a1, a2, a3, a4, a5, a6⟩ := Wire.Bk.m7 N1.out.ka
  obtain ⟨c0, c1, c2, c3, c4, c5, c6⟩ := Wire.Bk.m7 N1.out.ko
  obtain ⟨f0, f1, f2, f3, f4, f5, f6⟩ := Wire.Bk.g7 N1.out.ko
  go_wp2_with fail
  clear a0 a1 a2 a3 a4 a5 a6 c0 c1 c2 c3 c4 c5 c6 f0 f1 f2 f3 f4 f5 f6
  have N1x := N1.out.put 0 [.int .i64 b, .int .i64 d, .slice ap' ps.length ps.length, .int .i64 ttl]
  rw [ovrA] at N1x
  have N1y : Hid (TN w (Wire.setL w1 (w.heap.size + 1 + 1) 0 [.int .i64 b, .int .i64 d, .slice ap' ps.length ps.length, .int .i64 ttl]) #[.int .i64 b, .int .i64 d, .slice ap ps.length cp, .int .i64 ttl, .slice am ms.length cm, .slice ag gs.length cg, .slice ar rs.length cr] #[.int .i64 0, .int .i64 0, .slice none 0 0, .int .i64 0, .slice none 0 0, .slice none 0 0, .slice none 0 0] #[.int .i64 b, .int .i64 d, .slice ap' ps.length ps.length, .int .i64 ttl, .slice none 0 0, .slice none 0 0, .slice none 0 0]) := N1x
  clear N1x
  have OP1x : Hid (OwnPs (w.heap.size + 1 + 1 + 1) w1.heap.size (Wire.setL w1 (w.heap.size + 1 + 1) 0 [.int .i64 b, .int .i64 d, .slice ap' ps.length ps.length, .int .i64 ttl]) ap' ps.length ps) := OP1.out.blocks (fun k h1 _ _ => Wire.setL_oth (by omega) _ _ _)
  have S1 : Hid ((Wire.setL w1 (w.heap.size + 1 + 1) 0 [.int .i64 b, .int .i64 d, .slice ap' ps.length ps.length, .int .i64 ttl]).heap.size = w1.heap.size) := Wire.setL_size _ _ _
  clear N1 OP1
  refine (toMsgS_any am cm ms (Wire.setL w1 (w.heap.size + 1 + 1) 0 [.int .i64 b, .int .i64 d, .slice ap' ps.length ps.length, .int .i64 ttl]) HBG.out.m (HR.out.keep N1y.out.bel).m).mono ?_
  rintro e w2 ⟨am', rfl, OM, HW⟩
  have N2 : Hid (TN w w2 #[.int .i64 b, .int .i64 d, .slice ap ps.length cp, .int .i64 ttl, .slice am ms.length cm, .slice ag gs.length cg, .slice ar rs.length cr] #[.int .i64 0, .int .i64 0, .slice none 0 0, .int .i64 0, .slice none 0 0, .slice none 0 0, .slice none 0 0] #[.int .i64 b, .int .i64 d, .slice ap' ps.length ps.length, .int .i64 ttl, .slice none 0 0, .slice none 0 0, .slice none 0 0]) := N1y.out.keep HW
  have OP2 : Hid (OwnPs (w.heap.size + 1 + 1 + 1) w1.heap.size w2 ap' ps.length ps) := OP1x.out.keep HW
  have OM2 : Hid (OwnEs tyMg 82 w1.heap.size w2.heap.size w2 am' ms.length ms) := by have h := OM; rw [S1.out] at h; exact h
  have Z2 : Hid (w.heap.size + 1 + 1 + 1 ≤ w1.heap.size ∧ w1.heap.size ≤ w2.heap.size) := by have h1 := HW.size; rw [S1.out] at h1; have h2 := N1y.out.ko.lt; rw [S1.out] at h2; exact ⟨by omega, h1⟩
  clear HW OM N1y OP1x S1
  obtain ⟨a0, a1, a2, a3, a4, a5, a6⟩ := Wire.Bk.m7 N2.out.ka
  obtain ⟨c0, c1, c2, c3, c4, c5, c6⟩ := Wire.Bk.m7 N2.out.ko
  obtain ⟨f0, f1, f2, f3, f4, f5, f6⟩ := Wire.Bk.g7 N2.out.ko
  go_wp2_with fail
  clear a0 a1 a2 a3 a4 a5 a6 c0 c1 c2 c3 c4 c5 c6 f0 f1 f2 f3 f4 f5 f6
  have N2x := N2.out.put 4 [.slice am' ms.length ms.length]
  rw [ovrB] at N2x
  have N2y : Hid (TN w (Wire.setL w2 (w.heap.size + 1 + 1) 4 [.slice am' ms.length ms.length]) #[.int .i64 b, .int .i64 d, .slice ap ps.length cp, .int .i64 ttl, .slice am ms.length cm, .slice ag gs.length cg, .slice ar rs.length cr] #[.int .i64 0, .int .i64 0, .slice none 0 0, .int .i64 0, .slice none 0 0, .slice none 0 0, .slice none 0 0] #[.int .i64 b, .int .i64 d, .slice ap' ps.length ps.length, .int .i64 ttl, .slice am' ms.length ms.length, .slice none 0 0, .slice none 0 0]) := N2x
  clear N2x
  have OP2x : Hid (OwnPs (w.heap.size + 1 + 1 + 1) w1.heap.size (Wire.setL w2 (w.heap.size + 1 + 1) 4 [.slice am' ms.length ms.length]) ap' ps.length ps) := OP2.out.blocks (fun k h1 _ _ => Wire.setL_oth (by omega) _ _ _)
  have OM2x : Hid (OwnEs tyMg 82 w1.heap.size w2.heap.size (Wire.setL w2 (w.heap.size + 1 + 1) 4 [.slice am' ms.length ms.length]) am' ms.length ms) := OM2.out.blocks (fun k h1 _ _ => Wire.setL_oth (by have := Z2.out; omega) _ _ _)
  have S2 : Hid ((Wire.setL w2 (w.heap.size + 1 + 1) 4 [.slice am' ms.length ms.length]).heap.size = w2.heap.size) := Wire.setL_size _ _ _
  clear N2 OP2 OM2
  refine (toIntS_own ag cg gs (Wire.setL w2 (w.heap.size + 1 + 1) 4 [.slice am' ms.length ms.length]) HBG.out.g (HR.out.keep N2y.out.bel).g).mono ?_
  rintro e w3 ⟨ag', rfl, OG, HW⟩
  have N3 : Hid (TN w w3 #[.int .i64 b, .int .i64 d, .slice ap ps.length cp, .int .i64 ttl, .slice am ms.length cm, .slice ag gs.length cg, .slice ar rs.length cr] #[.int .i64 0, .int .i64 0, .slice none 0 0, .int .i64 0, .slice none 0 0, .slice none 0 0, .slice none 0 0] #[.int .i64 b, .int .i64 d, .slice ap' ps.length ps.length, .int .i64 ttl, .slice am' ms.length ms.length, .slice none 0 0, .slice none 0 0]) := N2y.out.keep HW
  have OP3 : Hid (OwnPs (w.heap.size + 1 + 1 + 1) w1.heap.size w3 ap' ps.length ps) := OP2x.out.keep HW
  have OM3 : Hid (OwnEs tyMg 82 w1.heap.size w2.heap.size w3 am' ms.length ms) := OM2x.out.keep HW
  have OG3 : Hid (OwnLs w2.heap.size w3.heap.size w3 ag' gs.length gs) := by have h := OG; rw [S2.out] at h; exact h
  have Z3 : Hid (w2.heap.size ≤ w3.heap.size) := by have h1 := HW.size; rw [S2.out] at h1; exact h1
  clear HW OG N2y OP2x OM2x S2
  obtain ⟨a0, a1, a2, a3, a4, a5, a6⟩ := Wire.Bk.m7 N3.out.ka
  obtain ⟨c0, c1, c2, c3, c4, c5, c6⟩ := Wire.Bk.m7 N3.out.ko
  obtain ⟨f0, f1, f2, f3, f4, f5, f6⟩ := Wire.Bk.g7 N3.out.ko
  go_wp2_with fail
  clear a0 a1 a2 a3 a4 a5 a6 c0 c1 c2 c3 c4 c5 c6 f0 f1 f2 f3 f4 f5 f6
  have N3x := N3.out.put 5 [.slice ag' gs.length gs.length]
  rw [ovrC] at N3x
  have N3y : Hid (TN w (Wire.setL w3 (w.heap.size + 1 + 1) 5 [.slice ag' gs.length gs.length]) #[.int .i64 b, .int .i64 d, .slice ap ps.length cp, .int .i64 ttl, .slice am ms.length cm, .slice ag gs.length cg, .slice ar rs.length cr] #[.int .i64 0, .int .i64 0, .slice none 0 0, .int .i64 0, .slice none 0 0, .slice none 0 0, .slice none 0 0] #[.int .i64 b, .int .i64 d, .slice ap' ps.length ps.length, .int .i64 ttl, .slice am' ms.length ms.length, .slice ag' gs.length gs.length, .slice none 0 0]) := N3x
  clear N3x
  have OP3x : Hid (OwnPs (w.heap.size + 1 + 1 + 1) w1.heap.size (Wire.setL w3 (w.heap.size + 1 + 1) 5 [.slice ag' gs.length gs.length]) ap' ps.length ps) := OP3.out.blocks (fun k h1 _ _ => Wire.setL_oth (by omega) _ _ _)
  have OM3x : Hid (OwnEs tyMg 82 w1.heap.size w2.heap.size (Wire.setL w3 (w.heap.size + 1 + 1) 5 [.slice ag' gs.length gs.length]) am' ms.length ms) := OM3.out.blocks (fun k h1 _ _ => Wire.setL_oth (by have := Z2.out; omega) _ _ _)
  have OG3x : Hid (OwnLs w2.heap.size w3.heap.size (Wire.setL w3 (w.heap.size + 1 + 1) 5 [.slice ag' gs.length gs.length]) ag' gs.length gs) := OG3.out.blocks (fun k h1 _ _ => Wire.setL_oth (by have := Z2.out; omega) _ _ _)
  have S3 : Hid ((Wire.setL w3 (w.heap.size + 1 + 1) 5 [.slice ag' gs.length gs.length]).heap.size = w3.heap.size) := Wire.setL_size _ _ _
  clear N3 OP3 OM3 OG3
  refine (toReplyS_any ar cr rs (Wire.setL w3 (w.heap.size + 1 + 1) 5 [.slice ag' gs.length gs.length]) HBG.out.r (HR.out.keep N3y.out.bel).r).mono ?_
  rintro e w4 ⟨ar', rfl, OQ, HW⟩
  have N4 : Hid (TN w w4 #[.int .i64 b, .int .i64 d, .slice ap ps.length cp, .int .i64 ttl, .slice am ms.length cm, .slice ag gs.length cg, .slice ar rs.length cr] #[.int .i64 0, .int .i64 0, .slice none 0 0, .int .i64 0, .slice none 0 0, .slice none 0 0, .slice none 0 0] #[.int .i64 b, .int .i64 d, .slice ap' ps.length ps.length, .int .i64 ttl, .slice am' ms.length ms.length, .slice ag' gs.length gs.length, .slice none 0 0]) := N3y.out.keep HW
  have OP4 : Hid (OwnPs (w.heap.size + 1 + 1 + 1) w1.heap.size w4 ap' ps.length ps) := OP3x.out.keep HW
  have OM4 : Hid (OwnEs tyMg 82 w1.heap.size w2.heap.size w4 am' ms.length ms) := OM3x.out.keep HW
  have OG4 : Hid (OwnLs w2.heap.size w3.heap.size w4 ag' gs.length gs) := OG3x.out.keep HW
  have OQ4 : Hid (OwnEs tyRp 86 w3.heap.size w4.heap.size w4 ar' rs.length rs) := by have h := OQ; rw [S3.out] at h; exact h
  have Z4 : Hid (w3.heap.size ≤ w4.heap.size) := by have h1 := HW.size; rw [S3.out] at h1; exact h1
  clear HW OQ N3y OP3x OM3x OG3x S3
  obtain ⟨a0, a1, a2, a3, a4, a5, a6⟩ := Wire.Bk.m7 N4.out.ka
  obtain ⟨c0, c1, c2, c3, c4, c5, c6⟩ := Wire.Bk.m7 N4.out.ko
  obtain ⟨f0, f1, f2, f3, f4, f5, f6⟩ := Wire.Bk.g7 N4.out.ko
  obtain ⟨r0, r1, r2, r3, r4, r5, r6⟩ := Wire.Bk.m7 N4.out.kr
  obtain ⟨s0, s1, s2, s3, s4, s5, s6⟩ := Wire.Bk.g7 N4.out.kr
  go_wp2
  clear a0 a1 a2 a3 a4 a5 a6 c0 c1 c2 c3 c4 c5 c6 f0 f1 f2 f3 f4 f5 f6 r0 r1 r2 r3 r4 r5 r6 s0 s1 s2 s3 s4 s5 s6
  have N5 := (N4.out.put 6 [.slice ar' rs.length rs.length]).res 0 [.int .i64 b, .int .i64 d, .slice ap' ps.length ps.length, .int .i64 ttl, .slice am' ms.length ms.length, .slice ag' gs.length gs.length, .slice ar' rs.length rs.length]
  rw [ovrD, ovrE] at N5
  have N5x : Hid (TN w (Wire.setL (Wire.setL w4 (w.heap.size + 1 + 1) 6 [.slice ar' rs.length rs.length]) (w.heap.size + 1) 0 [.int .i64 b, .int .i64 d, .slice ap' ps.length ps.length, .int .i64 ttl, .slice am' ms.length ms.length, .slice ag' gs.length gs.length, .slice ar' rs.length rs.length]) #[.int .i64 b, .int .i64 d, .slice ap ps.length cp, .int .i64 ttl, .slice am ms.length cm, .slice ag gs.length cg, .slice ar rs.length cr] #[.int .i64 b, .int .i64 d, .slice ap' ps.length ps.length, .int .i64 ttl, .slice am' ms.length ms.length, .slice ag' gs.length gs.length, .slice ar' rs.length rs.length] #[.int .i64 b, .int .i64 d, .slice ap' ps.length ps.length, .int .i64 ttl, .slice am' ms.length ms.length, .slice ag' gs.length gs.length, .slice ar' rs.length rs.length]) := N5
  clear N5
  have hoth : ∀ k, w.heap.size + 1 + 1 < k → (Wire.setL (Wire.setL w4 (w.heap.size + 1 + 1) 6 [.slice ar' rs.length rs.length]) (w.heap.size + 1) 0 [.int .i64 b, .int .i64 d, .slice ap' ps.length ps.length, .int .i64 ttl, .slice am' ms.length ms.length, .slice ag' gs.length gs.length, .slice ar' rs.length rs.length]).heap[k]? = w4.heap[k]? := fun k hk => (Wire.setL_oth (by omega) _ _ _).trans (Wire.setL_oth (by omega) _ _ _)
  have hsz : (Wire.setL (Wire.setL w4 (w.heap.size + 1 + 1) 6 [.slice ar' rs.length rs.length]) (w.heap.size + 1) 0 [.int .i64 b, .int .i64 d, .slice ap' ps.length ps.length, .int .i64 ttl, .slice am' ms.length ms.length, .slice ag' gs.length gs.length, .slice ar' rs.length rs.length]).heap.size = w4.heap.size := (Wire.setL_size _ _ _).trans (Wire.setL_size _ _ _)
  have OE : Hid (OwnN w.heap.size (Wire.setL (Wire.setL w4 (w.heap.size + 1 + 1) 6 [.slice ar' rs.length rs.length]) (w.heap.size + 1) 0 [.int .i64 b, .int .i64 d, .slice ap' ps.length ps.length, .int .i64 ttl, .slice am' ms.length ms.length, .slice ag' gs.length gs.length, .slice ar' rs.length rs.length]).heap.size (Wire.setL (Wire.setL w4 (w.heap.size + 1 + 1) 6 [.slice ar' rs.length rs.length]) (w.heap.size + 1) 0 [.int .i64 b, .int .i64 d, .slice ap' ps.length ps.length, .int .i64 ttl, .slice am' ms.length ms.length, .slice ag' gs.length gs.length, .slice ar' rs.length rs.length]) ap' am' ag' ar' ps.length ms.length gs.length rs.length ps ms gs rs) := by
    rw [hsz]
    have z2 := Z2.out
    have z3 := Z3.out
    have z4 := Z4.out
    exact ⟨⟨w.heap.size + 1 + 1 + 1, w1.heap.size, w1.heap.size, w2.heap.size, w2.heap.size, w3.heap.size, w3.heap.size, w4.heap.size, by omega, by omega, OP4.out.blocks (fun k h1 _ _ => hoth k (by omega)), OM4.out.blocks (fun k h1 _ _ => hoth k (by omega)), OG4.out.blocks (fun k h1 _ _ => hoth k (by omega)), OQ4.out.blocks (fun k h1 _ _ => hoth k (by omega))⟩⟩
  refine bodyPost_ret (results_cell_row Try.results17 _ _ (w.heap.size + 1) _ _ _ _ rfl N5x.out.kr Try.underlying36 rfl (by kernel_rfl)) rfl ⟨_, _, _, _, rfl, OE.out, N5x.out.bel⟩
end Go.Proofs.Ytioiacmaijgdoaa
namespace Go.Proofs.Ytioiacmaijgdoaa.Wire
open Go.RowKit Go.Deep
set_option linter.unusedVariables false
theorem belA (w : World) (o : Obj) : Below w.heap.size w (w.alloc o) := (Below.refl _ _).alloc (Nat.le_refl _) o
def isRowD (d : TypeDesc) : Bool := match d with | .struct _ | .array _ _ => true | _ => false
theorem results_cell_tmp {fn : Func} {p q : Tmp} {ty : TypeId} (h : fn.results = #[.cell p ty, .tmp q]) (tmps : Array Value) (w : World) (g : Nat) (t : TypeId) (cs : Array Value) (fr : Nat × Nat) (d : TypeDesc) (u : Value)
    (hp : tmps.getD p undef = .pointer (some ⟨g, 0, none⟩)) (hq : tmps.getD q undef = u) (hg : w.heap[g]? = some (.cells cs t fr))
    (hu : Try.prog.underlying ty = some d) (hd : isRowD d = true) (hi : (Try.prog.info? ty).map (·.size) = some cs.size) :
    (results fn tmps).run Try.prog w = .ok (.tuple #[.agg cs, u]) w := by
  have hp' : tmps[p]?.getD undef = .pointer (some ⟨g, 0, none⟩) := by simpa using hp
  have hq' : tmps[q]?.getD undef = u := by simpa using hq
  have hl := run_loadVar_row w g t ty cs fr d hg hu (by cases d <;> first | rfl | (simp [isRowD] at hd)) hi
  simp [results, h, hp', hq', asAddr, hl]
theorem yieldsIf_bk {ops : Array Oper} {S : World → Prop} {op : Oper} {a : Act} {ty : TypeId} {x : Operand} (ho : op.op = .load ty x) (hw : Region.wanted op (yielded ops a.tmps) = true) {g : Nat} (hx : a.eval x = .pointer (some ⟨g, 0, none⟩)) {C : Array Value} {T : TypeId} {d : TypeDesc} (hS : ∀ w, S w → Bk w g C T)
    (hu : Try.prog.underlying ty = some d) (hd : isRowD d = true) (hi : (Try.prog.info? ty).map (·.size) = some C.size) : YieldsIf Try.prog ops S op (.agg C) a :=
  .inl ⟨hw, fun w hw' => by
    unfold execOp
    simp only [ho, hx, Instr.loadAt, Instr.sureAddr, Sem.run_bind, Sem.run_pure, Result.andThen_ok, run_loadVar_row w g T ty C (0, 0) d (hS w hw') hu (by cases d <;> first | rfl | (simp [isRowD] at hd)) hi]⟩
end Go.Proofs.Ytioiacmaijgdoaa.Wire
namespace Go.Proofs.Ytioiacmaijgdoaa.Wire
open Go.RowKit
set_option linter.unusedVariables false
def hasB (zs : List Int) (x : Int) : Bool := decide (∃ i, i < zs.length ∧ zs.getD i 0 = x)
set_option maxHeartbeats 800000 in
theorem lhas_any (a : Option Addr) (cap : Nat) (zs : List Int) (x : Int) (w : World) (hm : zs.length ≤ maxLen) (hr : RowAt w a zs) :
    Calls Try.prog 56 #[.slice a zs.length cap, .int .i64 x] w fun e w' => e = .returned (.bool (hasB zs x)) ∧ w' = w := by
  unfold maxLen at hm
  have HR : Hid (RowAt w a zs) := hr
  clear hr
  go_enter Try.func56, Try.ntmps56
  go_wp2_with fail
  go_loop [9] (fun v => ∃ k : Nat, k ≤ zs.length ∧ v = .int .i64 k ∧ Hid (∀ i, i < k → ¬ zs.getD i 0 = x)) (fun v => zs.length - (intOf v).toNat)
  case atStart => exact ⟨0, Nat.zero_le _, rfl, fun i hi => by omega⟩
  case round =>
    obtain ⟨k, hk, rfl, hs⟩ := hrel
    by_cases hlt : k < zs.length
    · obtain ⟨bk, off, rfl⟩ := rowAt_form HR.out (by omega)
      have hc1 := (rowAt_cell HR.out (by omega)).2 k hlt
      by_cases hx : zs.getD k 0 = x
      · have hv : Hid (hasB zs x = true) := decide_eq_true ⟨k, hlt, hx⟩
        have he : (zs.getD k 0 == x) = true := beq_iff_eq.2 hx
        clear hx
        generalize zs.getD k 0 = z at hc1 he
        go_wp2
        go_ret
        exact ⟨ret_bool hv.out.symm, rfl⟩
      · have hn : Hid (∀ i, i < k + 1 → ¬ zs.getD i 0 = x) := fun i hi => by
          by_cases he : i = k
          · subst he; exact hx
          · exact hs.out i (by omega)
        have he : (zs.getD k 0 == x) = false := by simp only [beq_eq_false_iff_ne, ne_eq]; exact hx
        clear hx
        generalize zs.getD k 0 = z at hc1 he
        go_wp2
        go_round
        case rel => exact ⟨k + 1, by omega, by go_num, hn⟩
        case measure => simp [intOf]; omega
    · have hv : Hid (hasB zs x = false) := decide_eq_false (fun ⟨i, hi, he⟩ => hs.out i (by omega) he)
      go_wp2
      go_ret
      exact ⟨ret_bool hv.out.symm, rfl⟩

theorem lhas_own (a : Option Addr) (cap n : Nat) (zs : List Int) (x : Int) (w : World) (hn : zs.length = n) (hm : n ≤ maxLen) (hr : RowAt w a zs) : Calls Try.prog 56 #[.slice a n cap, .int .i64 x] w fun e w' => e = .returned (.bool (hasB zs x)) ∧ w' = w := by
  subst hn
  exact lhas_any a cap zs x w hm hr
theorem lall_row (a : Option Addr) (cap n : Nat) (zs : List Int) (lo hi : Int) (w : World) (hn : zs.length = n) (hm : n ≤ maxLen) (hr : RowAt w a zs) :
    Calls Try.prog 105 #[.slice a n cap, .int .i64 lo, .int .i64 hi] w fun e w' => e = .returned (.bool (allB zs lo hi)) ∧ w' = w := by
  subst hn
  by_cases hz : 0 < zs.length
  · obtain ⟨bk, off, rfl⟩ := rowAt_form hr hz
    exact lall_some bk off cap zs lo hi w hm (rowAt_cell hr hz).2
  · obtain rfl : zs = [] := by cases zs; rfl; simp at hz
    go_enter Try.func105, Try.ntmps105
    go_wp2_with fail
    go_loop [11] (fun v => v = .int .i64 0) (fun v => 0)
    case atStart => rfl
    case round =>
      subst hrel
      go_wp2
      go_ret
      exact ⟨rfl, rfl⟩
set_option maxHeartbeats 800000 in
theorem lnums_row (b d : Int) (a : Option Addr) (cap n : Nat) (zs : List Int) (w : World) (hn : zs.length = n) (hm : n ≤ maxLen) (hr : RowAt w a zs) :
    Calls Try.prog 89 #[.agg #[.int .i64 b, .int .i64 d], .slice a n cap] w fun e w' => e = .returned (.bool (numsB b d zs)) ∧ Below w.heap.size w w' := by
  have HR : Hid (RowAt w a zs) := hr
  clear hr
  unfold numsB
  cases hg : gsB b d
  · go_enter Try.func89, Try.ntmps89
    go_wp2_with (go_at_call 83; refine (lspace_any _ _ _).mono ?_; rintro e w1 ⟨rfl, hw1⟩)
    go_ret
    exact ⟨rfl, ((Below.refl _ _).alloc (Nat.le_refl _) _).trans (hw1.mono (by simp))⟩
  · obtain ⟨hb1, hb2, _, _, _⟩ := gsB_true hg
    obtain ⟨hs1, hs2⟩ := sz_bd hb1 hb2
    cases hal : allB zs 0 (sz b - 1)
    all_goals
      go_enter Try.func89, Try.ntmps89
      go_wp2_with (first | (go_at_call 83; refine (lspace_any _ _ _).mono ?_; rintro e w1 ⟨rfl, hw1⟩; have hc1 := bcell hw1) | (go_at_call 84; refine (lsize_any _ _ _ hb1 hb2).mono ?_; rintro e w2 ⟨rfl, hw2⟩) | (go_at_call 105; refine (lall_row a cap n zs _ _ _ hn hm ?hcells).mono ?_; rotate_left; rintro e w3 ⟨rfl, rfl⟩))
      case hcells =>
        have g1 : Below w.heap.size w w1 := ((Below.refl _ _).alloc (Nat.le_refl _) _).trans (hw1.mono (by simp))
        exact HR.out.keep (g1.trans (hw2.mono (g1.size)))
      go_ret
      have g1 : Below w.heap.size w w1 := ((Below.refl _ _).alloc (Nat.le_refl _) _).trans (hw1.mono (by simp))
      exact ⟨rfl, g1.trans (hw2.mono (g1.size))⟩
def okF (b d x4 x5 x6 x7 : Int) (l : List Int) (f : Int) : Bool := if f = 1 then numB b d x4 else if f = 2 then numB b d x5 else if f = 3 then inB x6 0 (b / d) else if f = 4 then inB x7 0 1000 else decide (l.length ≤ 4) && numsB b d l
def noF (x4 x5 x6 x7 : Int) (l : List Int) (f : Int) : Bool := if f = 1 then decide (x4 = 0) else if f = 2 then decide (x5 = 0) else if f = 3 then decide (x6 = 0) else if f = 4 then decide (x7 = 0) else decide (l.length = 0)
theorem numsB_one (b d x : Int) : numsB b d [x] = numB b d x := numsB_1 b d x
theorem bel3 {w w1 : World} {o q r : Obj} {n : Nat} (h : Below n (((w.alloc o).alloc q).alloc r) w1) (hn : w.heap.size ≤ n) : Below w.heap.size w w1 := ((((Below.refl _ _).alloc (Nat.le_refl _) _).alloc (by simp) _).alloc (by simp; omega) _).trans (h.mono hn)
theorem rowAt_new1 (w : World) (x : Int) : RowAt (w.alloc (.cells #[.int .i64 x] 3)) (some ⟨w.heap.size, 0, none⟩) [x] := rowAt_of_row (l := [x]) (fr := (0, 0)) (heap_alloc_new _ _)
theorem rowAt_new3 (w : World) (o q : Obj) (x : Int) : RowAt (((w.alloc o).alloc q).alloc (.cells #[.int .i64 x] 3)) (some ⟨w.heap.size + 1 + 1, 0, none⟩) [x] := by
  have h := rowAt_new1 ((w.alloc o).alloc q) x
  simp only [World.size_alloc] at h
  exact h
theorem rowAt_new2 (w : World) (x y : Int) : RowAt (w.alloc (.cells #[.int .i64 x, .int .i64 y] 3)) (some ⟨w.heap.size, 0, none⟩) [x, y] := rowAt_of_row (l := [x, y]) (fr := (0, 0)) (heap_alloc_new _ _)
set_option maxHeartbeats 1600000 in
theorem lIs_any (b d : Int) (x0 x1 x2 x3 x4 x5 x6 x7 : Int) (a : Option Addr) (cap n : Nat) (l : List Int) (f : Int) (w : World) (hg : gsB b d = true) (hn : l.length = n) (hm : n ≤ maxLen) (hr : RowAt w a l) :
    Calls Try.prog 91 #[.agg #[.int .i64 b, .int .i64 d], .agg #[.int .i64 x0, .int .i64 x1, .int .i64 x2, .int .i64 x3, .int .i64 x4, .int .i64 x5, .int .i64 x6, .int .i64 x7, .slice a n cap], .int .i64 f] w fun e w' => e = .returned (.bool (okF b d x4 x5 x6 x7 l f)) ∧ Below w.heap.size w w' := by
  have HR : Hid (RowAt w a l) := hr
  have HG : Hid (gsB b d = true) := hg
  clear hr hg
  by_cases h1 : f = 1
  · have hv : Hid (okF b d x4 x5 x6 x7 l f = numsB b d [x4]) := by subst h1; exact (numsB_1 b d x4).symm
    subst h1
    go_enter Try.func91, Try.ntmps91
    go_wp2_with fail
    refine (lnums_row b d _ _ _ [x4] _ rfl (by simp [maxLen]) (rowAt_new3 w _ _ _)).mono ?_
    rintro e w1 ⟨rfl, hw⟩
    go_wp2
    go_ret
    exact ⟨ret_bool hv.out.symm, bel3 hw (by simp; try omega)⟩
  by_cases h2 : f = 2
  · have hv : Hid (okF b d x4 x5 x6 x7 l f = numsB b d [x5]) := by subst h2; exact (numsB_1 b d x5).symm
    subst h2
    go_enter Try.func91, Try.ntmps91
    go_wp2_with fail
    refine (lnums_row b d _ _ _ [x5] _ rfl (by simp [maxLen]) (rowAt_new3 w _ _ _)).mono ?_
    rintro e w1 ⟨rfl, hw⟩
    go_wp2
    go_ret
    exact ⟨ret_bool hv.out.symm, bel3 hw (by simp; try omega)⟩
  by_cases h3 : f = 3
  · have hv : Hid (okF b d x4 x5 x6 x7 l f = inB x6 0 (b / d)) := by subst h3; rfl
    subst h3
    obtain ⟨hb1, hb2, hd1, hd2, _⟩ := gsB_true HG.out
    go_enter Try.func91, Try.ntmps91
    go_wp2_with fail
    go_quiet ((go_at_call 26; exact Calls.quiet_of_same (lin_any _ _ _ _)))
    go_wp2
    go_ret
    exact ⟨ret_bool hv.out.symm, below_drewN (((Below.refl _ _).alloc (Nat.le_refl _) _).alloc (by simp) _) _⟩
  by_cases h4 : f = 4
  · have hv : Hid (okF b d x4 x5 x6 x7 l f = inB x7 0 1000) := by subst h4; rfl
    subst h4
    go_enter Try.func91, Try.ntmps91
    go_wp2_with (go_at_call 26; refine (lin_any _ _ _ _).mono ?_; rintro e w1 ⟨rfl, rfl⟩)
    go_ret
    exact ⟨ret_bool hv.out.symm, ((Below.refl _ _).alloc (Nat.le_refl _) _).alloc (by simp) _⟩
  have hv : Hid (okF b d x4 x5 x6 x7 l f = (decide (l.length ≤ 4) && numsB b d l)) := by unfold Hid okF; rw [if_neg h1, if_neg h2, if_neg h3, if_neg h4]
  have g1 : (f == 1) = false := beq_eq_false_iff_ne.2 h1
  have g2 : (f == 2) = false := beq_eq_false_iff_ne.2 h2
  have g3 : (f == 3) = false := beq_eq_false_iff_ne.2 h3
  have g4 : (f == 4) = false := beq_eq_false_iff_ne.2 h4
  clear h1 h2 h3 h4
  unfold maxLen at hm
  by_cases hl : n ≤ 4
  · have hv2 : Hid (okF b d x4 x5 x6 x7 l f = numsB b d l) := by unfold Hid; rw [hv.out, decide_eq_true (by omega)]; rfl
    go_enter Try.func91, Try.ntmps91
    go_wp2_with fail
    refine (lnums_row b d _ _ _ l _ hn (by unfold maxLen; omega) (HR.out.keep (((Below.refl _ _).alloc (Nat.le_refl _) _).alloc (by simp) _))).mono ?_
    rintro e w1 ⟨rfl, hw⟩
    go_wp2
    go_ret
    exact ⟨ret_bool hv2.out.symm, bel2 hw (by simp; try omega)⟩
  · have hv2 : Hid (okF b d x4 x5 x6 x7 l f = false) := by unfold Hid; rw [hv.out, decide_eq_false (by omega)]; rfl
    go_enter Try.func91, Try.ntmps91
    go_wp2
    go_ret
    exact ⟨ret_bool hv2.out.symm, ((Below.refl _ _).alloc (Nat.le_refl _) _).alloc (by simp) _⟩
set_option maxHeartbeats 1600000 in
theorem lNone_any (x0 x1 x2 x3 x4 x5 x6 x7 : Int) (a : Option Addr) (cap n : Nat) (l : List Int) (f : Int) (w : World) (hn : l.length = n) (hm : n ≤ maxLen) :
    Calls Try.prog 92 #[.agg #[.int .i64 x0, .int .i64 x1, .int .i64 x2, .int .i64 x3, .int .i64 x4, .int .i64 x5, .int .i64 x6, .int .i64 x7, .slice a n cap], .int .i64 f] w fun e w' => e = .returned (.bool (noF x4 x5 x6 x7 l f)) ∧ Below w.heap.size w w' := by
  unfold maxLen at hm
  by_cases h1 : f = 1
  · have hv : Hid (noF x4 x5 x6 x7 l f = decide (x4 = 0)) := by subst h1; rfl
    subst h1
    by_cases hz : x4 = 0
    · have hv2 : Hid (noF x4 x5 x6 x7 l 1 = true) := by unfold Hid; rw [hv.out]; exact decide_eq_true hz
      have hz' : (x4 == 0) = true := beq_iff_eq.2 hz
      clear hz hv
      go_enter Try.func92, Try.ntmps92
      go_wp2
      go_ret
      exact ⟨ret_bool (by rw [hv2.out]), (Below.refl _ _).alloc (Nat.le_refl _) _⟩
    · have hv2 : Hid (noF x4 x5 x6 x7 l 1 = false) := by unfold Hid; rw [hv.out]; exact decide_eq_false hz
      have hz' : (x4 == 0) = false := beq_eq_false_iff_ne.2 hz
      clear hz hv
      go_enter Try.func92, Try.ntmps92
      go_wp2
      go_ret
      exact ⟨ret_bool (by rw [hv2.out]), (Below.refl _ _).alloc (Nat.le_refl _) _⟩
  by_cases h2 : f = 2
  · have hv : Hid (noF x4 x5 x6 x7 l f = decide (x5 = 0)) := by subst h2; rfl
    subst h2
    by_cases hz : x5 = 0
    · have hv2 : Hid (noF x4 x5 x6 x7 l 2 = true) := by unfold Hid; rw [hv.out]; exact decide_eq_true hz
      have hz' : (x5 == 0) = true := beq_iff_eq.2 hz
      clear hz hv
      go_enter Try.func92, Try.ntmps92
      go_wp2
      go_ret
      exact ⟨ret_bool (by rw [hv2.out]), (Below.refl _ _).alloc (Nat.le_refl _) _⟩
    · have hv2 : Hid (noF x4 x5 x6 x7 l 2 = false) := by unfold Hid; rw [hv.out]; exact decide_eq_false hz
      have hz' : (x5 == 0) = false := beq_eq_false_iff_ne.2 hz
      clear hz hv
      go_enter Try.func92, Try.ntmps92
      go_wp2
      go_ret
      exact ⟨ret_bool (by rw [hv2.out]), (Below.refl _ _).alloc (Nat.le_refl _) _⟩
  by_cases h3 : f = 3
  · have hv : Hid (noF x4 x5 x6 x7 l f = decide (x6 = 0)) := by subst h3; rfl
    subst h3
    by_cases hz : x6 = 0
    · have hv2 : Hid (noF x4 x5 x6 x7 l 3 = true) := by unfold Hid; rw [hv.out]; exact decide_eq_true hz
      have hz' : (x6 == 0) = true := beq_iff_eq.2 hz
      clear hz hv
      go_enter Try.func92, Try.ntmps92
      go_wp2
      go_ret
      exact ⟨ret_bool (by rw [hv2.out]), (Below.refl _ _).alloc (Nat.le_refl _) _⟩
    · have hv2 : Hid (noF x4 x5 x6 x7 l 3 = false) := by unfold Hid; rw [hv.out]; exact decide_eq_false hz
      have hz' : (x6 == 0) = false := beq_eq_false_iff_ne.2 hz
      clear hz hv
      go_enter Try.func92, Try.ntmps92
      go_wp2
      go_ret
      exact ⟨ret_bool (by rw [hv2.out]), (Below.refl _ _).alloc (Nat.le_refl _) _⟩
  by_cases h4 : f = 4
  · have hv : Hid (noF x4 x5 x6 x7 l f = decide (x7 = 0)) := by subst h4; rfl
    subst h4
    by_cases hz : x7 = 0
    · have hv2 : Hid (noF x4 x5 x6 x7 l 4 = true) := by unfold Hid; rw [hv.out]; exact decide_eq_true hz
      have hz' : (x7 == 0) = true := beq_iff_eq.2 hz
      clear hz hv
      go_enter Try.func92, Try.ntmps92
      go_wp2
      go_ret
      exact ⟨ret_bool (by rw [hv2.out]), (Below.refl _ _).alloc (Nat.le_refl _) _⟩
    · have hv2 : Hid (noF x4 x5 x6 x7 l 4 = false) := by unfold Hid; rw [hv.out]; exact decide_eq_false hz
      have hz' : (x7 == 0) = false := beq_eq_false_iff_ne.2 hz
      clear hz hv
      go_enter Try.func92, Try.ntmps92
      go_wp2
      go_ret
      exact ⟨ret_bool (by rw [hv2.out]), (Below.refl _ _).alloc (Nat.le_refl _) _⟩
  have hv : Hid (noF x4 x5 x6 x7 l f = decide (l.length = 0)) := by unfold Hid noF; rw [if_neg h1, if_neg h2, if_neg h3, if_neg h4]
  have g1 : (f == 1) = false := beq_eq_false_iff_ne.2 h1
  have g2 : (f == 2) = false := beq_eq_false_iff_ne.2 h2
  have g3 : (f == 3) = false := beq_eq_false_iff_ne.2 h3
  have g4 : (f == 4) = false := beq_eq_false_iff_ne.2 h4
  clear h1 h2 h3 h4
  by_cases hz : n = 0
  · have hv2 : Hid (noF x4 x5 x6 x7 l f = true) := by unfold Hid; rw [hv.out]; exact decide_eq_true (by omega)
    have hz' : ((n : Int) == 0) = true := by simp [hz]
    clear hz hv
    go_enter Try.func92, Try.ntmps92
    go_wp2
    go_ret
    exact ⟨ret_bool (by rw [hv2.out]), (Below.refl _ _).alloc (Nat.le_refl _) _⟩
  · have hv2 : Hid (noF x4 x5 x6 x7 l f = false) := by unfold Hid; rw [hv.out]; exact decide_eq_false (by omega)
    have hz' : ((n : Int) == 0) = false := by simp [hz]
    clear hz hv
    go_enter Try.func92, Try.ntmps92
    go_wp2
    go_ret
    exact ⟨ret_bool (by rw [hv2.out]), (Below.refl _ _).alloc (Nat.le_refl _) _⟩
end Go.Proofs.Ytioiacmaijgdoaa.Wire
namespace Go.Proofs.Ytioiacmaijgdoaa.Wire
open Go.RowKit
set_option linter.unusedVariables false
def fld (k : Int) : List Int := if k = 1 then [1, 2, 3, 4] else if k = 2 then [1, 2, 4] else if k = 3 ∨ k = 7 then [1, 4] else if k = 5 then [1, 5] else if k = 8 then [1] else []
theorem fld_big (k : Int) : (fld k).length ≤ 4 := by
  unfold fld; repeat' split
  all_goals simp
def kdB (k : Int) : Bool := inB k 1 8
def fldL (k : Int) : List Int := if kdB k = true then fld k else []
theorem fldL_big (k : Int) : (fldL k).length ≤ 1048576 := by
  unfold fldL; split
  · have := fld_big k; omega
  · simp
theorem fldL_eq (k : Int) : fldL k = fld k := by
  unfold fldL
  split
  · rfl
  · rename_i h
    have := inB_false (Bool.eq_false_iff.2 h)
    unfold fld
    rw [if_neg (by omega), if_neg (by omega), if_neg (by omega), if_neg (by omega), if_neg (by omega)]
theorem isKind_any (k : Int) (w : World) : Calls Try.prog 94 #[.int .i64 k] w fun e w' => e = .returned (.bool (kdB k)) ∧ w' = w := by
  by_cases h1 : 1 ≤ k
  · by_cases h2 : k ≤ 8
    · have hv : Hid (kdB k = true) := inB_yes h1 h2
      go_enter Try.func94, Try.ntmps94
      go_wp2
      go_ret
      exact ⟨ret_bool hv.out.symm, rfl⟩
    · have hv : Hid (kdB k = false) := inB_no (by omega)
      go_enter Try.func94, Try.ntmps94
      go_wp2
      go_ret
      exact ⟨ret_bool hv.out.symm, rfl⟩
  · have hv : Hid (kdB k = false) := inB_no (by omega)
    go_enter Try.func94, Try.ntmps94
    go_wp2
    go_ret
    exact ⟨ret_bool hv.out.symm, rfl⟩
theorem ownLs_lit {w w' : World} {l : List Int} {n : Nat} {cs : Array Value} {a : Option Addr} (hc : cs = zv l) (hw : w' = w.alloc (.cells cs 3)) (hn : l.length = n) (ha : a = some ⟨w.heap.size, 0, none⟩) : OwnLs w.heap.size w'.heap.size w' a n l ∧ Below w.heap.size w w' := by
  subst hc; subst hw; subst ha
  refine ⟨⟨hn, .inr ⟨_, rfl, by simp, Nat.le_refl _, _, heap_alloc_new _ _, ?_⟩⟩, (Below.refl _ _).alloc (Nat.le_refl _) _⟩
  rw [List.take_of_length_le (by simp [zv])]; simp [zv]
def FldR (w : World) (l : List Int) (e : Ending) (w' : World) : Prop := ∃ a n c, e = .returned (.slice a n c) ∧ l.length = n ∧ n ≤ c ∧ OwnLs w.heap.size w'.heap.size w' a n l ∧ Below w.heap.size w w'
theorem fldR_lit {w w' : World} {l : List Int} {n : Nat} {cs : Array Value} {a : Option Addr} (hc : cs = zv l) (hw : w' = w.alloc (.cells cs 3)) (hn : l.length = n) (ha : a = some ⟨w.heap.size, 0, none⟩) : FldR w l (.returned (.slice a n n)) w' :=
  ⟨_, _, _, rfl, hn, Nat.le_refl _, ownLs_lit hc hw hn ha⟩
theorem fldR_nil (w : World) : FldR w [] (.returned (.slice none 0 0)) w := ⟨_, _, _, rfl, rfl, Nat.le_refl _, ⟨rfl, .inl rfl⟩, Below.refl _ _⟩
set_option maxHeartbeats 800000 in
theorem fieldsOf_any (k : Int) (w : World) : Calls Try.prog 96 #[.int .i64 k] w (FldR w (fld k)) := by
  by_cases h1 : k = 1
  · have hv : Hid (fld k = [1, 2, 3, 4]) := by subst h1; rfl
    subst h1
    go_enter Try.func96, Try.ntmps96
    go_wp2
    go_ret
    rw [hv.out]; exact fldR_lit rfl rfl rfl rfl
  by_cases h2 : k = 2
  · have hv : Hid (fld k = [1, 2, 4]) := by subst h2; rfl
    subst h2
    go_enter Try.func96, Try.ntmps96
    go_wp2
    go_ret
    rw [hv.out]; exact fldR_lit rfl rfl rfl rfl
  by_cases h3 : k = 3
  · have hv : Hid (fld k = [1, 4]) := by subst h3; rfl
    subst h3
    go_enter Try.func96, Try.ntmps96
    go_wp2
    go_ret
    rw [hv.out]; exact fldR_lit rfl rfl rfl rfl
  by_cases h7 : k = 7
  · have hv : Hid (fld k = [1, 4]) := by subst h7; rfl
    subst h7
    go_enter Try.func96, Try.ntmps96
    go_wp2
    go_ret
    rw [hv.out]; exact fldR_lit rfl rfl rfl rfl
  by_cases h5 : k = 5
  · have hv : Hid (fld k = [1, 5]) := by subst h5; rfl
    subst h5
    go_enter Try.func96, Try.ntmps96
    go_wp2
    go_ret
    rw [hv.out]; exact fldR_lit rfl rfl rfl rfl
  by_cases h8 : k = 8
  · have hv : Hid (fld k = [1]) := by subst h8; rfl
    subst h8
    go_enter Try.func96, Try.ntmps96
    go_wp2
    go_ret
    rw [hv.out]; exact fldR_lit rfl rfl rfl rfl
  have hv : Hid (fld k = []) := by unfold Hid fld; rw [if_neg h1, if_neg h2, if_neg (by omega), if_neg h5, if_neg h8]
  have g1 : (k == 1) = false := beq_eq_false_iff_ne.2 h1
  have g2 : (k == 2) = false := beq_eq_false_iff_ne.2 h2
  have g3 : (k == 3) = false := beq_eq_false_iff_ne.2 h3
  have g7 : (k == 7) = false := beq_eq_false_iff_ne.2 h7
  have g5 : (k == 5) = false := beq_eq_false_iff_ne.2 h5
  have g8 : (k == 8) = false := beq_eq_false_iff_ne.2 h8
  clear h1 h2 h3 h7 h5 h8
  go_enter Try.func96, Try.ntmps96
  go_wp2
  go_ret
  rw [hv.out]; exact fldR_nil w
set_option maxHeartbeats 800000 in
theorem lfieldsOf_any (k : Int) (w : World) : Calls Try.prog 90 #[.int .i64 k] w (FldR w (fld k)) := by
  by_cases h1 : k = 1
  · have hv : Hid (fld k = [1, 2, 3, 4]) := by subst h1; rfl
    subst h1
    go_enter Try.func90, Try.ntmps90
    go_wp2
    go_ret
    rw [hv.out]; exact fldR_lit rfl rfl rfl rfl
  by_cases h2 : k = 2
  · have hv : Hid (fld k = [1, 2, 4]) := by subst h2; rfl
    subst h2
    go_enter Try.func90, Try.ntmps90
    go_wp2
    go_ret
    rw [hv.out]; exact fldR_lit rfl rfl rfl rfl
  by_cases h3 : k = 3
  · have hv : Hid (fld k = [1, 4]) := by subst h3; rfl
    subst h3
    go_enter Try.func90, Try.ntmps90
    go_wp2
    go_ret
    rw [hv.out]; exact fldR_lit rfl rfl rfl rfl
  by_cases h7 : k = 7
  · have hv : Hid (fld k = [1, 4]) := by subst h7; rfl
    subst h7
    go_enter Try.func90, Try.ntmps90
    go_wp2
    go_ret
    rw [hv.out]; exact fldR_lit rfl rfl rfl rfl
  by_cases h5 : k = 5
  · have hv : Hid (fld k = [1, 5]) := by subst h5; rfl
    subst h5
    go_enter Try.func90, Try.ntmps90
    go_wp2
    go_ret
    rw [hv.out]; exact fldR_lit rfl rfl rfl rfl
  by_cases h8 : k = 8
  · have hv : Hid (fld k = [1]) := by subst h8; rfl
    subst h8
    go_enter Try.func90, Try.ntmps90
    go_wp2
    go_ret
    rw [hv.out]; exact fldR_lit rfl rfl rfl rfl
  have hv : Hid (fld k = []) := by unfold Hid fld; rw [if_neg h1, if_neg h2, if_neg (by omega), if_neg h5, if_neg h8]
  have g1 : (k == 1) = false := beq_eq_false_iff_ne.2 h1
  have g2 : (k == 2) = false := beq_eq_false_iff_ne.2 h2
  have g3 : (k == 3) = false := beq_eq_false_iff_ne.2 h3
  have g7 : (k == 7) = false := beq_eq_false_iff_ne.2 h7
  have g5 : (k == 5) = false := beq_eq_false_iff_ne.2 h5
  have g8 : (k == 8) = false := beq_eq_false_iff_ne.2 h8
  clear h1 h2 h3 h7 h5 h8
  go_enter Try.func90, Try.ntmps90
  go_wp2
  go_ret
  rw [hv.out]; exact fldR_nil w
end Go.Proofs.Ytioiacmaijgdoaa.Wire
namespace Go.Proofs.Ytioiacmaijgdoaa.Wire
open Go.RowKit
set_option linter.unusedVariables false

def fldB (b d x0 x4 x5 x6 x7 : Int) (l : List Int) (f : Int) : Bool := if hasB (fld x0) f = true then okF b d x4 x5 x6 x7 l f else noF x4 x5 x6 x7 l f
def gmB (b d x0 x1 x2 x3 x4 x5 x6 x7 : Int) (l : List Int) : Bool := numsB b d [x2, x3] && inB x0 1 8 && inB x1 0 255 && (fldB b d x0 x4 x5 x6 x7 l 1 && fldB b d x0 x4 x5 x6 x7 l 2 && fldB b d x0 x4 x5 x6 x7 l 3 && fldB b d x0 x4 x5 x6 x7 l 4 && fldB b d x0 x4 x5 x6 x7 l 5)
theorem gmB_n1 {b d x0 x1 x2 x3 x4 x5 x6 x7 : Int} {l : List Int} (h : numsB b d [x2, x3] = false) : gmB b d x0 x1 x2 x3 x4 x5 x6 x7 l = false := by unfold gmB; rw [h]; rfl
theorem gmB_n2 {b d x0 x1 x2 x3 x4 x5 x6 x7 : Int} {l : List Int} (h : inB x0 1 8 = false) : gmB b d x0 x1 x2 x3 x4 x5 x6 x7 l = false := by unfold gmB; rw [h]; simp
theorem gmB_n3 {b d x0 x1 x2 x3 x4 x5 x6 x7 : Int} {l : List Int} (h : inB x1 0 255 = false) : gmB b d x0 x1 x2 x3 x4 x5 x6 x7 l = false := by unfold gmB; rw [h]; simp
theorem gmB_n4 {b d x0 x1 x2 x3 x4 x5 x6 x7 : Int} {l : List Int} {f : Int} (h1 : 1 ≤ f) (h2 : f ≤ 5) (h : fldB b d x0 x4 x5 x6 x7 l f = false) : gmB b d x0 x1 x2 x3 x4 x5 x6 x7 l = false := by
  have : f = 1 ∨ f = 2 ∨ f = 3 ∨ f = 4 ∨ f = 5 := by omega
  unfold gmB
  rcases this with rfl | rfl | rfl | rfl | rfl <;> rw [h] <;> simp
theorem gmB_yes {b d x0 x1 x2 x3 x4 x5 x6 x7 : Int} {l : List Int} (h1 : numsB b d [x2, x3] = true) (h2 : inB x0 1 8 = true) (h3 : inB x1 0 255 = true) (h : ∀ f : Int, 1 ≤ f → f ≤ 5 → fldB b d x0 x4 x5 x6 x7 l f = true) : gmB b d x0 x1 x2 x3 x4 x5 x6 x7 l = true := by
  unfold gmB
  rw [h1, h2, h3, h 1 (by omega) (by omega), h 2 (by omega) (by omega), h 3 (by omega) (by omega), h 4 (by omega) (by omega), h 5 (by omega) (by omega)]
  rfl
theorem rowAt_new4 (w : World) (o q : Obj) (x y : Int) : RowAt (((w.alloc o).alloc q).alloc (.cells #[.int .i64 x, .int .i64 y] 3)) (some ⟨w.heap.size + 1 + 1, 0, none⟩) [x, y] := by
  have h := rowAt_new2 ((w.alloc o).alloc q) x y
  simp only [World.size_alloc] at h
  exact h
theorem numsB_gs {b d : Int} {l : List Int} (h : numsB b d l = true) : gsB b d = true := by unfold numsB at h; simp at h; exact h.1
theorem bk2n {w w1 : World} {A B : Array Value} {S T : TypeId} {o : Obj} {n : Nat} (hb : Below n (((w.alloc (.cells A S)).alloc (.cells B T)).alloc o) w1) (hn : w.heap.size + 1 < n) :
    Bk w1 w.heap.size A S ∧ Bk w1 (w.heap.size + 1) B T ∧ Below w.heap.size w w1 := by
  have h1 := (((Bk.new w A S).alloc (.cells B T)).alloc o).keepN hb (by omega)
  have h2 := ((Bk.new (w.alloc (.cells A S)) B T).alloc o).keepN hb (by simp; omega)
  simp only [World.size_alloc] at h2
  exact ⟨h1, h2, bel3 hb (by omega)⟩
set_option maxRecDepth 100000 in
set_option maxHeartbeats 3200000 in
theorem lGoodMsg_any (b d : Int) (x0 x1 x2 x3 x4 x5 x6 x7 : Int) (a : Option Addr) (cap n : Nat) (l : List Int) (w : World) (hn : l.length = n) (hm : n ≤ maxLen) (hr : RowAt w a l) :
    Calls Try.prog 74 #[.agg #[.int .i64 b, .int .i64 d], .agg #[.int .i64 x0, .int .i64 x1, .int .i64 x2, .int .i64 x3, .int .i64 x4, .int .i64 x5, .int .i64 x6, .int .i64 x7, .slice a n cap]] w fun e w' => e = .returned (.bool (gmB b d x0 x1 x2 x3 x4 x5 x6 x7 l)) ∧ Below w.heap.size w w' := by
  have HR : Hid (RowAt w a l) := hr
  clear hr
  have CN : ∀ w0, Calls Try.prog 89 #[.agg #[.int .i64 b, .int .i64 d], .slice (some ⟨w.heap.size + 1 + 1, 0, none⟩) 2 2] (((w.alloc (.cells #[.int .i64 b, .int .i64 d] 28)).alloc w0).alloc (.cells #[.int .i64 x2, .int .i64 x3] 3)) fun e w' => e = .returned (.bool (numsB b d [x2, x3])) ∧ Below (w.heap.size + 1 + 1 + 1) (((w.alloc (.cells #[.int .i64 b, .int .i64 d] 28)).alloc w0).alloc (.cells #[.int .i64 x2, .int .i64 x3] 3)) w' := by
    intro w0
    refine (lnums_row b d _ _ _ [x2, x3] _ rfl (by simp [maxLen]) (rowAt_new4 w _ _ _ _)).mono ?_
    rintro e w1 ⟨rfl, hw⟩
    exact ⟨rfl, hw.mono (by simp)⟩
  cases hn1 : numsB b d [x2, x3]
  · have hv : Hid (gmB b d x0 x1 x2 x3 x4 x5 x6 x7 l = false) := gmB_n1 hn1
    rw [hn1] at CN
    go_enter Try.func74, Try.ntmps74
    go_wp2_with (go_at_call 89; refine (CN _).mono ?_; rintro e w1 ⟨rfl, hw⟩)
    go_ret
    exact ⟨ret_bool hv.out.symm, bel3 hw (by omega)⟩
  have hg : Hid (gsB b d = true) := numsB_gs hn1
  rw [hn1] at CN
  cases hn2 : inB x0 1 8
  · have hv : Hid (gmB b d x0 x1 x2 x3 x4 x5 x6 x7 l = false) := gmB_n2 hn2
    go_enter Try.func74, Try.ntmps74
    go_wp2_with fail
    refine (CN _).mono ?_
    rintro e w1 ⟨rfl, hw⟩
    obtain ⟨K1, K2, HB⟩ := bk2n hw (by omega)
    obtain ⟨q0, q1, q2, q3, q4, q5, q6, q7, q8⟩ := K2.c9
    clear CN
    go_wp2_with (go_at_call 26; refine (lin_any _ _ _ _).mono ?_; rintro e w2 ⟨rfl, rfl⟩)
    go_ret
    exact ⟨ret_bool hv.out.symm, HB⟩
  cases hn3 : inB x1 0 255
  · have hv : Hid (gmB b d x0 x1 x2 x3 x4 x5 x6 x7 l = false) := gmB_n3 hn3
    go_enter Try.func74, Try.ntmps74
    go_wp2_with fail
    refine (CN _).mono ?_
    rintro e w1 ⟨rfl, hw⟩
    obtain ⟨K1, K2, HB⟩ := bk2n hw (by omega)
    obtain ⟨q0, q1, q2, q3, q4, q5, q6, q7, q8⟩ := K2.c9
    clear CN
    go_wp2_with (first | (go_at_call 26; refine (lin_any _ _ _ _).mono ?_; rintro e w2 ⟨rfl, rfl⟩))
    go_ret
    exact ⟨ret_bool hv.out.symm, HB⟩
  have HV : Hid ((∀ f : Int, 1 ≤ f → f ≤ 5 → fldB b d x0 x4 x5 x6 x7 l f = true) → gmB b d x0 x1 x2 x3 x4 x5 x6 x7 l = true) := fun h => gmB_yes hn1 hn2 hn3 h
  go_enter Try.func74, Try.ntmps74
  go_wp2_with fail
  refine (CN _).mono ?_
  rintro e w1 ⟨rfl, hw⟩
  obtain ⟨K1, K2, HB⟩ := bk2n hw (by omega)
  have HK1 : Hid (Bk w1 w.heap.size _ _) := K1
  have HK2 : Hid (Bk w1 (w.heap.size + 1) _ _) := K2
  have HBB : Hid (Below w.heap.size w w1) := HB
  clear CN hw K1 HB
  obtain ⟨q0, q1, q2, q3, q4, q5, q6, q7, q8⟩ := K2.c9
  clear K2
  go_wp2_with (first | (go_at_call 26; refine (lin_any _ _ _ _).mono ?_; rintro e w2 ⟨rfl, hw2⟩; have hw2' := hw2.symm; clear hw2; subst hw2'))
  clear q0 q1 q2 q3 q4 q5 q6 q7 q8
  go_loopw [5] (fun vf wr => ∃ i : Nat, i ≤ 5 ∧ vf = .int .i64 ((i : Int) + 1) ∧ Hid (∀ f : Int, 1 ≤ f → f ≤ i → fldB b d x0 x4 x5 x6 x7 l f = true) ∧ Hid (Below w1.heap.size w1 wr)) (fun vf _ => 6 - (intOf vf).toNat)
  case atStart => exact ⟨0, by omega, rfl, fun f h1 h2 => by omega, Below.refl _ _⟩
  case round =>
    obtain ⟨i, hi, rfl, hs, hb⟩ := hrel
    have K1 := HK1.out.keep hb.out
    have K2 := HK2.out.keep hb.out
    obtain ⟨s0, s1⟩ := K1.c2
    obtain ⟨q0, q1, q2, q3, q4, q5, q6, q7, q8⟩ := K2.c9
    by_cases hlt : i < 5
    · have hb0 := hb
      cases hh : hasB (fld x0) ((i : Int) + 1)
      · have HF : Hid (fldB b d x0 x4 x5 x6 x7 l ((i : Int) + 1) = noF x4 x5 x6 x7 l ((i : Int) + 1)) := by unfold Hid fldB; rw [hh]; rfl
        cases hv : noF x4 x5 x6 x7 l ((i : Int) + 1)
        · skip
          go_wp2_with fail
          refine (lfieldsOf_any x0 _).mono ?_
          rintro e v1 ⟨aF0, nF0, cF0, rfl, hnF0, hcF0, oF0, hw0⟩
          have hb1 : Hid (Below w1.heap.size w1 v1) := belt hb0.out hw0
          have F0 : Hid (RowAt v1 aF0 (fld x0)) := oF0.rowAt
          clear q0 q1 q2 q3 q4 q5 q6 q7 q8 s0 s1 hw0 oF0
          obtain ⟨s0, s1⟩ := Bk.c2 (HK1.out.keep hb1.out)
          obtain ⟨q0, q1, q2, q3, q4, q5, q6, q7, q8⟩ := Bk.c9 (HK2.out.keep hb1.out)
          go_wp2_with fail
          refine (lhas_own aF0 cF0 nF0 (fld x0) _ _ hnF0 (by have := fld_big x0; unfold maxLen; omega) F0.out).mono ?_
          rintro e vx ⟨rfl, hx⟩
          rw [hh]
          have hx' := hx.symm
          clear hx
          subst hx'
          go_wp2_with fail
          refine (lfieldsOf_any x0 _).mono ?_
          rintro e v2 ⟨aF1, nF1, cF1, rfl, hnF1, hcF1, oF1, hw1⟩
          have hb2 : Hid (Below w1.heap.size w1 v2) := belt hb1.out hw1
          have F1 : Hid (RowAt v2 aF1 (fld x0)) := oF1.rowAt
          clear q0 q1 q2 q3 q4 q5 q6 q7 q8 s0 s1 hw1 oF1
          obtain ⟨s0, s1⟩ := Bk.c2 (HK1.out.keep hb2.out)
          obtain ⟨q0, q1, q2, q3, q4, q5, q6, q7, q8⟩ := Bk.c9 (HK2.out.keep hb2.out)
          go_wp2_with fail
          refine (lhas_own aF1 cF1 nF1 (fld x0) _ _ hnF1 (by have := fld_big x0; unfold maxLen; omega) F1.out).mono ?_
          rintro e vx ⟨rfl, hx⟩
          rw [hh]
          have hx' := hx.symm
          clear hx
          subst hx'
          go_wp2_with fail
          refine (lNone_any x0 x1 x2 x3 x4 x5 x6 x7 a cap n l ((i : Int) + 1) _ hn hm).mono ?_
          rintro e v3 ⟨rfl, hw2⟩
          rw [hv]
          have hb3 : Hid (Below w1.heap.size w1 v3) := belt hb2.out hw2
          clear q0 q1 q2 q3 q4 q5 q6 q7 q8 s0 s1 hw2
          obtain ⟨s0, s1⟩ := Bk.c2 (HK1.out.keep hb3.out)
          obtain ⟨q0, q1, q2, q3, q4, q5, q6, q7, q8⟩ := Bk.c9 (HK2.out.keep hb3.out)
          have hz : Hid (gmB b d x0 x1 x2 x3 x4 x5 x6 x7 l = false) := gmB_n4 (f := (i : Int) + 1) (by omega) (by omega) (by rw [HF.out, hv])
          go_wp2
          go_ret
          exact ⟨ret_bool hz.out.symm, belt HBB.out hb3.out⟩
        · skip
          go_wp2_with fail
          refine (lfieldsOf_any x0 _).mono ?_
          rintro e v1 ⟨aF0, nF0, cF0, rfl, hnF0, hcF0, oF0, hw0⟩
          have hb1 : Hid (Below w1.heap.size w1 v1) := belt hb0.out hw0
          have F0 : Hid (RowAt v1 aF0 (fld x0)) := oF0.rowAt
          clear q0 q1 q2 q3 q4 q5 q6 q7 q8 s0 s1 hw0 oF0
          obtain ⟨s0, s1⟩ := Bk.c2 (HK1.out.keep hb1.out)
          obtain ⟨q0, q1, q2, q3, q4, q5, q6, q7, q8⟩ := Bk.c9 (HK2.out.keep hb1.out)
          go_wp2_with fail
          refine (lhas_own aF0 cF0 nF0 (fld x0) _ _ hnF0 (by have := fld_big x0; unfold maxLen; omega) F0.out).mono ?_
          rintro e vx ⟨rfl, hx⟩
          rw [hh]
          have hx' := hx.symm
          clear hx
          subst hx'
          go_wp2_with fail
          refine (lfieldsOf_any x0 _).mono ?_
          rintro e v2 ⟨aF1, nF1, cF1, rfl, hnF1, hcF1, oF1, hw1⟩
          have hb2 : Hid (Below w1.heap.size w1 v2) := belt hb1.out hw1
          have F1 : Hid (RowAt v2 aF1 (fld x0)) := oF1.rowAt
          clear q0 q1 q2 q3 q4 q5 q6 q7 q8 s0 s1 hw1 oF1
          obtain ⟨s0, s1⟩ := Bk.c2 (HK1.out.keep hb2.out)
          obtain ⟨q0, q1, q2, q3, q4, q5, q6, q7, q8⟩ := Bk.c9 (HK2.out.keep hb2.out)
          go_wp2_with fail
          refine (lhas_own aF1 cF1 nF1 (fld x0) _ _ hnF1 (by have := fld_big x0; unfold maxLen; omega) F1.out).mono ?_
          rintro e vx ⟨rfl, hx⟩
          rw [hh]
          have hx' := hx.symm
          clear hx
          subst hx'
          go_wp2_with fail
          refine (lNone_any x0 x1 x2 x3 x4 x5 x6 x7 a cap n l ((i : Int) + 1) _ hn hm).mono ?_
          rintro e v3 ⟨rfl, hw2⟩
          rw [hv]
          have hb3 : Hid (Below w1.heap.size w1 v3) := belt hb2.out hw2
          clear q0 q1 q2 q3 q4 q5 q6 q7 q8 s0 s1 hw2
          obtain ⟨s0, s1⟩ := Bk.c2 (HK1.out.keep hb3.out)
          obtain ⟨q0, q1, q2, q3, q4, q5, q6, q7, q8⟩ := Bk.c9 (HK2.out.keep hb3.out)
          have hz : Hid (∀ f : Int, 1 ≤ f → f ≤ ((i + 1 : Nat) : Int) → fldB b d x0 x4 x5 x6 x7 l f = true) := fun f h1 h2 => by
            by_cases he : f = (i : Int) + 1
            · rw [he, HF.out, hv]
            · exact hs.out f h1 (by omega)
          go_wp2
          go_roundw
          case rel => exact ⟨i + 1, by omega, by go_num, hz, hb3⟩
          case measure => simp [intOf]; omega
      · have HF : Hid (fldB b d x0 x4 x5 x6 x7 l ((i : Int) + 1) = okF b d x4 x5 x6 x7 l ((i : Int) + 1)) := by unfold Hid fldB; rw [hh]; rfl
        cases hv : okF b d x4 x5 x6 x7 l ((i : Int) + 1)
        · skip
          go_wp2_with fail
          refine (lfieldsOf_any x0 _).mono ?_
          rintro e v1 ⟨aF0, nF0, cF0, rfl, hnF0, hcF0, oF0, hw0⟩
          have hb1 : Hid (Below w1.heap.size w1 v1) := belt hb0.out hw0
          have F0 : Hid (RowAt v1 aF0 (fld x0)) := oF0.rowAt
          clear q0 q1 q2 q3 q4 q5 q6 q7 q8 s0 s1 hw0 oF0
          obtain ⟨s0, s1⟩ := Bk.c2 (HK1.out.keep hb1.out)
          obtain ⟨q0, q1, q2, q3, q4, q5, q6, q7, q8⟩ := Bk.c9 (HK2.out.keep hb1.out)
          go_wp2_with fail
          refine (lhas_own aF0 cF0 nF0 (fld x0) _ _ hnF0 (by have := fld_big x0; unfold maxLen; omega) F0.out).mono ?_
          rintro e vx ⟨rfl, hx⟩
          rw [hh]
          have hx' := hx.symm
          clear hx
          subst hx'
          go_wp2_with fail
          refine (lIs_any b d x0 x1 x2 x3 x4 x5 x6 x7 a cap n l ((i : Int) + 1) _ hg.out hn hm (HR.out.keep (belt HBB.out hb1.out))).mono ?_
          rintro e v2 ⟨rfl, hw1⟩
          rw [hv]
          have hb2 : Hid (Below w1.heap.size w1 v2) := belt hb1.out hw1
          clear q0 q1 q2 q3 q4 q5 q6 q7 q8 s0 s1 hw1
          obtain ⟨s0, s1⟩ := Bk.c2 (HK1.out.keep hb2.out)
          obtain ⟨q0, q1, q2, q3, q4, q5, q6, q7, q8⟩ := Bk.c9 (HK2.out.keep hb2.out)
          have hz : Hid (gmB b d x0 x1 x2 x3 x4 x5 x6 x7 l = false) := gmB_n4 (f := (i : Int) + 1) (by omega) (by omega) (by rw [HF.out, hv])
          go_wp2
          go_ret
          exact ⟨ret_bool hz.out.symm, belt HBB.out hb2.out⟩
        · skip
          go_wp2_with fail
          refine (lfieldsOf_any x0 _).mono ?_
          rintro e v1 ⟨aF0, nF0, cF0, rfl, hnF0, hcF0, oF0, hw0⟩
          have hb1 : Hid (Below w1.heap.size w1 v1) := belt hb0.out hw0
          have F0 : Hid (RowAt v1 aF0 (fld x0)) := oF0.rowAt
          clear q0 q1 q2 q3 q4 q5 q6 q7 q8 s0 s1 hw0 oF0
          obtain ⟨s0, s1⟩ := Bk.c2 (HK1.out.keep hb1.out)
          obtain ⟨q0, q1, q2, q3, q4, q5, q6, q7, q8⟩ := Bk.c9 (HK2.out.keep hb1.out)
          go_wp2_with fail
          refine (lhas_own aF0 cF0 nF0 (fld x0) _ _ hnF0 (by have := fld_big x0; unfold maxLen; omega) F0.out).mono ?_
          rintro e vx ⟨rfl, hx⟩
          rw [hh]
          have hx' := hx.symm
          clear hx
          subst hx'
          go_wp2_with fail
          refine (lIs_any b d x0 x1 x2 x3 x4 x5 x6 x7 a cap n l ((i : Int) + 1) _ hg.out hn hm (HR.out.keep (belt HBB.out hb1.out))).mono ?_
          rintro e v2 ⟨rfl, hw1⟩
          rw [hv]
          have hb2 : Hid (Below w1.heap.size w1 v2) := belt hb1.out hw1
          clear q0 q1 q2 q3 q4 q5 q6 q7 q8 s0 s1 hw1
          obtain ⟨s0, s1⟩ := Bk.c2 (HK1.out.keep hb2.out)
          obtain ⟨q0, q1, q2, q3, q4, q5, q6, q7, q8⟩ := Bk.c9 (HK2.out.keep hb2.out)
          go_wp2_with fail
          refine (lfieldsOf_any x0 _).mono ?_
          rintro e v3 ⟨aF2, nF2, cF2, rfl, hnF2, hcF2, oF2, hw2⟩
          have hb3 : Hid (Below w1.heap.size w1 v3) := belt hb2.out hw2
          have F2 : Hid (RowAt v3 aF2 (fld x0)) := oF2.rowAt
          clear q0 q1 q2 q3 q4 q5 q6 q7 q8 s0 s1 hw2 oF2
          obtain ⟨s0, s1⟩ := Bk.c2 (HK1.out.keep hb3.out)
          obtain ⟨q0, q1, q2, q3, q4, q5, q6, q7, q8⟩ := Bk.c9 (HK2.out.keep hb3.out)
          go_wp2_with fail
          refine (lhas_own aF2 cF2 nF2 (fld x0) _ _ hnF2 (by have := fld_big x0; unfold maxLen; omega) F2.out).mono ?_
          rintro e vx ⟨rfl, hx⟩
          rw [hh]
          have hx' := hx.symm
          clear hx
          subst hx'
          have hz : Hid (∀ f : Int, 1 ≤ f → f ≤ ((i + 1 : Nat) : Int) → fldB b d x0 x4 x5 x6 x7 l f = true) := fun f h1 h2 => by
            by_cases he : f = (i : Int) + 1
            · rw [he, HF.out, hv]
            · exact hs.out f h1 (by omega)
          go_wp2
          go_roundw
          case rel => exact ⟨i + 1, by omega, by go_num, hz, hb3⟩
          case measure => simp [intOf]; omega
    · have hv : Hid (gmB b d x0 x1 x2 x3 x4 x5 x6 x7 l = true) := HV.out (fun f h1 h2 => hs.out f h1 (by omega))
      go_wp2
      go_ret
      exact ⟨ret_bool hv.out.symm, belt HBB.out hb.out⟩
end Go.Proofs.Ytioiacmaijgdoaa.Wire
namespace Go.Proofs.Ytioiacmaijgdoaa
open Go.RowKit
set_option linter.unusedVariables false
set_option linter.unusedSimpArgs false
structure Nt where
  b : Int
  d : Int
  ttl : Int
  ps : List Pr
  ms : List Mg
  gs : List Int
  rs : List Rp
def nt0 : Nt := ⟨0, 0, 0, [], [], [], []⟩
/-- a net and a bool are answered, in memory of the call's own -/
def NetOut (w : World) (X : Nt) (g : Bool) (e : Ending) (w' : World) : Prop := ∃ (ap am ag ar : Option Addr) (cp cm cg cr : Nat), e = .returned (.tuple #[.agg #[.int .i64 X.b, .int .i64 X.d, .slice ap X.ps.length cp, .int .i64 X.ttl, .slice am X.ms.length cm, .slice ag X.gs.length cg, .slice ar X.rs.length cr], .bool g]) ∧ OwnN w.heap.size w'.heap.size w' ap am ag ar X.ps.length X.ms.length X.gs.length X.rs.length X.ps X.ms X.gs X.rs ∧ Below w.heap.size w w'
/-- a net and a bool are answered -/
def NetSay (w : World) (X : Nt) (g : Bool) (e : Ending) (w' : World) : Prop := ∃ (ap am ag ar : Option Addr) (cp cm cg cr : Nat), e = .returned (.tuple #[.agg #[.int .i64 X.b, .int .i64 X.d, .slice ap X.ps.length cp, .int .i64 X.ttl, .slice am X.ms.length cm, .slice ag X.gs.length cg, .slice ar X.rs.length cr], .bool g]) ∧ NetAt w' ap am ag ar X.ps X.ms X.gs X.rs ∧ Below w.heap.size w w'
theorem ownN_peers {B T p0 p1 np : Nat} {w : World} {a : Option Addr} {ps : List Pr} (h : OwnPs p0 p1 w a np ps) (h1 : B ≤ p0) (h2 : p0 ≤ p1) (h3 : p1 ≤ T) : OwnN B T w a none none none np 0 0 0 ps [] [] [] :=
  ⟨⟨p0, p1, T, T, T, T, T, T, by omega, by omega, h, ownEs_nil _ _ _ _ _ _, ownLs_nil _ _ _ _, ownEs_nil _ _ _ _ _ _⟩⟩
theorem ownN_nil (B T : Nat) (w : World) (h : B ≤ T) : OwnN B T w none none none none 0 0 0 0 [] [] [] [] := ownN_peers (p0 := B) (p1 := B) (ownPs_nil _ _ _ _) (Nat.le_refl _) (Nat.le_refl _) h
/-- two blocks: what came in, the answer -/
structure T2 (w wr : World) (A : Array Value) (TA : TypeId) (R : Array Value) (TR : TypeId) : Prop where
  bel : Below w.heap.size w wr
  ka : Wire.Bk wr w.heap.size A TA
  kr : Wire.Bk wr (w.heap.size + 1) R TR
theorem T2.keep {w wr w1 : World} {A R : Array Value} {TA TR : TypeId} (h : T2 w wr A TA R TR) (hb : Below wr.heap.size wr w1) : T2 w w1 A TA R TR := ⟨belt h.bel hb, h.ka.keep hb, h.kr.keep hb⟩
theorem T2.res {w wr : World} {A R : Array Value} {TA TR : TypeId} (h : T2 w wr A TA R TR) (i : Nat) (vs : List Value) : T2 w (Wire.setL wr (w.heap.size + 1) i vs) A TA (Wire.ovr R i vs) TR :=
  ⟨Wire.setL_below (by omega) vs i h.bel, wireOth h.ka (by omega) i vs, h.kr.setL vs i⟩
theorem t20 (w : World) (A R : Array Value) (TA TR : TypeId) : T2 w ((w.alloc (.cells A TA)).alloc (.cells R TR)) A TA R TR := by
  obtain ⟨h1, h2, h3⟩ := Wire.bkAB (w := w) (A := A) (B := R) (S := TA) (T := TR) (Below.refl _ _)
  exact ⟨h3, h1, h2⟩
theorem netOut_no {w wr : World} {A : Array Value} {TA : TypeId} (h : T2 w wr A TA #[.int .i64 0, .int .i64 0, .slice none 0 0, .int .i64 0, .slice none 0 0, .slice none 0 0, .slice none 0 0] 36) : Wire.Bk (Wire.setL wr (w.heap.size + 1) 0 [.int .i64 0, .int .i64 0, .slice none 0 0, .int .i64 0, .slice none 0 0, .slice none 0 0, .slice none 0 0]) (w.heap.size + 1) #[.int .i64 0, .int .i64 0, .slice none 0 0, .int .i64 0, .slice none 0 0, .slice none 0 0, .slice none 0 0] 36 ∧ NetOut w nt0 false (.returned (.tuple #[.agg #[.int .i64 0, .int .i64 0, .slice none 0 0, .int .i64 0, .slice none 0 0, .slice none 0 0, .slice none 0 0], .bool false])) (Wire.setL wr (w.heap.size + 1) 0 [.int .i64 0, .int .i64 0, .slice none 0 0, .int .i64 0, .slice none 0 0, .slice none 0 0, .slice none 0 0]) := by
  have h1 := h.res 0 [.int .i64 0, .int .i64 0, .slice none 0 0, .int .i64 0, .slice none 0 0, .slice none 0 0, .slice none 0 0]
  rw [ovrE] at h1
  exact ⟨h1.kr, none, none, none, none, 0, 0, 0, 0, rfl, ownN_nil _ _ _ h1.bel.size, h1.bel⟩
theorem NetOut.say {w : World} {X : Nt} {g : Bool} {e : Ending} {w' : World} (h : NetOut w X g e w') : NetSay w X g e w' := by
  obtain ⟨ap, am, ag, ar, cp, cm, cg, cr, he, ho, hb⟩ := h
  exact ⟨ap, am, ag, ar, cp, cm, cg, cr, he, ho.at, hb⟩
/-- when a message may be on its way -/
def okMg (b d : Int) (ids : List Int) (m : Mg) : Bool := Wire.gmB b d m.x0 m.x1 m.x2 m.x3 m.x4 m.x5 m.x6 m.x7 m.l && inB m.x0 1 3 && hasB ids m.x2 && hasB ids m.x3
/-- the looks of messages and replies -/
def lkM (ms : List Mg) : List Int := ms.map (fun m => m.x1)
def lkR (rs : List Rp) : List Int := rs.map (fun m => m.x0)
/-- all looks are begun, no two the same -/
def appB (gs L : List Int) : Bool := decide (∀ i, i < L.length → hasB gs (L.getD i 0) = true ∧ hasB (L.take i) (L.getD i 0) = false)
def goodN (b d ttl : Int) (ps : List Pr) (ms : List Mg) (gs : List Int) (rs : List Rp) : Bool :=
  goodP b d ps && inB ttl 0 1000 && decide (ms.length ≤ 12) && decide (gs.length ≤ 12) && risB gs 0 255 && decide (∀ i, i < ms.length → okMg b d (idsP ps) (ms.getD i mg0) = true) && appB gs (lkM ms ++ lkR rs)
theorem hasB_mem {l : List Int} {x : Int} : hasB l x = true ↔ x ∈ l := by
  unfold hasB
  rw [decide_eq_true_iff]
  constructor
  · rintro ⟨i, hi, he⟩
    rw [List.getD_eq_getElem?_getD, List.getElem?_eq_getElem hi] at he
    simp at he
    exact he ▸ List.getElem_mem hi
  · intro h
    obtain ⟨i, hi, he⟩ := List.getElem_of_mem h
    exact ⟨i, hi, by rw [List.getD_eq_getElem?_getD, List.getElem?_eq_getElem hi]; simpa using he⟩
theorem php : ∀ (L gs : List Int), L.Nodup → (∀ x ∈ L, x ∈ gs) → L.length ≤ gs.length
  | [], _, _, _ => Nat.zero_le _
  | x :: L, gs, hn, hs => by
    have hx := hs x (by simp)
    obtain ⟨h1, h2⟩ := List.nodup_cons.1 hn
    have h3 := php L (gs.erase x) h2 (fun y hy => (List.mem_erase_of_ne (show y ≠ x from fun e => h1 (by rw [← e]; exact hy))).2 (hs y (by simp [hy])))
    rw [List.length_erase_of_mem hx] at h3
    have h4 := List.length_pos_of_mem hx
    simp only [List.length_cons]
    omega
theorem appB_len {gs L : List Int} (h : appB gs L = true) : L.length ≤ gs.length := by
  have h' := of_decide_eq_true h
  have gE : ∀ i (hi : i < L.length), L.getD i 0 = L[i] := fun i hi => by rw [List.getD_eq_getElem?_getD, List.getElem?_eq_getElem hi]; rfl
  refine php L gs (List.pairwise_iff_getElem.2 (fun i j hi hj hij he => ?_)) (fun x hx => ?_)
  · have h2 := (h' j hj).2
    have : hasB (L.take j) (L.getD j 0) = true := hasB_mem.2 (by
      rw [gE j hj, ← he]
      exact List.mem_take_iff_getElem.2 ⟨i, by omega, rfl⟩)
    rw [this] at h2
    cases h2
  · obtain ⟨i, hi, rfl⟩ := List.getElem_of_mem hx
    have := (h' i hi).1
    rw [gE i hi] at this
    exact hasB_mem.1 this
theorem lkM_len (ms : List Mg) : (lkM ms).length = ms.length := List.length_map _
theorem lkR_len (ms : List Rp) : (lkR ms).length = ms.length := List.length_map _
theorem lkM_get {ms : List Mg} {i : Nat} (h : i < ms.length) : (lkM ms).getD i 0 = (ms.getD i mg0).x1 := by simp [lkM, List.getD_eq_getElem?_getD, h]
theorem lkR_get {ms : List Rp} {i : Nat} (h : i < ms.length) : (lkR ms).getD i 0 = (ms.getD i rp0).x0 := by simp [lkR, List.getD_eq_getElem?_getD, h]
theorem goodN_len {b d ttl : Int} {ps : List Pr} {ms : List Mg} {gs : List Int} {rs : List Rp} (h : goodN b d ttl ps ms gs rs = true) : ms.length + rs.length ≤ gs.length ∧ gs.length ≤ 12 := by
  unfold goodN at h
  simp only [Bool.and_eq_true, decide_eq_true_eq] at h
  have := appB_len h.2
  rw [List.length_append, lkM_len, lkR_len] at this
  omega
def newB (b d : Int) (ps : List Pr) (ttl : Int) : Bool := goodP b d ps && inB ttl 0 1000
def newA (b d : Int) (ps : List Pr) (ttl : Int) : Nt := if newB b d ps ttl = true then ⟨b, d, ttl, ps, [], [], []⟩ else nt0
theorem newA_no {b d : Int} {ps : List Pr} {ttl : Int} (h : newB b d ps ttl = false) : newA b d ps ttl = nt0 := if_neg (by rw [h]; simp)
theorem newA_yes {b d : Int} {ps : List Pr} {ttl : Int} (h : newB b d ps ttl = true) : newA b d ps ttl = ⟨b, d, ttl, ps, [], [], []⟩ := if_pos h
theorem nt0_big : BigN nt0.ps nt0.ms nt0.gs nt0.rs := ⟨by simp [nt0, bsum], by simp [nt0, lsum, sumL], by simp [nt0], by simp [nt0]⟩
theorem newA_big (b d : Int) (ps : List Pr) (ttl : Int) (h : ps.length + bsum ps ≤ 1048576) : BigN (newA b d ps ttl).ps (newA b d ps ttl).ms (newA b d ps ttl).gs (newA b d ps ttl).rs := by
  unfold newA
  split
  · exact ⟨h, by simp [lsum, sumL], by simp, by simp⟩
  · exact nt0_big
end Go.Proofs.Ytioiacmaijgdoaa
namespace Go.Proofs.Ytioiacmaijgdoaa
open Go.RowKit
set_option linter.unusedVariables false
/-- how far it is up to the first number whose last n digits are the first n of the key -/
def up4 (b d f k n : Int) : Int := (k / sz ((b / d - n) * d) - f % sz (n * d) + sz (n * d)) % sz (n * d)
def best (b d f m k : Int) : Nat → Int × Int
  | 0 => (f, b / d)
  | n + 1 => if up4 b d f k (n + 1 : Nat) < m then ((f + up4 b d f k (n + 1 : Nat)) % sz b, b / d - (n + 1 : Nat)) else best b d f m k n
def bestI (b d f t k : Int) : Int × Int := best b d f (rnd b f t) k (cnt b d)
structure Wk where
  at_ : Int
  imag : Int
  left : Int
  points : Int
  succs : Int
  state : Int
  owner : Int
def wk0 : Wk := ⟨0, 0, 0, 0, 0, 0, 0⟩
def Wk.cells (v : Wk) : Array Value := #[.int .i64 v.at_, .int .i64 v.imag, .int .i64 v.left, .int .i64 v.points, .int .i64 v.succs, .int .i64 v.state, .int .i64 v.owner]
def prN : Pr := ⟨-1, 0, 0, []⟩
def peerI : List Pr → Int → Pr
  | [], _ => prN
  | p :: ps, x => if p.id = x then p else peerI ps x
def dgt4 (d k l : Int) : Int := k / sz ((l - 1) * d) % sz d
def stp (b d : Int) (ps : List Pr) (k ttl : Int) (v : Wk) : Wk :=
  if k = v.at_ then ⟨v.at_, v.imag, v.left, v.points, v.succs, 1, v.at_⟩
  else if arcB b v.at_ k (peerI ps v.at_).succ = true then ⟨v.at_, v.imag, v.left, v.points, v.succs, 1, (peerI ps v.at_).succ⟩
  else if ttl ≤ v.points + v.succs then ⟨v.at_, v.imag, v.left, v.points, v.succs, 2, v.owner⟩
  else if 0 < v.left ∧ (v.imag = v.at_ ∨ btwB b v.at_ v.imag (peerI ps v.at_).succ = true) then ⟨(peerI ps v.at_).point, shf b d v.imag (dgt4 d k v.left), v.left - 1, v.points + 1, v.succs, v.state, v.owner⟩
  else ⟨(peerI ps v.at_).succ, v.imag, v.left, v.points, v.succs + 1, v.state, v.owner⟩
def askP (b d : Int) (ps : List Pr) (x k : Int) : Bool := goodP b d ps && hasB (idsP ps) x && numB b d k
def stt (b d : Int) (ps : List Pr) (x k : Int) : Wk := ⟨x, (bestI b d x (peerI ps x).succ k).1, (bestI b d x (peerI ps x).succ k).2, 0, 0, 0, 0⟩
def wkB (b d : Int) (ps : List Pr) (v : Wk) : Bool := numB b d v.imag && inB v.left 0 (b / d) && inB v.points 0 1000 && inB v.succs 0 1000 && inB v.state 0 2 && (if v.state = 1 then hasB (idsP ps) v.owner else decide (v.owner = 0))
def goodW (b d : Int) (ps : List Pr) (k : Int) (v : Wk) : Bool := askP b d ps v.at_ k && wkB b d ps v
def rtW (b d : Int) (ps : List Pr) (k ttl : Int) : Nat → Wk → Wk
  | 0, v => v
  | n + 1, v => if v.state = 0 then rtW b d ps k ttl n (stp b d ps k ttl v) else v
def rtL (b d : Int) (ps : List Pr) (k ttl : Int) : Nat → Wk → List Int
  | 0, _ => []
  | n + 1, v => if v.state = 0 then (if v.points + v.succs < (stp b d ps k ttl v).points + (stp b d ps k ttl v).succs then [(stp b d ps k ttl v).at_] else []) ++ rtL b d ps k ttl n (stp b d ps k ttl v) else []
def bndI (b d : Int) (n : Nat) : Int := b / d + (b / d + 1) * ((n : Int) - 1)
theorem peerI_mem : ∀ (ps : List Pr) (x : Int), hasB (idsP ps) x = true → (peerI ps x).id = x ∧ ∃ i, i < ps.length ∧ peerI ps x = ps.getD i pr0
  | [], x, h => by
    have := of_decide_eq_true h
    obtain ⟨i, hi, _⟩ := this
    simp [idsP] at hi
  | p :: ps, x, h => by
    unfold peerI
    by_cases he : p.id = x
    · rw [if_pos he]
      exact ⟨he, 0, by simp, by simp⟩
    · rw [if_neg he]
      have h2 : hasB (idsP ps) x = true := by
        obtain ⟨i, hi, hx⟩ := of_decide_eq_true h
        cases i with
        | zero => exact absurd (by simpa [idsP] using hx) he
        | succ i => exact decide_eq_true ⟨i, by simpa [idsP] using hi, by simpa [idsP] using hx⟩
      obtain ⟨h3, i, hi, h4⟩ := peerI_mem ps x h2
      exact ⟨h3, i + 1, by simpa using hi, by simpa using h4⟩
/-- of good peers: what a peer's numbers are -/
theorem peerI_good {b d : Int} {ps : List Pr} (hg : goodP b d ps = true) {x : Int} (hx : hasB (idsP ps) x = true) : (peerI ps x).id = x ∧ (peerI ps x).succ = nxtI (idsP ps) x ∧ hasB (idsP ps) (peerI ps x).point = true := by
  obtain ⟨h1, i, hi, h2⟩ := peerI_mem ps x hx
  have := prB_parts.1 ((goodP_true hg).2 i hi)
  rw [← h2] at this
  exact ⟨h1, by rw [this.1, h1], this.2.1⟩
theorem has_rng {b d : Int} {zs : List Int} (R : Ring b d zs) {x : Int} (h : hasB zs x = true) : 0 ≤ x ∧ x < sz b := by
  obtain ⟨i, hi, rfl⟩ := of_decide_eq_true h
  exact R.rng i hi
theorem askP_parts {b d : Int} {ps : List Pr} {x k : Int} (h : askP b d ps x k = true) : goodP b d ps = true ∧ hasB (idsP ps) x = true ∧ 0 ≤ k ∧ k < sz b := by
  unfold askP at h
  simp only [Bool.and_eq_true] at h
  obtain ⟨_, h1, h2⟩ := numB_true h.2
  exact ⟨h.1.1, h.1.2, h1, h2⟩
theorem nxt_has {b d : Int} {zs : List Int} (R : Ring b d zs) (x : Int) : hasB zs (nxtI zs x) = true := decide_eq_true ⟨uptI zs x % zs.length, Nat.mod_lt _ (by have := R.l1; omega), rfl⟩
end Go.Proofs.Ytioiacmaijgdoaa
