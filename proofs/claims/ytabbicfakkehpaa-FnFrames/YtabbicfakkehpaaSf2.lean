/- Texts in the laws: compared, marked, looked at again. -/
import Derived.Test.YtabbicfakkehpaaSf1
import Derived.Test.YtabbicfakkehpaaBy2
import Derived.Deep.RegionHeld
import Derived.BigQuiet
import Derived.Deep.QuietTactic
namespace Go.Proofs.Ytabbicfakkehpaa
open Go.RowKit
set_option linter.unusedVariables false
set_option linter.unusedSimpArgs false
def e0 : ByteArray := ⟨#[]⟩
/-- a row of texts that may be read -/
def TxtAt (w : World) (a : Option Addr) (L : List ByteArray) : Prop := L = [] ∨ ∃ b off, a = some ⟨b, off, none⟩ ∧ b < w.heap.size ∧ ∀ i, i < L.length → w.cell? ⟨b, off + i, none⟩ = some (.string (L.getD i e0))
theorem TxtAt.keep {w w1 : World} {a : Option Addr} {L : List ByteArray} (h : TxtAt w a L) (hb : Below w.heap.size w w1) : TxtAt w1 a L := by
  rcases h with h | ⟨b, off, ha, hl, hc⟩
  · exact .inl h
  · exact .inr ⟨b, off, ha, Nat.lt_of_lt_of_le hl hb.size, fun i hi => (hb.cell (p := ⟨b, off + i, none⟩) hl).trans (hc i hi)⟩
theorem txt_form {w : World} {a : Option Addr} {L : List ByteArray} (h : TxtAt w a L) (hz : 0 < L.length) : ∃ b off, a = some ⟨b, off, none⟩ ∧ b < w.heap.size ∧ ∀ i, i < L.length → w.cell? ⟨b, off + i, none⟩ = some (.string (L.getD i e0)) := by
  rcases h with rfl | ⟨b, off, ha, hl, hc⟩
  · simp at hz
  · exact ⟨b, off, ha, hl, hc⟩
theorem OwT.form {B : Nat} {w : World} {v : Value} {L : List ByteArray} (h : OwT B w v L) : ∃ a c, v = .slice a L.length c ∧ TxtAt w a L := by
  rcases h.2 with ⟨rfl, h0⟩ | ⟨g, cap, cur, rfl, hg, hr, h1, h2, h3, h4⟩
  · have : L = [] := List.eq_nil_of_length_eq_zero h0
    subst this
    exact ⟨none, 0, rfl, .inl rfl⟩
  · refine ⟨_, cap, rfl, .inr ⟨g, 0, rfl, (Array.getElem?_eq_some_iff.1 hr).1, fun i hi => ?_⟩⟩
    rw [cell_of_row w _ _ _ _ _ hr]
    have h8 := congrArg (·[i]?) h4
    simp only [Nat.mul_one, List.getElem?_take_of_lt hi, Array.getElem?_toList, List.getElem?_map] at h8
    rw [Nat.zero_add, h8, List.getD_eq_getElem?_getD, List.getElem?_eq_getElem hi]
    rfl
theorem bytes_same (s : ByteArray) : (s.toList == s.toList) = true := by simp
set_option maxHeartbeats 800000 in
theorem eqStringS_own (a a' : Option Addr) (cap cap' n : Nat) (L : List ByteArray) (w : World) (hn : L.length = n) (hm : n ≤ 1048576) (hx : TxtAt w a L) (hy : TxtAt w a' L) :
    Calls Try.prog 30 #[.slice a n cap, .slice a' n cap'] w fun e w' => e = .returned (.bool true) ∧ Below w.heap.size w w' := by
  subst hn
  have HX : Hid (TxtAt w a L) := hx
  have HY : Hid (TxtAt w a' L) := hy
  clear hx hy
  go_enter Try.func30, Try.ntmps30
  go_wp2_with fail
  go_loopw [5] (fun vi wr => ∃ k : Nat, k ≤ L.length ∧ vi = .int .i64 k ∧ ∃ n, wr = w.drewN n) (fun vi _ => L.length - (intOf vi).toNat)
  case atStart => exact ⟨0, Nat.zero_le _, rfl, 0, rfl⟩
  case round =>
    obtain ⟨k, hk, rfl, n, rfl⟩ := hrel
    by_cases hlt : k < L.length
    · obtain ⟨bk, off, rfl, _, hc⟩ := txt_form HX.out (by omega)
      obtain ⟨bk2, off2, rfl, _, hd⟩ := txt_form HY.out (by omega)
      have hc1 := hc k hlt
      have hc2 := hd k hlt
      clear hc hd
      generalize L.getD k e0 = x at hc1 hc2
      have hsame := bytes_same x
      go_wp2
      go_quiet (fail)
      go_wp2
      go_roundw
      case rel => exact ⟨k + 1, by omega, by go_num, _, rfl⟩
      case measure => simp [intOf]; omega
    · go_wp2
      go_ret
      exact ⟨rfl, below_drewN (Below.refl _ _) _⟩
/-- a number's digits, laid ahead of a text -/
def mlo : Nat → Int → ByteArray → ByteArray
  | 0, _, s => s
  | n + 1, k, s => if 0 < k then mlo n (k / 10) (strOfNums [48 + k % 10] ++ s) else s
def mt (k : Int) : ByteArray := ⟨#[109]⟩ ++ mlo k.toNat k ⟨#[]⟩
theorem mlo_step {n : Nat} {k : Int} {s : ByteArray} (h : 0 < k) (hn : k.toNat ≤ n) : ∃ m, (k / 10).toNat ≤ m ∧ m < n ∧ mlo n k s = mlo m (k / 10) (strOfNums [48 + k % 10] ++ s) := by
  obtain ⟨m, rfl⟩ : ∃ m, n = m + 1 := ⟨n - 1, by omega⟩
  exact ⟨m, by omega, by omega, by rw [mlo, if_pos h]⟩
theorem mlo_end {n : Nat} {k : Int} {s : ByteArray} (h : ¬ 0 < k) : mlo n k s = s := by
  cases n with
  | zero => rfl
  | succ n => rw [mlo, if_neg h]
theorem ret_str {s s' : ByteArray} (h : s = s') : Ending.returned (.string s) = .returned (.string s') := by rw [h]
set_option maxHeartbeats 1600000 in
theorem markText_any (k : Int) (w : World) (h1 : 1 ≤ k) (h2 : k ≤ 1099511627776) :
    Calls Try.prog 60 #[.int .i64 k] w fun e w' => e = .returned (.string (mt k)) ∧ Below w.heap.size w w' := by
  have HK : Hid (mlo k.toNat k ⟨#[]⟩ = mlo k.toNat k ⟨#[]⟩) := rfl
  obtain ⟨R, hR⟩ : ∃ R, Hid (mlo k.toNat k ⟨#[]⟩ = R) := ⟨_, rfl⟩
  have HM : Hid (mt k = ⟨#[109]⟩ ++ R) := by unfold Hid mt; rw [hR.out]
  clear HK
  go_enter Try.func60, Try.ntmps60
  go_wp2_with fail
  go_loopw [0, 3] (fun vk vs wr => ∃ (q : Int) (s : ByteArray) (n : Nat), vk = .int .i64 q ∧ vs = .string s ∧ 0 ≤ q ∧ q ≤ 1099511627776 ∧ q.toNat ≤ n ∧ s.size + n ≤ k.toNat ∧ Hid (mlo n q s = R) ∧ Hid (Below w.heap.size w wr)) (fun vk _ _ => (intOf vk).toNat)
  case atStart => exact ⟨k, ⟨#[]⟩, k.toNat, rfl, rfl, by omega, h2, Nat.le_refl _, by simp [ByteArray.size], hR, Below.refl _ _⟩
  case round =>
    obtain ⟨q, s, n, rfl, rfl, q1, q2, hn, hsz, hm, bb⟩ := hrel
    by_cases hq : 0 < q
    · obtain ⟨m, hm1, hm2, hm3⟩ := mlo_step (s := s) hq hn
      have HM2 : Hid (mlo m (q / 10) (strOfNums [48 + q % 10] ++ s) = R) := by unfold Hid; rw [← hm3]; exact hm.out
      have hcv := conv_owb (OwB.lit1 wr (48 + q % 10))
      have hsn : (strOfNums [48 + q % 10] ++ s).size = 1 + s.size := by rw [ByteArray.size_append, strOfNums_size]; rfl
      have hlim : ¬ 9223372036854775807 < (strOfNums [48 + q % 10]).size + s.size := by rw [strOfNums_size]; simp; omega
      clear hm3 hm hn
      go_wp2
      go_roundw
      case rel => exact ⟨q / 10, strOfNums [48 + q % 10] ++ s, m, rfl, rfl, by omega, by omega, hm1, by rw [hsn]; omega, HM2, bb.out.alloc bb.out.size _⟩
      case measure => simp [intOf]; omega
    · have he := mlo_end (n := n) (s := s) hq
      have HS : Hid (s = R) := by unfold Hid; rw [← hm.out, he]
      have hlim : ¬ 9223372036854775807 < (⟨#[109]⟩ : ByteArray).size + s.size := by rw [show (⟨#[109]⟩ : ByteArray).size = 1 from rfl]; omega
      clear he hm
      go_wp2
      go_ret
      exact ⟨ret_str (by rw [HM.out, HS.out]), bb.out⟩
def mtS (k0 : Int) (L : List ByteArray) (i : Nat) : List ByteArray := (List.range i).map (fun j : Nat => mt (k0 + (j : Int))) ++ L.drop i
theorem mtS_len {k0 : Int} {L : List ByteArray} {i : Nat} (h : i ≤ L.length) : (mtS k0 L i).length = L.length := by simp [mtS]; omega
theorem mtS_set {k0 : Int} {L : List ByteArray} {i : Nat} (h : i < L.length) : (mtS k0 L i).set i (mt (k0 + (i : Int))) = mtS k0 L (i + 1) := by
  unfold mtS
  rw [List.range_succ, List.map_append, List.set_append_right _ _ (by simp), List.drop_eq_getElem_cons h]
  simp only [List.length_map, List.length_range, Nat.sub_self, List.set_cons_zero, List.append_assoc, List.map_cons, List.map_nil, List.cons_append, List.nil_append]
theorem mtS_get {k0 : Int} {L : List ByteArray} {n i : Nat} (hn : L.length = n) (h : i < n) : (mtS k0 L n).getD i e0 = mt (k0 + (i : Int)) := by
  unfold mtS
  rw [List.getD_eq_getElem?_getD, List.getElem?_append_left (by simpa using h)]
  simp [h]
theorem OwT.row {B : Nat} {w : World} {g n cap : Nat} {L : List ByteArray} (h : OwT B w (.slice (some ⟨g, 0, none⟩) n cap) L) : B ≤ g ∧ L.length = n ∧ n ≤ cap ∧ cap ≤ maxLen ∧ ∃ cur, w.heap[g]? = some (.cells cur 9 (0, 0)) ∧ cur.size = cap ∧ cur.toList.take n = L.map Value.string := by
  rcases h.2 with ⟨h1, _⟩ | ⟨g', cap', cur, h1, hg, hr, h2, h3, h4, h5⟩
  · cases h1
  · simp at h1
    obtain ⟨rfl, h6, rfl⟩ := h1
    subst h6
    exact ⟨hg, rfl, h2, h3, cur, hr, by simpa using h4, by simpa using h5⟩
theorem OwT.put {B : Nat} {w : World} {g n cap : Nat} {L : List ByteArray} (h : OwT B w (.slice (some ⟨g, 0, none⟩) n cap) L) (i : Nat) (x : ByteArray) (hi : i < L.length) : OwT B (w.setCell ⟨g, i, none⟩ (.string x)) (.slice (some ⟨g, 0, none⟩) n cap) (L.set i x) := by
  obtain ⟨h1, h2, h3, h4, cur, h5, h6, h7⟩ := h.row
  subst h2
  refine ⟨by simp, .inr ⟨g, cap, _, by simp, h1, heap_setCell_same _ _ _ _ _ _ h5, by simpa using h3, h4, by simpa using h6, ?_⟩⟩
  rw [Array.toList_setIfInBounds, List.length_set, Nat.mul_one, List.take_set, h7, List.map_set]
theorem OwT.at {B : Nat} {w : World} {g n cap : Nat} {L : List ByteArray} (h : OwT B w (.slice (some ⟨g, 0, none⟩) n cap) L) (i : Nat) (hi : i < n) : w.cell? ⟨g, i, none⟩ = some (.string (L.getD i e0)) ∧ w.frozen? ⟨g, i, none⟩ = false := by
  obtain ⟨h1, h2, h3, h4, cur, h5, h6, h7⟩ := h.row
  refine ⟨?_, frozen_of_row w _ _ _ _ h5⟩
  rw [cell_of_row w _ _ _ _ _ h5]
  have h8 := congrArg (·[i]?) h7
  simp only [List.getElem?_take_of_lt hi, Array.getElem?_toList, List.getElem?_map] at h8
  rw [h8, List.getD_eq_getElem?_getD, List.getElem?_eq_getElem (by omega)]
  rfl
/-- a row of texts among the blocks from B to T, or an empty one -/
def OwTs (B T : Nat) (w : World) (v : Value) (L : List ByteArray) : Prop := OwT B w v L ∧ ∀ k, v.ownBlock = some k → k < T
theorem OwTs.blocks {B T : Nat} {w w1 : World} {v : Value} {L : List ByteArray} (h : OwTs B T w v L) (hb : ∀ k, B ≤ k → k < T → k < w.heap.size → w1.heap[k]? = w.heap[k]?) : OwTs B T w1 v L := by
  obtain ⟨⟨h1, h2⟩, h3⟩ := h
  refine ⟨⟨h1, ?_⟩, h3⟩
  rcases h2 with h2 | ⟨g, cap, cur, rfl, hg, hr, rest⟩
  · exact .inl h2
  · exact .inr ⟨g, cap, cur, rfl, hg, (hb g hg (h3 g rfl) (Array.getElem?_eq_some_iff.1 hr).1).trans hr, rest⟩
theorem OwTs.keep {B T : Nat} {w w1 : World} {v : Value} {L : List ByteArray} (h : OwTs B T w v L) (hb : Below w.heap.size w w1) : OwTs B T w1 v L := h.blocks (fun k _ _ hk => hb.block k hk)
theorem owts_of {B T : Nat} {w : World} {v : Value} {L : List ByteArray} (h : OwT B w v L) (hT : w.heap.size ≤ T) : OwTs B T w v L := ⟨h, fun k hk => Nat.lt_of_lt_of_le (h.lo k hk).2 hT⟩
theorem Mk.trans {B T : Nat} {w w1 w2 : World} (h : Mk B T w w1) (k : Mk B T w1 w2) : Mk B T w w2 :=
  ⟨fun n w0 hn hb => k.below n w0 hn (h.below n w0 hn hb), fun j hj hn => (k.block j (by have := h.size; omega) hn).trans (h.block j hj hn), Nat.le_trans h.size k.size⟩
theorem Mk.put {B T : Nat} {w w1 : World} (h : Mk B T w w1) {g : Nat} (h1 : B ≤ g) (h2 : g < T) (i : Nat) (v : Value) : Mk B T w (w1.setCell ⟨g, i, none⟩ v) :=
  ⟨fun n w0 hn hb => (h.below n w0 hn hb).setCell (p := ⟨g, i, none⟩) (by show n ≤ g; omega) v, fun j hj hn => (heap_setCell_other _ _ _ _ (by simp; omega)).trans (h.block j hj hn), by have := h.size; simpa [World.setCell] using this⟩
set_option maxHeartbeats 1600000 in
theorem markStringS_own (B T : Nat) (v : Value) (L : List ByteArray) (k0 : Int) (w : World) (hm : L.length ≤ 1048576) (k1 : 1 ≤ k0) (k2 : k0 ≤ 1048576) (ho : OwTs B T w v L) (hB : B ≤ w.heap.size) :
    Calls Try.prog 31 #[v, .int .i64 k0] w fun e w' => e = .returned (.int .i64 (k0 + (L.length : Int))) ∧ Mk B T w w' ∧ OwTs B T w' v (mtS k0 L L.length) := by
  rcases ho.1.2 with ⟨rfl, h0⟩ | ⟨g, cap, cur, rfl, hg, hr, h1, h2, h3, h4⟩
  · obtain rfl : L = [] := List.eq_nil_of_length_eq_zero h0
    go_enter Try.func31, Try.ntmps31
    go_wp2
    go_loop [1, 5] (fun k i => i = .int .i64 0 ∧ k = .int .i64 k0) (fun _ i => 0)
    case atStart => exact ⟨rfl, rfl⟩
    case round =>
      obtain ⟨rfl, rfl⟩ := hrel
      go_wp2
      go_ret
      exact ⟨ret_int (by simp), Mk.refl _ _ _, ho⟩
  · have HO : Hid (OwTs B T w (.slice (some ⟨g, 0, none⟩) L.length cap) L) := ho
    have hgT := ho.2 g rfl
    have hl : g < w.heap.size := (Array.getElem?_eq_some_iff.1 hr).1
    clear hr ho h3 h4
    go_enter Try.func31, Try.ntmps31
    go_wp2_with fail
    go_loopw [1, 5] (fun vk vi wr => ∃ i : Nat, i ≤ L.length ∧ vi = .int .i64 i ∧ vk = .int .i64 (k0 + (i : Int)) ∧ Hid (OwTs B T wr (.slice (some ⟨g, 0, none⟩) L.length cap) (mtS k0 L i)) ∧ Hid (Mk B T w wr)) (fun _ vi _ => L.length - (intOf vi).toNat)
    case atStart => exact ⟨0, Nat.zero_le _, rfl, by simp, by simpa [mtS, Hid] using HO.out, Mk.refl _ _ _⟩
    case round =>
      obtain ⟨i, hi, rfl, rfl, st, mk⟩ := hrel
      by_cases hlt : i < L.length
      · have hs := mk.out.size
        go_wp2_with fail
        refine (markText_any _ _ (by omega) (by omega)).mono ?_
        rintro e w2 ⟨rfl, hw2⟩
        have st2 := st.out.keep hw2
        obtain ⟨r0, r1⟩ := st2.1.at i hlt
        have st3 : Hid (OwTs B T (w2.setCell ⟨g, i, none⟩ (.string (mt (k0 + (i : Int))))) (.slice (some ⟨g, 0, none⟩) L.length cap) (mtS k0 L (i + 1))) := by
          rw [← mtS_set hlt]
          exact ⟨st2.1.put i _ (by rw [mtS_len hi]; exact hlt), st2.2⟩
        have mk2 : Hid (Mk B T w (w2.setCell ⟨g, i, none⟩ (.string (mt (k0 + (i : Int)))))) := (mk.out.trans (mk_below hw2 (by omega))).put hg hgT i _
        clear st st2 mk hw2
        generalize (mtS k0 L i).getD i e0 = y at r0
        generalize mt (k0 + (i : Int)) = z at *
        go_wp2
        go_roundw
        case rel => exact ⟨i + 1, by omega, by go_num, by go_num, st3, mk2⟩
        case measure => simp [intOf]; omega
      · have hkl : i = L.length := by omega
        subst hkl
        go_wp2
        go_ret
        exact ⟨rfl, mk.out, st.out⟩
set_option maxHeartbeats 1600000 in
theorem heldStringS_own (B T : Nat) (v : Value) (L : List ByteArray) (k0 : Int) (w : World) (hm : L.length ≤ 1048576) (k1 : 1 ≤ k0) (k2 : k0 ≤ 1048576) (ho : OwTs B T w v (mtS k0 L L.length)) :
    Calls Try.prog 32 #[v, .int .i64 k0] w fun e w' => e = .returned (.int .i64 (k0 + (L.length : Int))) ∧ Below w.heap.size w w' := by
  obtain ⟨a, c, rfl, ht⟩ := ho.1.form
  rw [mtS_len (Nat.le_refl _)]
  have HT : Hid (TxtAt w a (mtS k0 L L.length)) := ht
  clear ho ht
  go_enter Try.func32, Try.ntmps32
  go_wp2_with fail
  go_loopw [1, 5] (fun vk vi wr => ∃ i : Nat, i ≤ L.length ∧ vi = .int .i64 i ∧ vk = .int .i64 (k0 + (i : Int)) ∧ Hid (Below w.heap.size w wr)) (fun _ vi _ => L.length - (intOf vi).toNat)
  case atStart => exact ⟨0, Nat.zero_le _, rfl, by simp, Below.refl _ _⟩
  case round =>
    obtain ⟨i, hi, rfl, rfl, bb⟩ := hrel
    by_cases hlt : i < L.length
    · obtain ⟨bk, off, rfl, hlb, hc⟩ := txt_form (HT.out.keep bb.out) (by rw [mtS_len (Nat.le_refl _)]; omega)
      have hc1 := hc i (by rw [mtS_len (Nat.le_refl _)]; exact hlt)
      rw [mtS_get rfl hlt] at hc1
      clear hc
      have h1 : 1 ≤ k0 + (i : Int) := by omega
      have h2 : k0 + (i : Int) ≤ 1099511627776 := by omega
      obtain ⟨z, hz⟩ : ∃ z, Hid (mt (k0 + (i : Int)) = z) := ⟨_, rfl⟩
      rw [hz.out] at hc1
      have hsame := bytes_same z
      go_wp2_with fail
      refine wp_region_held_drew (S := fun w' => Below wr.heap.size wr w') (by kernel_rfl) ((Below.refl _ _).drew) (fun hs0 => ?_)
      refine wpAnyH_take (i := 0) (oi := _) (v := _) rfl (by kernel_rfl) (by kernel_rfl) (by kernel_rfl) (fun _ _ _ h => h) (.inl ⟨by rfl, by intro w hSw; go_simp; with_reducible rfl⟩) hs0 ?_
      simp only [Act.put, List.setIfInBounds_toArray, List.set_cons_zero, List.set_cons_succ]
      refine wpAnyH_take (i := 1) (oi := _) (v := _) rfl (by kernel_rfl) (by kernel_rfl) (by kernel_rfl) (fun _ _ _ h => h) (.inl ⟨by rfl, by intro w hSw; go_simp; with_reducible rfl⟩) hs0 ?_
      simp only [Act.put, List.setIfInBounds_toArray, List.set_cons_zero, List.set_cons_succ]
      refine wpAnyH_take (i := 2) (oi := _) (v := _) rfl (by kernel_rfl) (by kernel_rfl) (by kernel_rfl) (fun _ _ _ h => h) (.inl ⟨by rfl, by intro w hSw; go_simp; with_reducible rfl⟩) hs0 ?_
      simp only [Act.put, List.setIfInBounds_toArray, List.set_cons_zero, List.set_cons_succ]
      refine wpAnyH_take (i := 3) (oi := _) (v := _) rfl (by kernel_rfl) (by kernel_rfl) (by kernel_rfl) (fun _ _ _ h => h) (.inl ⟨by rfl, by intro w' hSw; have hc := (hSw.cell (p := ⟨bk, off + i, none⟩) hlb).trans hc1; go_simp; with_reducible rfl⟩) hs0 ?_
      simp only [Act.put, List.setIfInBounds_toArray, List.set_cons_zero, List.set_cons_succ]
      refine wpAnyH_take (i := 4) (oi := _) (v := _) rfl (by kernel_rfl) (by kernel_rfl) (by kernel_rfl) (fun _ _ _ h => h) (.inl ⟨by rfl, by intro w hSw; go_simp; with_reducible rfl⟩) hs0 ?_
      simp only [Act.put, List.setIfInBounds_toArray, List.set_cons_zero, List.set_cons_succ]
      refine wpAnyH_ready (rs := [5]) (by kernel_rfl) (by simp) ?_
      refine AllReadyH.cons rfl (fun K hK => ?_) AllReadyH.nil
      go_simp
      refine (markText_any _ _ h1 h2).mono ?_
      rintro e w2 ⟨rfl, hw1⟩
      have hs1 := belt hs0 hw1
      rw [hz.out]
      refine hK.out _ _ hs1 (fun _ => ?_)
      clear hK K
      refine wpAnyH_take (i := 6) (oi := _) (v := _) rfl (by kernel_rfl) (by kernel_rfl) (by kernel_rfl) (fun _ _ _ h => h) (.inl ⟨by rfl, by intro w hSw; go_simp; with_reducible rfl⟩) hs1 ?_
      simp only [Act.put, List.setIfInBounds_toArray, List.set_cons_zero, List.set_cons_succ]
      refine wpAnyH_done (by kernel_rfl) ?_ _
      have B2 : Hid (Below w.heap.size w w2) := belt bb.out hs1
      clear hs0 hs1 hw1 bb
      go_wp2
      go_roundw
      case rel => exact ⟨i + 1, by omega, by go_num, by go_num, B2⟩
      case measure => simp [intOf]; omega
    · have hkl : i = L.length := by omega
      subst hkl
      go_wp2
      go_ret
      exact ⟨rfl, bb.out⟩
end Go.Proofs.Ytabbicfakkehpaa
