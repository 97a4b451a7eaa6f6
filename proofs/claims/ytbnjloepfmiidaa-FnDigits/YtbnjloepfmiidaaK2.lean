/- What the laws over bytes share, and lists of digits as rows. -/
import Derived.Test.YtbnjloepfmiidaaK0
import Derived.Test.YtbnjloepfmiidaaC6
import Derived.Test.YtbnjloepfmiidaaC5
import Derived.Test.YtbnjloepfmiidaaA9
import Derived.Test.YtbnjloepfmiidaaM2
namespace Go.Proofs.Ytbnjloepfmiidaa
open Go.RowKit
set_option linter.unusedVariables false

def IsRowU (w : World) (a : Option Addr) (len cap : Nat) (zs : List Int) : Prop :=
  (a = none ∧ len = 0 ∧ cap = 0 ∧ zs = []) ∨
  ∃ x, a = some x ∧ len ≤ cap ∧ cap ≤ maxLen ∧ zs.length = cap ∧ (∀ i, i < zs.length → w.cell? (x.add i) = some (.int .u8 (zs.getD i 0))) ∧ ∀ n ∈ zs, (Lit.int .u8 n).wf = true
theorem isRowU_rowB {w : World} {a : Option Addr} {len cap : Nat} {zs : List Int} (h : IsRowU w a len cap zs) : ∃ ys : List Int, ys.length = len ∧ len ≤ maxLen ∧ RowB w a ys := by
  rcases h with ⟨rfl, rfl, rfl, rfl⟩ | ⟨⟨b, off, spot⟩, rfl, hl, hm, hz, hc, hw⟩
  · exact ⟨[], rfl, Nat.zero_le _, .inl rfl⟩
  · by_cases h0 : len = 0
    · subst h0; exact ⟨[], rfl, Nat.zero_le _, .inl rfl⟩
    · have ad : ∀ j, (⟨b, off, none⟩ : Addr).add j = ⟨b, off + j, none⟩ := by intro j; unfold Addr.add; split <;> simp_all
      have hc0 := hc 0 (by omega)
      have hs : spot = none := by simpa [Addr.add] using World.cell?_spot hc0
      subst hs
      refine ⟨zs.take len, by simp; omega, by omega, .inr ⟨b, off, rfl, by simpa [ad] using block_lt_of_cell hc0, fun i hi => ?_⟩⟩
      have hi' : i < len := by simp at hi; omega
      have hci := hc i (by omega)
      rw [ad] at hci
      have e : (zs.take len).getD i 0 = zs.getD i 0 := by simp [List.getD_eq_getElem?_getD, hi']
      have hb := bounds_u8 (hw (zs.getD i 0) (by rw [List.getD_eq_getElem?_getD, List.getElem?_eq_getElem (by omega)]; exact List.getElem_mem _))
      rw [e]
      exact ⟨hci, hb⟩

def bigB (n m : Nat) : Bool := decide (1048576 < n ∨ (1048576 : Int) - n < m)
theorem big_any (a a' : Option Addr) (n m cap cap' : Nat) (w : World) (hn : n ≤ maxLen) (hm : m ≤ maxLen) :
    Calls Try.prog 13 #[.slice a n cap, .slice a' m cap'] w fun e w' => e = .returned (.bool (bigB n m)) ∧ w' = w := by
  unfold maxLen at hn hm
  unfold bigB
  by_cases h1 : 1048576 < n
  · rw [decide_eq_true (Or.inl h1)]
    go_enter Try.func13, Try.ntmps13
    go_wp2
    go_ret
    exact ⟨rfl, rfl⟩
  · by_cases h2 : (1048576 : Int) - n < m
    · rw [decide_eq_true (Or.inr h2)]
      go_enter Try.func13, Try.ntmps13
      go_wp2
      go_ret
      exact ⟨rfl, rfl⟩
    · rw [decide_eq_false (by omega)]
      go_enter Try.func13, Try.ntmps13
      go_wp2
      go_ret
      exact ⟨ret_bool (decide_eq_false (by omega)), rfl⟩
set_option maxHeartbeats 800000 in
theorem sameInts_any (a a' : Option Addr) (n n' cap cap' : Nat) (xs ys : List Int) (w : World) (hm : xs.length ≤ maxLen) (e1 : xs.length = n) (e2 : ys.length = n') (hx : RowAt w a xs) (hy : RowAt w a' ys) :
    Calls Try.prog 29 #[.slice a n cap, .slice a' n' cap'] w fun e w' => e = .returned (.bool (sameB xs ys)) ∧ Below w.heap.size w w' := by
  subst e1 e2
  unfold maxLen at hm
  have HX : Hid (RowAt w a xs) := hx
  have HY : Hid (RowAt w a' ys) := hy
  clear hx hy
  by_cases hl : xs.length = ys.length
  · have HL : Hid (xs.length = ys.length) := hl
    have hle : ((xs.length : Int) != (ys.length : Int)) = false := by simp [hl]
    clear hl
    go_enter Try.func29, Try.ntmps29
    go_wp2_with fail
    go_loopw [13] (fun vi wr => ∃ k : Nat, k ≤ xs.length ∧ vi = .int .i64 k ∧ xs.take k = ys.take k ∧ ∃ n, wr = w.drewN n) (fun vi _ => xs.length - (intOf vi).toNat)
    case atStart => exact ⟨0, Nat.zero_le _, rfl, rfl, 0, rfl⟩
    case round =>
      obtain ⟨k, hk, rfl, hs, n, rfl⟩ := hrel
      have HS : Hid (xs.take k = ys.take k) := hs
      clear hs
      by_cases hlt : k < xs.length
      · have hlt2 : k < ys.length := by have := HL.out; omega
        obtain ⟨bk, off, rfl⟩ := rowAt_form HX.out (by omega)
        obtain ⟨bk2, off2, rfl⟩ := rowAt_form HY.out (by omega)
        have hc1 := (rowAt_cell HX.out (by omega)).2 k hlt
        have hc2 := (rowAt_cell HY.out (by omega)).2 k hlt2
        by_cases he : xs.getD k 0 = ys.getD k 0
        · have ht : Hid (xs.take (k + 1) = ys.take (k + 1)) := same_take hlt hlt2 HS.out he
          have he' : (xs.getD k 0 != ys.getD k 0) = false := by rw [he]; simp
          generalize xs.getD k 0 = x at hc1 he'
          generalize ys.getD k 0 = y at hc2 he'
          clear he
          go_wp2
          go_quiet (fail)
          go_wp2
          go_roundw
          case rel => exact ⟨k + 1, by omega, by go_num, ht.out, _, rfl⟩
          case measure => simp [intOf]; omega
        · have hv : Hid (sameB xs ys = false) := sameB_no he
          have he' : (xs.getD k 0 != ys.getD k 0) = true := by simpa using he
          generalize xs.getD k 0 = x at hc1 he'
          generalize ys.getD k 0 = y at hc2 he'
          clear he
          go_wp2
          go_quiet (fail)
          go_wp2
          go_ret
          exact ⟨ret_bool hv.out.symm, by first | exact below_drewN (below_drewN (Below.refl _ _) _) _ | exact below_drewN (Below.refl _ _) _⟩
      · have hv : Hid (sameB xs ys = true) := sameB_yes HL.out hlt HS.out
        go_wp2
        go_ret
        exact ⟨ret_bool hv.out.symm, below_drewN (Below.refl _ _) _⟩
  · have hv : sameB xs ys = false := decide_eq_false (fun h => hl (by rw [h]))
    rw [hv]
    have hle : ((xs.length : Int) != (ys.length : Int)) = true := by simp; omega
    clear hl hv
    go_enter Try.func29, Try.ntmps29
    go_wp2
    go_ret
    exact ⟨rfl, Below.refl _ _⟩


def dL (b d x : Int) : List Int := if numB b d x = true then digL (cnt b d) (sz d) x else []
theorem dL_len {b d x : Int} (h : numB b d x = true) : (dL b d x).length = cnt b d := by unfold dL; rw [if_pos h, digL_len]
theorem dL_le {b d x : Int} : (dL b d x).length ≤ 12 := by
  unfold dL
  split
  · rename_i h
    obtain ⟨hg, _⟩ := numB_true h
    obtain ⟨hb1, hb2, hd1, hd2, _⟩ := gsB_true hg
    obtain ⟨_, _, q⟩ := cnt_bd hb1 hb2 hd1 hd2
    rw [digL_len]; exact q
  · simp
theorem digv_row {b d x : Int} {w w' : World} {v : Value} (h : DigV b d x w w' v) : ∃ (a : Option Addr) (cap : Nat), v = .slice a (dL b d x).length cap ∧ RowAt w' a (dL b d x) := by
  rcases h with ⟨hx, rfl⟩ | ⟨hx, g, rfl, ow⟩
  · have e : dL b d x = [] := by unfold dL; rw [if_neg (by rw [hx]; decide)]
    exact ⟨none, 0, by rw [e]; rfl, by rw [e]; exact .inl rfl⟩
  · have e : dL b d x = digL (cnt b d) (sz d) x := by unfold dL; rw [if_pos hx]
    exact ⟨_, cnt b d, by rw [e, digL_len], by rw [e]; exact rowAt_of_row ow.row⟩
theorem DigitsOf_row (b d x : Int) (w : World) :
    Calls Try.prog 25 #[.agg #[.int .i64 b, .int .i64 d], .int .i64 x] w fun e w' => ∃ (a : Option Addr) (cap : Nat), e = .returned (.tuple #[.slice a (dL b d x).length cap, .bool (numB b d x)]) ∧ Below w.heap.size w w' ∧ RowAt w' a (dL b d x) := by
  refine (DigitsOf_any b d x w).mono fun e w' ⟨v, he, hb, hv⟩ => ?_
  obtain ⟨a, cap, rfl, hr⟩ := digv_row hv
  exact ⟨a, cap, he, hb, hr⟩
theorem lDigitsOf_row (b d x : Int) (w : World) :
    Calls Try.prog 26 #[.agg #[.int .i64 b, .int .i64 d], .int .i64 x] w fun e w' => ∃ (a : Option Addr) (cap : Nat), e = .returned (.tuple #[.slice a (dL b d x).length cap, .bool (numB b d x)]) ∧ Below w.heap.size w w' ∧ RowAt w' a (dL b d x) := by
  refine (lDigitsOf_any b d x w).mono fun e w' ⟨v, he, hb, hv⟩ => ?_
  obtain ⟨a, cap, rfl, hr⟩ := digv_row hv
  exact ⟨a, cap, he, hb, hr⟩
/-- digits make the number again -/
theorem from_own {b d x : Int} (h : numB b d x = true) : fOk b d (dL b d x) = true ∧ fVal b d (dL b d x) = x := by
  obtain ⟨hg, x1, x2⟩ := numB_true h
  obtain ⟨hb1, hb2, hd1, hd2, h5⟩ := gsB_true hg
  obtain ⟨s1, s2⟩ := sz_bd hd1 (by omega : d ≤ 12)
  have e : dL b d x = digL (cnt b d) (sz d) x := by unfold dL; rw [if_pos h]
  have hall : allB (digL (cnt b d) (sz d) x) 0 (sz d - 1) = true := by
    unfold allB
    rw [List.all_eq_true]
    intro g hm
    have := digL_mem (cnt b d) (by omega : 0 < sz d) x g hm
    exact inB_yes (by omega) (by omega)
  have hok : fOk b d (dL b d x) = true := by unfold fOk; rw [e, hg, digL_len, hall]; simp
  refine ⟨hok, ?_⟩
  unfold fVal
  rw [if_pos hok, e]
  exact ofD_digL _ (by omega) x x1 (by rw [pow_cnt hb1 hd1 hd2 h5]; exact x2)
/-- what is known of the overlap where both are numbers of the space -/
theorem over_facts {b d x k : Int} (h : dOk b d x k = true) : gsB b d = true ∧ 0 ≤ x ∧ x < sz b ∧ 0 ≤ k ∧ k < sz b ∧ numB b d k = true ∧ ∃ o : Nat, oVal b d x k = (o : Int) ∧ o ≤ cnt b d ∧ (((o : Int) == (cnt b d : Int)) = (x == k)) ∧ (digL (cnt b d) (sz d) x).drop (cnt b d - o) = (digL (cnt b d) (sz d) k).take o := by
  have h0 := h
  unfold dOk at h0
  rw [Bool.and_eq_true] at h0
  obtain ⟨hx, hk⟩ := h0
  obtain ⟨hg, x1, x2⟩ := numB_true hx
  obtain ⟨_, k1, k2⟩ := numB_true hk
  refine ⟨hg, x1, x2, k1, k2, hk, ovl (cnt b d) (digL (cnt b d) (sz d) x) (digL (cnt b d) (sz d) k) (cnt b d), ?_, ovl_le _ _ _ _, ovl_all hg x1 x2 k1 k2, ovl_sub _ _ _ (digL_len _ _ _)⟩
  unfold oVal; rw [if_pos h]
theorem mid_skip {n o i : Nat} {X K D : List Int} (hi : i < o) (h : Mid n o i X K D) : Mid n o (i + 1) X K D := by
  unfold Mid at h
  have e : i - o = 0 := by omega
  rw [e, List.drop_zero, List.drop_eq_nil_of_le (by simp; omega), List.append_nil] at h
  rw [h]; exact mid_start (by omega)
/-- one more digit of k is shifted in -/
theorem shift_mid {b d y k : Int} {o i : Nat} {X : List Int} (hg : gsB b d = true) (y1 : 0 ≤ y) (hX : X.length = cnt b d) (ho : o ≤ i) (hi : i < cnt b d) (hm : Mid (cnt b d) o i X (digL (cnt b d) (sz d) k) (digL (cnt b d) (sz d) y)) :
    Mid (cnt b d) o (i + 1) X (digL (cnt b d) (sz d) k) (digL (cnt b d) (sz d) (shf b d y ((digL (cnt b d) (sz d) k).getD i 0))) := by
  obtain ⟨hb1, hb2, hd1, hd2, h5⟩ := gsB_true hg
  obtain ⟨s1, s2⟩ := sz_bd hd1 (by omega : d ≤ 12)
  have hmem : (digL (cnt b d) (sz d) k).getD i 0 ∈ digL (cnt b d) (sz d) k := by
    rw [List.getD_eq_getElem?_getD, List.getElem?_eq_getElem (by rw [digL_len]; exact hi)]
    exact List.getElem_mem _
  have hb := digL_mem (cnt b d) (by omega : 0 < sz d) k _ hmem
  have hst := mid_step hX (digL_len _ _ _) ho hi hm
  have e : digL (cnt b d) (sz d) (shf b d y ((digL (cnt b d) (sz d) k).getD i 0)) = (digL (cnt b d) (sz d) y).tail ++ [(digL (cnt b d) (sz d) k).getD i 0] := by
    unfold shf
    rw [← pow_cnt hb1 hd1 hd2 h5]
    obtain ⟨m, hc⟩ : ∃ m, cnt b d = m + 1 := ⟨cnt b d - 1, by omega⟩
    rw [hc]
    exact digL_shift (by omega) y _ y1 (by rw [← hc]; exact hb.1) (by rw [← hc]; exact hb.2)
  rw [e]; exact hst
theorem shift_ok {b d y k : Int} {i : Nat} (hg : gsB b d = true) (y1 : 0 ≤ y) (y2 : y < sz b) (hi : i < cnt b d) : sOk b d y ((digL (cnt b d) (sz d) k).getD i 0) = true ∧ sVal b d y ((digL (cnt b d) (sz d) k).getD i 0) = shf b d y ((digL (cnt b d) (sz d) k).getD i 0) := by
  obtain ⟨hb1, hb2, hd1, hd2, h5⟩ := gsB_true hg
  obtain ⟨s1, s2⟩ := sz_bd hd1 (by omega : d ≤ 12)
  have hmem : (digL (cnt b d) (sz d) k).getD i 0 ∈ digL (cnt b d) (sz d) k := by
    rw [List.getD_eq_getElem?_getD, List.getElem?_eq_getElem (by rw [digL_len]; exact hi)]
    exact List.getElem_mem _
  have hb := digL_mem (cnt b d) (by omega : 0 < sz d) k _ hmem
  have h1 : sOk b d y ((digL (cnt b d) (sz d) k).getD i 0) = true := by
    unfold sOk; rw [numB_yes hg y1 y2, digB_yes hg hb.1 hb.2]; rfl
  exact ⟨h1, by unfold sVal; rw [if_pos h1]⟩
theorem shift_end {b d y k : Int} {o : Nat} {X : List Int} (hg : gsB b d = true) (y1 : 0 ≤ y) (y2 : y < sz b) (k1 : 0 ≤ k) (k2 : k < sz b) (hX : X.length = cnt b d) (ho : X.drop (cnt b d - o) = (digL (cnt b d) (sz d) k).take o) (hm : Mid (cnt b d) o (cnt b d) X (digL (cnt b d) (sz d) k) (digL (cnt b d) (sz d) y)) : y = k := by
  obtain ⟨hb1, hb2, hd1, hd2, h5⟩ := gsB_true hg
  obtain ⟨s1, s2⟩ := sz_bd hd1 (by omega : d ≤ 12)
  have hp := pow_cnt hb1 hd1 hd2 h5
  exact digL_inj (by omega) y1 (by rw [hp]; exact y2) k1 (by rw [hp]; exact k2) (mid_end hX (digL_len _ _ _) ho hm)
end Go.Proofs.Ytbnjloepfmiidaa
