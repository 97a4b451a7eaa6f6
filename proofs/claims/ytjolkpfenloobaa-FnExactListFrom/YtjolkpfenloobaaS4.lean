/- The specification's ring without a member, and its list of those that come next. -/
import Derived.Test.YtjolkpfenloobaaS3
namespace Go.Proofs.Ytjolkpfenloobaa
open Go.RowKit
set_option linter.unusedVariables false

def dropX (zs : List Int) (x : Int) : List Int := zs.filter (fun y => !decide (y = x))
theorem dropX_take {zs : List Int} {x : Int} {k : Nat} (hk : k < zs.length) : dropX (zs.take (k + 1)) x = dropX (zs.take k) x ++ (if zs.getD k 0 = x then [] else [zs.getD k 0]) := by
  unfold dropX
  rw [List.take_succ_eq_append_getElem hk, List.filter_append]
  congr 1
  have e : zs.getD k 0 = zs[k] := by simp [List.getD_eq_getElem?_getD, List.getElem?_eq_getElem hk]
  rw [e]
  by_cases h : zs[k] = x
  · simp [h]
  · simp [h]
theorem dropX_le (zs : List Int) (x : Int) (k : Nat) : (dropX (zs.take k) x).length ≤ zs.length := by
  unfold dropX
  refine Nat.le_trans (List.length_filter_le _ _) ?_
  simp; omega
theorem dropX_none {l : List Int} {x : Int} (h : ∀ i, i < l.length → ¬ l.getD i 0 = x) : dropX l x = l := by
  unfold dropX
  rw [List.filter_eq_self]
  intro y hy
  obtain ⟨i, hi, rfl⟩ := List.mem_iff_getElem.1 hy
  have := h i hi
  rw [List.getD_eq_getElem?_getD, List.getElem?_eq_getElem hi] at this
  simpa using this
theorem dropX_leave {b d : Int} {zs : List Int} (R : Ring b d zs) {x : Int} (h : memI zs x = true) : dropX zs x = leaveL zs x := by
  have hm := of_decide_eq_true h
  obtain ⟨hlt, he⟩ := hm
  unfold leaveL
  obtain ⟨p, hp⟩ : ∃ p, p = blw zs x := ⟨_, rfl⟩
  rw [← hp] at hlt he ⊢
  have e : zs = zs.take p ++ (zs.getD p 0 :: zs.drop (p + 1)) := by
    conv => lhs; rw [← List.take_append_drop p zs]
    rw [List.drop_eq_getElem_cons hlt, List.getD_eq_getElem?_getD, List.getElem?_eq_getElem hlt]
    rfl
  conv => lhs; rw [e]
  unfold dropX
  rw [List.filter_append, List.filter_cons_of_neg (by rw [he]; simp)]
  have h1 : dropX (zs.take p) x = zs.take p := dropX_none (fun i hi hc => by
    rw [List.length_take] at hi
    have hip : i < p := by omega
    have := R.ris i p hip hlt
    rw [List.getD_eq_getElem?_getD, List.getElem?_take_of_lt hip, ← List.getD_eq_getElem?_getD] at hc
    omega)
  have h2 : dropX (zs.drop (p + 1)) x = zs.drop (p + 1) := dropX_none (fun i hi hc => by
    rw [List.length_drop] at hi
    have := R.ris p (p + 1 + i) (by omega) (by omega)
    rw [List.getD_eq_getElem?_getD, List.getElem?_drop, ← List.getD_eq_getElem?_getD] at hc
    omega)
  unfold dropX at h1 h2
  rw [h1, h2]
theorem leaveL_len {zs : List Int} {x : Int} (h : memI zs x = true) : (leaveL zs x).length = zs.length - 1 := by
  have hm := (of_decide_eq_true h).1
  unfold leaveL
  simp; omega

theorem own_snoc {w : World} {B n : Nat} {v : Value} {l l' : List Int} {z : Int} (e : l' = l ++ [z]) (h : w.ownsRow B n 1 v (l.length + 1) (l.map (Value.int .i64) ++ [Value.int .i64 z])) : w.ownsRow B n 1 v l'.length (l'.map (Value.int .i64)) := by
  rw [e, List.length_append, List.map_append]; exact h

set_option maxHeartbeats 1600000 in
theorem lwithout_any (a : Option Addr) (cap : Nat) (zs : List Int) (x : Int) (w : World) (h2 : zs.length ≤ 16) (hr : RowAt w a zs) :
    Calls Try.prog 64 #[.slice a zs.length cap, .int .i64 x] w fun e w' => ∃ v, e = .returned v ∧ w'.ownsRow w.heap.size 3 1 v (dropX zs x).length ((dropX zs x).map (Value.int .i64)) ∧ Below w.heap.size w w' := by
  obtain ⟨i0, hi, hz0, hz1, hz2⟩ := info_parts'
  have HR : Hid (RowAt w a zs) := hr
  clear hr
  go_enter Try.func64, Try.ntmps64
  go_wp2_with fail
  go_loopw [5, 10] (fun vs vi wr => ∃ (vo : Value) (k : Nat), vs = vo ∧ k ≤ zs.length ∧ vi = .int .i64 k ∧ wr.ownsRow w.heap.size 3 1 vo (dropX (zs.take k) x).length ((dropX (zs.take k) x).map (Value.int .i64)) ∧ Below w.heap.size w wr) (fun _ vi _ => zs.length - (intOf vi).toNat)
  case atStart => exact ⟨_, 0, rfl, Nat.zero_le _, rfl, World.ownsRow_nil _ _ _ _, Below.refl _ _⟩
  case round =>
    obtain ⟨vo, k, hvo, hk, rfl, hown, hbel⟩ := hrel
    have hvo := hvo.symm
    subst hvo
    have HO : Hid (wr.ownsRow w.heap.size 3 1 vo (dropX (zs.take k) x).length ((dropX (zs.take k) x).map (Value.int .i64))) := hown
    have HB : Hid (Below w.heap.size w wr) := hbel
    clear hown hbel
    by_cases hlt : k < zs.length
    · obtain ⟨bk, off, rfl⟩ := rowAt_form HR.out (by omega)
      have hc1 := (rowAt_cell (HR.out.keep HB.out) (by omega)).2 k hlt
      have ht := dropX_take (x := x) hlt
      have hle := dropX_le zs x k
      by_cases he : zs.getD k 0 = x
      · rw [if_pos he, List.append_nil] at ht
        have HO2 : Hid (wr.ownsRow w.heap.size 3 1 vo (dropX (zs.take (k + 1)) x).length ((dropX (zs.take (k + 1)) x).map (Value.int .i64))) := by rw [ht]; exact HO.out
        have he' : (zs.getD k 0 != x) = false := by rw [he]; simp
        clear ht HO he
        generalize zs.getD k 0 = z at hc1 he'
        go_wp2_with fail
        go_roundw
        case rel => exact ⟨_, k + 1, rfl, by omega, by go_num, HO2.out, HB.out⟩
        case measure => simp [intOf]; omega
      · rw [if_neg he] at ht
        have he' : (zs.getD k 0 != x) = true := by simpa using he
        have HT : Hid (dropX (zs.take (k + 1)) x = dropX (zs.take k) x ++ [zs.getD k 0]) := ht
        clear ht he
        generalize zs.getD k 0 = z at hc1 he' HT
        go_wp2_with (at_builtin; refine wpList_append_own _ rfl (.tmp 17) (.tmp 19) 26 rfl w.heap.size 3 i0 (.int .i64 0) 1 8 Try.underlying26 hi hz0 hz1 hz2 rfl (by decide) _ _ _ rfl (HO.out.alloc _) ⟨wr.heap.size, 0, none⟩ 1 1 [.int .i64 z] rfl rfl (cell_one_new _ _ _) (by simp [Value.oneCell']) (by unfold maxLen; omega) (by omega) (alloc_size HB.out) ?_; intro v5 w5 hown5 hgrow5 _; have HB5 : Hid (Below w.heap.size w w5) := grown_bel (HB.out.alloc HB.out.size _) hgrow5 (alloc_size HB.out) (fun k hk => (HO.out.lt k hk).1); have HO5 : Hid (w5.ownsRow w.heap.size 3 1 v5 (dropX (zs.take (k + 1)) x).length ((dropX (zs.take (k + 1)) x).map (Value.int .i64))) := own_snoc HT.out hown5; clear hown5 hgrow5)
        go_roundw
        case rel => exact ⟨_, k + 1, rfl, by omega, by go_num, HO5.out, HB5.out⟩
        case measure => simp [intOf]; omega
    · have hO := HO.out
      rw [List.take_of_length_le (by omega)] at hO
      have HO2 : Hid (wr.ownsRow w.heap.size 3 1 vo (dropX zs x).length ((dropX zs x).map (Value.int .i64))) := hO
      clear hO
      go_wp2
      go_ret
      exact ⟨_, rfl, HO2.out, HB.out⟩

set_option maxHeartbeats 1600000 in
theorem lLeaveRing_any (b d : Int) (a : Option Addr) (cap : Nat) (zs : List Int) (x : Int) (w : World) (hm : zs.length ≤ maxLen) (hcap : zs.length ≤ cap) (hr : RowAt w a zs) :
    Calls Try.prog 39 #[.agg #[.int .i64 b, .int .i64 d], .slice a zs.length cap, .int .i64 x] w fun e w' => ∃ v, e = .returned v ∧ Below w.heap.size w w' ∧
      ((okL b d zs x = false ∧ v = .tuple #[.slice none 0 0, .bool false]) ∨ (okL b d zs x = true ∧ ∃ g cp, v = .tuple #[.slice (some ⟨g, 0, none⟩) (zs.length - 1) cp, .bool true] ∧ OwnS w.heap.size w' g (leaveL zs x))) := by
  have hr1 := hr.alloc (.cells #[.int .i64 b, .int .i64 d] 25)
  have hok : okL b d zs x = (okG b d zs x && !decide (zs.length = 1)) := rfl
  cases hg : okG b d zs x
  · rw [hg] at hok
    rcases okG_no hg with ha | ⟨ha, hh⟩
    · go_enter Try.func39, Try.ntmps39
      go_wp2_with fail
      refine (lasked_any b d a cap zs x _ hm hr1).mono ?_
      rintro e w1 ⟨rfl, hw1⟩
      go_wp2
      go_ret2
      exact ⟨_, rfl, bel1 hw1 (by simp), .inl ⟨hok, rfl⟩⟩
    · go_enter Try.func39, Try.ntmps39
      go_wp2_with fail
      refine (lasked_any b d a cap zs x _ hm hr1).mono ?_
      rintro e w1 ⟨rfl, hw1⟩
      go_wp2_with fail
      refine (lhas_any a cap zs x _ hm (hr.keep (bel1 hw1 (by simp)))).mono ?_
      rintro e w2 ⟨rfl, rfl⟩
      go_wp2
      go_ret2
      exact ⟨_, rfl, bel1 hw1 (by simp), .inl ⟨hok, rfl⟩⟩
  · obtain ⟨ha, hh, R, x1, x2⟩ := okG_ask hg
    have hmem : memI zs x = true := by unfold okG at hg; rw [Bool.and_eq_true] at hg; exact hg.2
    have HD : Hid (dropX zs x = leaveL zs x) := dropX_leave R hmem
    have HL : Hid ((leaveL zs x).length = zs.length - 1) := leaveL_len hmem
    have l1 := R.l1
    have l2 := R.l2
    clear R hmem
    by_cases h1 : zs.length = 1
    · rw [hg, decide_eq_true h1] at hok
      have hlq : ((zs.length : Int) == 1) = true := by simp [h1]
      clear h1
      go_enter Try.func39, Try.ntmps39
      go_wp2_with fail
      refine (lasked_any b d a cap zs x _ hm hr1).mono ?_
      rintro e w1 ⟨rfl, hw1⟩
      go_wp2_with fail
      refine (lhas_any a cap zs x _ hm (hr.keep (bel1 hw1 (by simp)))).mono ?_
      rintro e w2 ⟨rfl, rfl⟩
      go_wp2
      go_ret2
      exact ⟨_, rfl, bel1 hw1 (by simp), .inl ⟨hok, rfl⟩⟩
    · rw [hg, decide_eq_false h1] at hok
      have hlq : ((zs.length : Int) == 1) = false := by simp only [beq_eq_false_iff_ne, ne_eq]; omega
      go_enter Try.func39, Try.ntmps39
      go_wp2_with fail
      refine (lasked_any b d a cap zs x _ hm hr1).mono ?_
      rintro e w1 ⟨rfl, hw1⟩
      have HB1 : Hid (Below w.heap.size w w1) := bel1 hw1 (by simp)
      go_wp2_with fail
      refine (lhas_any a cap zs x _ hm (hr.keep HB1.out)).mono ?_
      rintro e w2 ⟨rfl, he2⟩
      subst he2
      go_wp2_with fail
      refine (lwithout_any a cap zs x _ l2 (hr.keep HB1.out)).mono ?_
      rintro e w3 ⟨v3, rfl, hown3, hw3⟩
      rw [HD.out, HL.out] at hown3
      obtain ⟨g3, cp3, rfl⟩ := Joins.ownsRow_form hown3 (by omega)
      obtain ⟨os3, len3, hcp3⟩ := OwnS.of_owns hown3
      go_wp2
      go_ret2
      exact ⟨_, rfl, belt HB1.out hw3, .inr ⟨hok, g3, cp3, rfl, os3.mono HB1.out.size⟩⟩

def lstL (zs : List Int) (x : Int) (k : Nat) : List Int := (List.range k).map (fun i => zs.getD ((uptI zs x + i) % zs.length) 0)
theorem lstL_len (zs : List Int) (x : Int) (k : Nat) : (lstL zs x k).length = k := by simp [lstL]
theorem lstL_succ (zs : List Int) (x : Int) (k : Nat) : lstL zs x (k + 1) = lstL zs x k ++ [zs.getD ((uptI zs x + k) % zs.length) 0] := by
  unfold lstL; rw [List.range_succ, List.map_append]; rfl
theorem nxt_go {b d : Int} {zs : List Int} (R : Ring b d zs) (u i : Nat) : nxtI zs (zs.getD ((u + i) % zs.length) 0) = zs.getD ((u + (i + 1)) % zs.length) 0 := by
  have hl := R.l1
  rw [nxt_at R (Nat.mod_lt _ (by omega)), Nat.mod_add_mod, Nat.add_assoc]
end Go.Proofs.Ytjolkpfenloobaa
