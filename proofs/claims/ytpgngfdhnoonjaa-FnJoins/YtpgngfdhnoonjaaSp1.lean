/- PutRow, DropRow, JoinTables, RowsIn of the specification. -/
import Derived.Test.YtpgngfdhnoonjaaSp0
import Derived.Test.YtpgngfdhnoonjaaMp6
namespace Go.Proofs.Ytpgngfdhnoonjaa.Tb
open Go.RowKit Wire Go.Deep
set_option linter.unusedVariables false
set_option linter.unusedSimpArgs false
/-- what the specification answers: it reads so, and its capacity is one -/
def TabSay (w : World) (L : List Rw) (ok : Bool) (e : Ending) (w' : World) : Prop := ∃ a n c, e = .returned (.tuple #[.slice a n c, .bool ok]) ∧ L.length = n ∧ LsAt tyRw w' a L ∧ n ≤ c ∧ (a = none → c = 0) ∧ Below w.heap.size w w'
theorem tabSay_no {w w' : World} (h : Below w.heap.size w w') : TabSay w [] false (.returned (.tuple #[.slice none 0 0, .bool false])) w' := ⟨none, 0, 0, rfl, rfl, .inl rfl, Nat.le_refl _, fun _ => rfl, h⟩
theorem OwR.say {w w' : World} {v : Value} {C : List Rw} (h : OwR w.heap.size w' v C) (hb : Below w.heap.size w w') (hl : C.length ≤ 1048576) (ok : Bool) : TabSay w C ok (.returned (.tuple #[v, .bool ok])) w' := by
  obtain ⟨a, c, rfl, h2, h3, h4⟩ := h.out hb hl
  exact ⟨a, _, c, rfl, rfl, h2.at, h4, h3, hb⟩
set_option maxHeartbeats 3200000 in
theorem lNewer_any (x0 x1 x2 y0 y1 y2 : Int) (g c : Bool) (w : World) :
    Calls Try.prog 76 #[.agg #[.int .i64 x0, .int .i64 x1, .int .i64 x2, .bool g], .agg #[.int .i64 y0, .int .i64 y1, .int .i64 y2, .bool c]] w fun e w' => e = .returned (.bool (newB ⟨x0, x1, x2, g⟩ ⟨y0, y1, y2, c⟩)) ∧ Below w.heap.size w w' := by
  have HB : Hid (Below w.heap.size w ((w.alloc (.cells #[.int .i64 x0, .int .i64 x1, .int .i64 x2, .bool g] 37)).alloc (.cells #[.int .i64 y0, .int .i64 y1, .int .i64 y2, .bool c] 37))) := belB _ _ _
  have HV : Hid (newB ⟨x0, x1, x2, g⟩ ⟨y0, y1, y2, c⟩ = if x1 = y1 then (if g = c then decide (y2 < x2) else g) else decide (y1 < x1)) := rfl
  generalize newB ⟨x0, x1, x2, g⟩ ⟨y0, y1, y2, c⟩ = A at *
  by_cases h1 : x1 = y1
  · have HV1 : Hid (A = if g = c then decide (y2 < x2) else g) := by unfold Hid; rw [HV.out, if_pos h1]
    subst h1
    clear HV
    cases g <;> cases c
    · have HV2 : Hid (A = decide (y2 < x2)) := HV1.out
      clear HV1
      go_enter Try.func76, Try.ntmps76
      go_wp2
      go_ret
      exact ⟨ret_bool HV2.out.symm, HB.out⟩
    · have HV2 : Hid (A = false) := HV1.out
      clear HV1
      go_enter Try.func76, Try.ntmps76
      go_wp2
      go_ret
      exact ⟨ret_bool HV2.out.symm, HB.out⟩
    · have HV2 : Hid (A = true) := HV1.out
      clear HV1
      go_enter Try.func76, Try.ntmps76
      go_wp2
      go_ret
      exact ⟨ret_bool HV2.out.symm, HB.out⟩
    · have HV2 : Hid (A = decide (y2 < x2)) := HV1.out
      clear HV1
      go_enter Try.func76, Try.ntmps76
      go_wp2
      go_ret
      exact ⟨ret_bool HV2.out.symm, HB.out⟩
  · have HV1 : Hid (A = decide (y1 < x1)) := by unfold Hid; rw [HV.out, if_neg h1]
    have h1b : (x1 != y1) = true := by simpa using h1
    have h1c : (x1 == y1) = false := by simpa using h1
    clear HV h1
    go_enter Try.func76, Try.ntmps76
    go_wp2
    go_ret
    exact ⟨ret_bool HV1.out.symm, HB.out⟩
theorem put_len {b d : Int} {ms : List Rw} (h : GT b d ms) (r : Rw) : (putL ms r).length ≤ 9 := by
  rw [putL_len]
  have := h.len
  split <;> omega
set_option maxRecDepth 100000 in
set_option maxHeartbeats 6400000 in
theorem lPut_any (b d : Int) (a : Option Addr) (cap n : Nat) (ms : List Rw) (key val : Int) (g : Bool) (w : World) (hG : GT b d ms) (hn : ms.length = n) (hc : n ≤ cap) (h0 : a = none → cap = 0) (hr : LsAt tyRw w a ms) :
    Calls Try.prog 55 #[.slice a n cap, .int .i64 key, .int .i64 val, .bool g] w (TabSay w (if plB ms key = true then putL ms (newR ms key val g) else []) (plB ms key)) := by
  have HR : Hid (LsAt tyRw w a ms) := hr
  have HNN : Hid (ms.length = n) := hn
  have HG : Hid (GT b d ms) := hG
  have H0 : Hid (a = none → cap = 0) := h0
  have hl8 : ms.length ≤ 8 := hG.len
  have hn8 : n ≤ 8 := by omega
  have CA := lAt_any a cap n ms key w hn (by unfold maxLen; omega) hr
  have HPB : Hid (plB ms key = if hasK ms key = true then decide ((ms.getD (atK ms key) rw0).x1 < 1000000) else decide (¬ ms.length = 8)) := rfl
  have CL : ∀ (y : Int) (w1 : World), Below w.heap.size w w1 → Calls Try.prog 75 #[.slice a n cap, .agg #[.int .i64 key, .int .i64 y, .int .i64 val, .bool g]] w1 fun e w' => ∃ v, e = .returned v ∧ OwR w1.heap.size w' v (putL ms ⟨key, y, val, g⟩) ∧ Below w1.heap.size w1 w' := fun y w1 hb => lLay_any a cap n ms key y val g w1 hn (by omega) hc h0 (hr.keep hb)
  clear hr hn h0 hl8
  cases hk : hasK ms key
  · have HNR : Hid (newR ms key val g = ⟨key, 1, val, g⟩) := by unfold Hid newR; rw [hk]; rfl
    rw [hk] at CA
    have HPB2 : Hid (plB ms key = decide (¬ n = 8)) := by unfold Hid; rw [HPB.out, hk, HNN.out]; rfl
    have hka : (atK ms key : Int) ≤ 8 := by have := atK_le ms key; have := HNN.out; omega
    generalize (atK ms key : Int) = kk at CA
    clear hk HPB
    by_cases h8 : n = 8
    · have HV : Hid (plB ms key = false) := by unfold Hid; rw [HPB2.out]; simp [h8]
      rw [HV.out, if_neg (by simp)]
      have h8b : ((n : Int) == 8) = true := by simp [h8]
      clear h8 CL HNR HPB2
      go_enter Try.func55, Try.ntmps55
      go_wp2_with fail
      refine CA.mono ?_
      rintro e w1 ⟨rfl, HW⟩
      have HB1 : Hid (Below w.heap.size w w1) := HW
      clear CA HW
      go_wp2
      go_ret2
      exact tabSay_no (belt HB1.out (belA _ _))
    · have HV : Hid (plB ms key = true) := by unfold Hid; rw [HPB2.out]; simp [h8]
      rw [HV.out, if_pos rfl, HNR.out]
      have h8b : ((n : Int) == 8) = false := by simp; omega
      clear h8 HPB2
      go_enter Try.func55, Try.ntmps55
      go_wp2_with fail
      refine CA.mono ?_
      rintro e w1 ⟨rfl, HW⟩
      have HB1 : Hid (Below w.heap.size w w1) := HW
      clear CA HW
      go_wp2_with fail
      refine (CL 1 _ (belt HB1.out (belA _ _))).mono ?_
      rintro e w2 ⟨v, rfl, hO, HW⟩
      have HB2 : Hid (Below w.heap.size w w2) := belt (belt HB1.out (belA _ _)) HW
      have HO2 : Hid (OwR w.heap.size w2 v (putL ms ⟨key, 1, val, g⟩)) := hO.mono (belt HB1.out (belA _ _)).size
      clear CL hO HW
      go_wp2
      go_ret2
      exact HO2.out.say HB2.out (by have := put_len HG.out ⟨key, 1, val, g⟩; omega) true
  · have hkl : atK ms key < ms.length := (of_decide_eq_true hk).1
    have hkn : atK ms key < n := by have := HNN.out; omega
    have HVB := (rowB_true (HG.out.row (ms.getD (atK ms key) rw0) (by rw [getD_at hkl]; exact List.getElem_mem hkl))).2.1
    have HNR : Hid (newR ms key val g = ⟨key, (ms.getD (atK ms key) rw0).x1 + 1, val, g⟩) := by unfold Hid newR; rw [hk]; rfl
    rw [hk] at CA
    have HPB2 : Hid (plB ms key = decide ((ms.getD (atK ms key) rw0).x1 < 1000000)) := by unfold Hid; rw [HPB.out, hk]; rfl
    obtain ⟨bk, off, rfl⟩ := lsAt_form HR.out (by show 0 < ms.length; omega)
    obtain ⟨hb0, hcc⟩ := rwAt_cell HR.out hkl
    obtain ⟨_, c1, _, _⟩ := CellsAt.rw hcc
    have HBK : Hid (bk < w.heap.size) := hb0
    have HC1 : Hid (w.cell? ⟨bk, off + atK ms key * 4 + 1, none⟩ = some (.int .i64 (ms.getD (atK ms key) rw0).x1)) := c1
    clear hcc hb0 c1 hkl hk HPB
    generalize (ms.getD (atK ms key) rw0).x1 = y at HC1 HPB2 HNR HVB
    obtain ⟨hy1, hy2⟩ := HVB
    generalize atK ms key = kk at CA HC1 hkn
    by_cases h1 : y < 1000000
    · have HV : Hid (plB ms key = true) := by unfold Hid; rw [HPB2.out, decide_eq_true h1]
      rw [HV.out, if_pos rfl, HNR.out]
      have h1d : decide (1000000 < y + 1) = false := decide_eq_false (by omega)
      clear h1 HPB2
      go_enter Try.func55, Try.ntmps55
      go_wp2_with fail
      refine CA.mono ?_
      rintro e w1 ⟨rfl, HW⟩
      have HB1 : Hid (Below w.heap.size w w1) := HW
      have c1 : w1.cell? ⟨bk, off + kk * 4 + 1, none⟩ = some (.int .i64 y) := (HW.cell (p := ⟨bk, off + kk * 4 + 1, none⟩) HBK.out).trans HC1.out
      have hz1 : bk < w1.heap.size := Nat.lt_of_lt_of_le HBK.out HW.size
      clear CA HW
      go_wp2_with fail
      refine (CL (y + 1) _ (belt HB1.out (belA _ _))).mono ?_
      rintro e w2 ⟨v, rfl, hO, HW⟩
      have HB2 : Hid (Below w.heap.size w w2) := belt (belt HB1.out (belA _ _)) HW
      have HO2 : Hid (OwR w.heap.size w2 v (putL ms ⟨key, y + 1, val, g⟩)) := hO.mono (belt HB1.out (belA _ _)).size
      clear CL hO HW
      go_wp2
      go_ret2
      exact HO2.out.say HB2.out (by have := put_len HG.out ⟨key, y + 1, val, g⟩; omega) true
    · have HV : Hid (plB ms key = false) := by unfold Hid; rw [HPB2.out, decide_eq_false h1]
      rw [HV.out, if_neg (by simp)]
      have h1d : decide (1000000 < y + 1) = true := decide_eq_true (by omega)
      clear h1 CL HNR HPB2
      go_enter Try.func55, Try.ntmps55
      go_wp2_with fail
      refine CA.mono ?_
      rintro e w1 ⟨rfl, HW⟩
      have HB1 : Hid (Below w.heap.size w w1) := HW
      have c1 : w1.cell? ⟨bk, off + kk * 4 + 1, none⟩ = some (.int .i64 y) := (HW.cell (p := ⟨bk, off + kk * 4 + 1, none⟩) HBK.out).trans HC1.out
      have hz1 : bk < w1.heap.size := Nat.lt_of_lt_of_le HBK.out HW.size
      clear CA HW
      go_wp2
      go_ret2
      exact tabSay_no (belt HB1.out (belA _ _))
theorem lnumsN (b d x : Int) (w : World) : Calls Try.prog 53 #[.agg #[.int .i64 b, .int .i64 d], .slice (some ⟨w.heap.size, 0, none⟩) 1 1] (w.alloc (.cells #[.int .i64 x] 3)) fun e w' => e = .returned (.bool (numB b d x)) ∧ Below w.heap.size w w' :=
  (lnumsA b d x w.heap.size _ (by simp) (cell_one_new' _ _ _)).mono fun e w' ⟨h1, h2⟩ => ⟨h1, belt (belA _ _) h2⟩
set_option maxRecDepth 100000 in
set_option maxHeartbeats 6400000 in
theorem lPutRow_any (b d : Int) (a : Option Addr) (cap n : Nat) (ms : List Rw) (key val : Int) (w : World) (hn : ms.length = n) (hm : n ≤ 1048576) (hc : n ≤ cap) (h0 : a = none → cap = 0) (hr : LsAt tyRw w a ms) :
    Calls Try.prog 16 #[.agg #[.int .i64 b, .int .i64 d], .slice a n cap, .int .i64 key, .int .i64 val] w (TabSay w (ptL b d ms key val) (ptB b d ms key val)) := by
  have K0 : Hid (Wire.Bk (w.alloc (.cells #[.int .i64 b, .int .i64 d] 25)) w.heap.size #[.int .i64 b, .int .i64 d] 25) := Wire.Bk.new _ _ _
  have CT : Calls Try.prog 52 #[.agg #[.int .i64 b, .int .i64 d], .slice a n cap] (w.alloc (.cells #[.int .i64 b, .int .i64 d] 25)) fun e w' => e = .returned (.bool (goodT b d ms)) ∧ Below (w.alloc (.cells #[.int .i64 b, .int .i64 d] 25)).heap.size (w.alloc (.cells #[.int .i64 b, .int .i64 d] 25)) w' := by
    subst hn
    exact lTable_any b d a cap ms _ (by unfold maxLen; omega) (hr.keep (belA w (.cells #[.int .i64 b, .int .i64 d] 25)))
  have CI := fun w1 => lin_any val 0 1000000 w1
  have CN := fun w1 => lnumsN b d key w1
  have HP : Hid (ptB b d ms key val = (goodT b d ms && numB b d key && inB val 0 1000000 && plB ms key)) := rfl
  cases hg : goodT b d ms
  · have HV : Hid (ptB b d ms key val = false) := by unfold Hid; rw [HP.out, hg]; rfl
    rw [ptL_no HV.out, HV.out]
    rw [hg] at CT
    clear hg hr h0
    go_enter Try.func16, Try.ntmps16
    go_wp2_with fail
    refine CT.mono ?_
    rintro e w1 ⟨rfl, HW⟩
    clear CT
    go_wp2
    go_ret2
    exact tabSay_no (belt (belA _ _) HW)
  have CL : ∀ w1 : World, Below w.heap.size w w1 → Calls Try.prog 55 #[.slice a n cap, .int .i64 key, .int .i64 val, .bool false] w1 (TabSay w1 (if plB ms key = true then putL ms (newR ms key val false) else []) (plB ms key)) := fun w1 hb => lPut_any b d a cap n ms key val false w1 (goodT_gt hg) hn hc h0 (hr.keep hb)
  have hgT := hg
  rw [hg] at CT
  clear hg hr h0
  cases hnb : numB b d key
  · have HV : Hid (ptB b d ms key val = false) := by unfold Hid; rw [HP.out, hgT, hnb]; rfl
    rw [ptL_no HV.out, HV.out]
    rw [hnb] at CN
    clear hnb hgT
    go_enter Try.func16, Try.ntmps16
    go_wp2_with fail
    refine CT.mono ?_
    rintro e w1 ⟨rfl, HW⟩
    have B1 : Hid (Below w.heap.size w w1) := belt (belA _ _) HW
    have K1 := K0.out.keep HW
    obtain ⟨s0, s1⟩ := Wire.Bk.c2 K1
    have z1 := K1.lt
    clear CT HW
    go_wp2_with fail
    refine (CN _).mono ?_
    rintro e w2 ⟨rfl, HW⟩
    have B2 : Hid (Below w.heap.size w w2) := belt B1.out HW
    clear CN HW s0 s1
    go_wp2
    go_ret2
    exact tabSay_no B2.out
  rw [hnb] at CN
  cases hvb : inB val 0 1000000
  · have HV : Hid (ptB b d ms key val = false) := by unfold Hid; rw [HP.out, hgT, hnb, hvb]; rfl
    rw [ptL_no HV.out, HV.out]
    rw [hvb] at CI
    clear hnb hgT hvb
    go_enter Try.func16, Try.ntmps16
    go_wp2_with fail
    refine CT.mono ?_
    rintro e w1 ⟨rfl, HW⟩
    have B1 : Hid (Below w.heap.size w w1) := belt (belA _ _) HW
    have K1 := K0.out.keep HW
    obtain ⟨s0, s1⟩ := Wire.Bk.c2 K1
    have z1 := K1.lt
    clear CT HW
    go_wp2_with fail
    refine (CN _).mono ?_
    rintro e w2 ⟨rfl, HW⟩
    have B2 : Hid (Below w.heap.size w w2) := belt B1.out HW
    clear CN HW s0 s1
    go_wp2_with fail
    refine (CI _).mono ?_
    rintro e w3 ⟨rfl, he⟩
    have he' := he.symm
    subst he'
    clear CI he
    go_wp2
    go_ret2
    exact tabSay_no B2.out
  rw [hvb] at CI
  have HPP : Hid (ptB b d ms key val = plB ms key) := by unfold Hid; rw [HP.out, hgT, hnb, hvb]; rfl
  have HPL : Hid (ptL b d ms key val = if plB ms key = true then putL ms (newR ms key val false) else []) := by unfold Hid ptL; rw [HPP.out]
  rw [HPL.out, HPP.out]
  clear hnb hgT hvb HP HPL HPP
  generalize (if plB ms key = true then putL ms (newR ms key val false) else []) = PL at *
  generalize plB ms key = ok at *
  go_enter Try.func16, Try.ntmps16
  go_wp2_with fail
  refine CT.mono ?_
  rintro e w1 ⟨rfl, HW⟩
  have B1 : Hid (Below w.heap.size w w1) := belt (belA _ _) HW
  have K1 := K0.out.keep HW
  obtain ⟨s0, s1⟩ := Wire.Bk.c2 K1
  have z1 := K1.lt
  clear CT HW
  go_wp2_with fail
  refine (CN _).mono ?_
  rintro e w2 ⟨rfl, HW⟩
  have B2 : Hid (Below w.heap.size w w2) := belt B1.out HW
  clear CN HW s0 s1 K1 z1
  go_wp2_with fail
  refine (CI _).mono ?_
  rintro e w3 ⟨rfl, he⟩
  have he' := he.symm
  subst he'
  clear CI he
  go_wp2_with fail
  refine (CL _ B2.out).mono ?_
  rintro e w4 ⟨a4, n4, c4, rfl, q1, q2, q3, q4, HW⟩
  have HQ : Hid (PL.length = n4 ∧ LsAt tyRw w4 a4 PL ∧ n4 ≤ c4 ∧ (a4 = none → c4 = 0) ∧ Below w.heap.size w w4) := ⟨q1, q2, q3, q4, belt B2.out HW⟩
  clear CL q1 q2 q3 q4 HW
  go_wp2
  go_ret2
  exact ⟨a4, n4, c4, rfl, HQ.out⟩
set_option maxRecDepth 100000 in
set_option maxHeartbeats 6400000 in
theorem lDropRow_any (b d : Int) (a : Option Addr) (cap n : Nat) (ms : List Rw) (key : Int) (w : World) (hn : ms.length = n) (hm : n ≤ 1048576) (hc : n ≤ cap) (h0 : a = none → cap = 0) (hr : LsAt tyRw w a ms) :
    Calls Try.prog 25 #[.agg #[.int .i64 b, .int .i64 d], .slice a n cap, .int .i64 key] w (TabSay w (dpL b d ms key) (dpB b d ms key)) := by
  have CR := lGetRow_any b d a cap n ms key _ hn (by unfold maxLen; omega) (hr.keep (belA w (.cells #[.int .i64 b, .int .i64 d] 25)))
  have HP : Hid (dpB b d ms key = (gtB b d ms key && plB ms key)) := rfl
  cases hok : gtB b d ms key
  · have HV : Hid (dpB b d ms key = false) := by unfold Hid; rw [HP.out, hok]; rfl
    rw [dpL_no HV.out, HV.out]
    rw [hok] at CR
    generalize gtV b d ms key = gv at CR
    clear hok HP hr h0
    go_enter Try.func25, Try.ntmps25
    go_wp2_with fail
    refine CR.mono ?_
    rintro e w1 ⟨rfl, HW⟩
    clear CR
    go_wp2
    go_ret2
    exact tabSay_no (belt (belA _ _) HW)
  have hgT : goodT b d ms = true := by
    unfold gtB rfB at hok
    rw [Bool.and_eq_true, Bool.and_eq_true] at hok
    exact hok.1.1
  have CL : ∀ w1 : World, Below w.heap.size w w1 → Calls Try.prog 55 #[.slice a n cap, .int .i64 key, .int .i64 0, .bool true] w1 (TabSay w1 (if plB ms key = true then putL ms (newR ms key 0 true) else []) (plB ms key)) := fun w1 hb => lPut_any b d a cap n ms key 0 true w1 (goodT_gt hgT) hn hc h0 (hr.keep hb)
  have HPP : Hid (dpB b d ms key = plB ms key) := by unfold Hid; rw [HP.out, hok]; rfl
  have HPL : Hid (dpL b d ms key = if plB ms key = true then putL ms (newR ms key 0 true) else []) := by unfold Hid dpL; rw [HPP.out]
  rw [HPL.out, HPP.out]
  rw [hok] at CR
  generalize gtV b d ms key = gv at CR
  clear hok hgT HP hr h0 HPL HPP
  generalize (if plB ms key = true then putL ms (newR ms key 0 true) else []) = PL at *
  generalize plB ms key = ok at *
  go_enter Try.func25, Try.ntmps25
  go_wp2_with fail
  refine CR.mono ?_
  rintro e w1 ⟨rfl, HW⟩
  have B1 : Hid (Below w.heap.size w w1) := belt (belA _ _) HW
  clear CR HW
  go_wp2_with fail
  refine (CL _ B1.out).mono ?_
  rintro e w4 ⟨a4, n4, c4, rfl, q1, q2, q3, q4, HW⟩
  have HQ : Hid (PL.length = n4 ∧ LsAt tyRw w4 a4 PL ∧ n4 ≤ c4 ∧ (a4 = none → c4 = 0) ∧ Below w.heap.size w w4) := ⟨q1, q2, q3, q4, belt B1.out HW⟩
  clear CL q1 q2 q3 q4 HW
  go_wp2
  go_ret2
  exact ⟨a4, n4, c4, rfl, HQ.out⟩
end Go.Proofs.Ytpgngfdhnoonjaa.Tb
