/- JoinTables and RowsIn of the specification, and as the laws call them. -/
import Derived.Test.YtpgngfdhnoonjaaSp3
namespace Go.Proofs.Ytpgngfdhnoonjaa.Tb
open Go.RowKit Wire Go.Deep
set_option linter.unusedVariables false
set_option linter.unusedSimpArgs false
theorem arcF_take {b f t : Int} {ms : List Rw} {j : Nat} (h : j < ms.length) : arcF b f t (ms.take (j + 1)) = arcF b f t (ms.take j) ++ (if arcB b f (ms.getD j rw0).x0 t = true then [ms.getD j rw0] else []) := by
  unfold arcF
  rw [List.take_succ_eq_append_getElem h, List.filter_append, getD_at h]
  congr 1
  by_cases ha : arcB b f ms[j].x0 t = true
  · rw [if_pos ha]; simp [ha]
  · rw [if_neg ha]; simp [ha]
theorem arcF_big {b f t : Int} {ms : List Rw} {j : Nat} : (arcF b f t (ms.take j)).length ≤ ms.length := by
  have h1 := arcF_len (b := b) (f := f) (t := t) (ms := ms.take j)
  have h2 : (ms.take j).length ≤ ms.length := by rw [List.length_take]; omega
  omega
set_option maxRecDepth 100000 in
set_option maxHeartbeats 6400000 in
theorem lIn_any (b d : Int) (a : Option Addr) (cap n : Nat) (ms : List Rw) (f t : Int) (w : World) (hG : GT b d ms) (hf : numB b d f = true) (ht : numB b d t = true) (hn : ms.length = n) (hr : LsAt tyRw w a ms) :
    Calls Try.prog 64 #[.agg #[.int .i64 b, .int .i64 d], .slice a n cap, .int .i64 f, .int .i64 t] w fun e w' => ∃ v, e = .returned v ∧ OwR w.heap.size w' v (arcF b f t ms) ∧ Below w.heap.size w w' := by
  have HR : Hid (LsAt tyRw w a ms) := hr
  have HNN : Hid (ms.length = n) := hn
  have HG : Hid (GT b d ms) := hG
  have hn8 : n ≤ 8 := by have := hG.len; omega
  obtain ⟨hb1, hb2, _⟩ := gsB_true hG.gs
  obtain ⟨_, f1, f2⟩ := numB_true hf
  obtain ⟨_, t1, t2⟩ := numB_true ht
  have CA : ∀ x, numB b d x = true → ∀ w1, Calls Try.prog 80 #[.agg #[.int .i64 b, .int .i64 d], .int .i64 f, .int .i64 x, .int .i64 t] w1 fun e w' => e = .returned (.bool (arcB b f x t)) ∧ Below w1.heap.size w1 w' := fun x hx w1 => larc_any b d f x t w1 hb1 hb2 f1 f2 (numB_true hx).2.1 (numB_true hx).2.2 t1 t2
  have K0 : Hid (Wire.Bk (w.alloc (.cells #[.int .i64 b, .int .i64 d] 25)) w.heap.size #[.int .i64 b, .int .i64 d] 25) := Wire.Bk.new _ _ _
  have HO0 : Hid (OwR w.heap.size (w.alloc (.cells #[.int .i64 b, .int .i64 d] 25)) (.slice none 0 0) (arcF b f t (ms.take 0))) := ⟨rfl, .inl ⟨rfl, rfl⟩⟩
  clear hr hn hG hf ht hb1 hb2 f1 f2 t1 t2
  go_enter Try.func64, Try.ntmps64
  go_wp2_with fail
  go_loopw [9, 14] (fun vo vi wr => ∃ (j : Nat) (v : Value), j ≤ n ∧ vi = .int .i64 j ∧ vo = v ∧ Hid (OwR w.heap.size wr v (arcF b f t (ms.take j))) ∧ Hid (Below w.heap.size w wr) ∧ Hid (Wire.Bk wr w.heap.size #[.int .i64 b, .int .i64 d] 25)) (fun _ vi _ => n - (intOf vi).toNat)
  case atStart => exact ⟨0, _, Nat.zero_le _, rfl, rfl, HO0, belA _ _, K0⟩
  case round =>
    obtain ⟨j, v, hj, rfl, hv, HO, HB, HK⟩ := hrel
    clear HO0 K0
    have hv' := hv.symm
    clear hv
    subst hv'
    by_cases hlt : j < n
    · have hjl : j < ms.length := by rw [HNN.out]; exact hlt
      obtain ⟨bk, off, rfl⟩ := lsAt_form HR.out (by show 0 < ms.length; omega)
      obtain ⟨hb1, hcr⟩ := rwAt_cell (HR.out.keep HB.out) hjl
      obtain ⟨c0, c1, c2, c3⟩ := CellsAt.rw hcr
      clear hcr hb1
      have HS : Hid (arcF b f t (ms.take (j + 1)) = arcF b f t (ms.take j) ++ (if arcB b f (ms.getD j rw0).x0 t = true then [ms.getD j rw0] else [])) := arcF_take hjl
      have HLEN : Hid ((arcF b f t (ms.take j)).length ≤ 8) := by have h1 := arcF_big (b := b) (f := f) (t := t) (ms := ms) (j := j); have := HNN.out; unfold Hid; omega
      have hrow : rowB b d (ms.getD j rw0) = true := HG.out.row _ (by rw [getD_at hjl]; exact List.getElem_mem hjl)
      have hnum : numB b d (ms.getD j rw0).x0 = true := by
        unfold rowB at hrow
        rw [Bool.and_eq_true, Bool.and_eq_true, Bool.and_eq_true] at hrow
        exact hrow.1.1.1
      clear hrow hjl
      generalize ms.getD j rw0 = r at c0 c1 c2 c3 HS hnum
      obtain ⟨ln, hln⟩ : ∃ L, Hid (L = arcF b f t (ms.take (j + 1))) := ⟨_, rfl⟩
      rw [← hln.out] at HS
      generalize arcF b f t (ms.take j) = L at HS HO HLEN
      obtain ⟨x0, x1, x2, g⟩ := r
      have CX := CA x0 hnum
      have HS : Hid (ln = L ++ (if arcB b f x0 t = true then [⟨x0, x1, x2, g⟩] else [])) := HS
      have HKS : Hid (Wire.Bk (wr.alloc (.cells #[.int .i64 x0, .int .i64 x1, .int .i64 x2, .bool g] 37)) w.heap.size #[.int .i64 b, .int .i64 d] 25) := HK.out.keep (belA _ _)
      have HKR : Hid (Wire.Bk (wr.alloc (.cells #[.int .i64 x0, .int .i64 x1, .int .i64 x2, .bool g] 37)) wr.heap.size #[.int .i64 x0, .int .i64 x1, .int .i64 x2, .bool g] 37) := Wire.Bk.new _ _ _
      obtain ⟨s0, s1⟩ := Wire.Bk.c2 HKS.out
      clear hnum
      cases ha : arcB b f x0 t
      · have HSS : Hid (ln = L) := by unfold Hid; rw [HS.out, ha]; simp
        rw [ha] at CX
        clear HS ha
        go_wp2_with fail
        refine (CX _).mono ?_
        rintro e w1 ⟨rfl, HW⟩
        have HO1 : Hid (OwR w.heap.size w1 v (arcF b f t (ms.take (j + 1)))) := by rw [← hln.out, HSS.out]; exact HO.out.keep (belt (belA _ _) HW)
        have HB1 : Hid (Below w.heap.size w w1) := belt HB.out (belt (belA _ _) HW)
        have HK1 : Hid (Wire.Bk w1 w.heap.size #[.int .i64 b, .int .i64 d] 25) := HKS.out.keep HW
        clear CX HW s0 s1 HKS HKR
        go_wp2
        go_roundw
        case rel => exact ⟨j + 1, v, by omega, by go_num, rfl, HO1, HB1, HK1⟩
        case measure => simp [intOf]; omega
      · have HSS : Hid (ln = L ++ [⟨x0, x1, x2, g⟩]) := by unfold Hid; rw [HS.out, ha]; simp
        rw [ha] at CX
        clear HS ha
        go_wp2_with fail
        refine (CX _).mono ?_
        rintro e w1 ⟨rfl, HW⟩
        have HO1 : Hid (OwR w.heap.size (w1.alloc (.cells #[.int .i64 x0, .int .i64 x1, .int .i64 x2, .bool g] 37)) v L) := (HO.out.keep (belt (belA _ _) HW)).alloc _
        have HB1 : Hid (Below w.heap.size w (w1.alloc (.cells #[.int .i64 x0, .int .i64 x1, .int .i64 x2, .bool g] 37))) := belt (belt HB.out (belt (belA _ _) HW)) (belA _ _)
        have HK1 : Hid (Wire.Bk w1 w.heap.size #[.int .i64 b, .int .i64 d] 25) := HKS.out.keep HW
        have HRN : Hid (LsAt tyRw (w1.alloc (.cells #[.int .i64 x0, .int .i64 x1, .int .i64 x2, .bool g] 37)) (some ⟨w1.heap.size, 0, none⟩) [⟨x0, x1, x2, g⟩]) := row_at_new w1 ⟨x0, x1, x2, g⟩
        obtain ⟨r0, r1, r2, r3⟩ := Wire.Bk.c4 (HKR.out.keep HW)
        clear CX HW s0 s1 HKS HKR
        go_wp2_with (first | (at_builtin; refine wpList_app rfl _ _ rfl w.heap.size v L rfl HO1.out (some ⟨w1.heap.size, 0, none⟩) 1 1 [⟨x0, x1, x2, g⟩] rfl rfl HRN.out (fun hh => by cases hh) (by have := HLEN.out; omega) (by omega) HB1.out.size ?_; intro v5 w5 hown hgrow) | fail)
        have HO5 : Hid (OwR w.heap.size w5 v5 (arcF b f t (ms.take (j + 1)))) := by rw [← hln.out, HSS.out]; exact hown
        have HB5 : Hid (Below w.heap.size w w5) := grown_bel' HB1.out hgrow HB1.out.size HO1.out.lo
        have HK5 : Hid (Wire.Bk w5 w.heap.size #[.int .i64 b, .int .i64 d] 25) := (hgrow.block _ (by have := HK1.out.lt; simp; omega) (fun he => by
          have h1 := World.ownsRow.lt HO.out _ he.symm
          obtain ⟨cur, hcur⟩ : ∃ g c, v = .slice (some ⟨g, 0, none⟩) L.length c := by
            rcases Joins.ownsRow_forms HO.out with ⟨h2, _⟩ | ⟨g, c, h2⟩
            · rw [h2] at he; cases he
            · exact ⟨g, c, h2⟩
          obtain ⟨c', hcv⟩ := hcur
          rw [hcv] at he
          have hg : cur = w.heap.size := by simp [Value.ownBlock] at he; omega
          have ho := HO.out
          rw [hcv, hg] at ho
          obtain ⟨⟨cu, hcu⟩, _⟩ := owns_cells ho
          have hk := HK.out
          unfold Wire.Bk at hk
          rw [hcu] at hk
          simp at hk)).trans (HK1.out.alloc _)
        clear hown hgrow HO1 HB1 HRN r0 r1 r2 r3
        go_wp2
        go_roundw
        case rel => exact ⟨j + 1, v5, by omega, by go_num, rfl, HO5, HB5, HK5⟩
        case measure => simp [intOf]; omega
    · have hje : j = n := by omega
      subst hje
      have HF : Hid (OwR w.heap.size wr v (arcF b f t ms)) := by
        have h := HO.out
        rw [List.take_of_length_le (by rw [HNN.out]; exact Nat.le_refl _)] at h
        exact h
      clear HO
      go_wp2
      go_ret
      exact ⟨v, rfl, HF.out, HB.out⟩
set_option maxRecDepth 100000 in
set_option maxHeartbeats 6400000 in
theorem lJoinTables_any (b d : Int) (a a' : Option Addr) (cap cap' n n' : Nat) (ms ns : List Rw) (w : World) (hn : ms.length = n) (hm : n ≤ 1048576) (h0 : a = none → cap = 0) (hr : LsAt tyRw w a ms) (hn' : ns.length = n') (hm' : n' ≤ 1048576) (hr' : LsAt tyRw w a' ns) :
    Calls Try.prog 32 #[.agg #[.int .i64 b, .int .i64 d], .slice a n cap, .slice a' n' cap'] w (TabSay w (jnL b d ms ns) (jnB b d ms ns)) := by
  have K0 : Hid (Wire.Bk (w.alloc (.cells #[.int .i64 b, .int .i64 d] 25)) w.heap.size #[.int .i64 b, .int .i64 d] 25) := Wire.Bk.new _ _ _
  have CT : Calls Try.prog 52 #[.agg #[.int .i64 b, .int .i64 d], .slice a n cap] (w.alloc (.cells #[.int .i64 b, .int .i64 d] 25)) fun e w' => e = .returned (.bool (goodT b d ms)) ∧ Below (w.alloc (.cells #[.int .i64 b, .int .i64 d] 25)).heap.size (w.alloc (.cells #[.int .i64 b, .int .i64 d] 25)) w' := by
    subst hn
    exact lTable_any b d a cap ms _ (by unfold maxLen; omega) (hr.keep (belA w (.cells #[.int .i64 b, .int .i64 d] 25)))
  have CT' : ∀ w1, Below w.heap.size w w1 → Calls Try.prog 52 #[.agg #[.int .i64 b, .int .i64 d], .slice a' n' cap'] w1 fun e w' => e = .returned (.bool (goodT b d ns)) ∧ Below w1.heap.size w1 w' := fun w1 h => by
    subst hn'
    exact lTable_any b d a' cap' ns _ (by unfold maxLen; omega) (hr'.keep h)
  have HP : Hid (jnB b d ms ns = (goodT b d ms && goodT b d ns && decide ((joinL ms ns).length ≤ 8))) := rfl
  cases hg : goodT b d ms
  · have HV : Hid (jnB b d ms ns = false) := by unfold Hid; rw [HP.out, hg]; rfl
    rw [jnL_no HV.out, HV.out]
    rw [hg] at CT
    clear hg hr hr' h0 CT'
    go_enter Try.func32, Try.ntmps32
    go_wp2_with fail
    refine CT.mono ?_
    rintro e w1 ⟨rfl, HW⟩
    clear CT
    go_wp2
    go_ret2
    exact tabSay_no (belt (belA _ _) HW)
  have hgT := hg
  rw [hg] at CT
  clear hg
  cases hg' : goodT b d ns
  · have HV : Hid (jnB b d ms ns = false) := by unfold Hid; rw [HP.out, hgT, hg']; rfl
    rw [jnL_no HV.out, HV.out]
    rw [hg'] at CT'
    clear hg' hgT hr hr' h0
    go_enter Try.func32, Try.ntmps32
    go_wp2_with fail
    refine CT.mono ?_
    rintro e w1 ⟨rfl, HW⟩
    have B1 : Hid (Below w.heap.size w w1) := belt (belA _ _) HW
    have K1 := K0.out.keep HW
    obtain ⟨s0, s1⟩ := Wire.Bk.c2 K1
    have z1 := K1.lt
    clear CT HW
    go_wp2_with fail
    refine (CT' _ B1.out).mono ?_
    rintro e w2 ⟨rfl, HW⟩
    have B2 : Hid (Below w.heap.size w w2) := belt B1.out HW
    clear CT' HW s0 s1
    go_wp2
    go_ret2
    exact tabSay_no B2.out
  rw [hg'] at CT'
  have CJ : ∀ w1 : World, Below w.heap.size w w1 → Calls Try.prog 61 #[.slice a n cap, .slice a' n' cap'] w1 fun e w' => ∃ v, e = .returned v ∧ OwR w1.heap.size w' v (joinL ms ns) ∧ Below w1.heap.size w1 w' := fun w1 hb => lJoin_any b d a a' cap cap' n n' ms ns w1 (goodT_gt hgT) (goodT_gt hg') hn h0 (hr.keep hb) hn' (hr'.keep hb)
  have HPP : Hid (jnB b d ms ns = decide ((joinL ms ns).length ≤ 8)) := by unfold Hid; rw [HP.out, hgT, hg']; rfl
  have hl16 : (joinL ms ns).length ≤ 16 := by have := joinL_len ns ms; have := (goodT_gt hgT).len; have := (goodT_gt hg').len; omega
  clear hgT hg' HP hr hr' h0
  by_cases h8 : (joinL ms ns).length ≤ 8
  · have HV : Hid (jnB b d ms ns = true) := by unfold Hid; rw [HPP.out, decide_eq_true h8]
    rw [jnL_yes HV.out, HV.out]
    have h8d : decide ((8 : Int) < ((joinL ms ns).length : Int)) = false := decide_eq_false (by omega)
    have h8e : decide (8 < (joinL ms ns).length) = false := decide_eq_false (by omega)
    clear h8 HPP
    go_enter Try.func32, Try.ntmps32
    go_wp2_with fail
    refine CT.mono ?_
    rintro e w1 ⟨rfl, HW⟩
    have B1 : Hid (Below w.heap.size w w1) := belt (belA _ _) HW
    have K1 := K0.out.keep HW
    obtain ⟨s0, s1⟩ := Wire.Bk.c2 K1
    have z1 := K1.lt
    clear CT HW
    go_wp2_with fail
    refine (CT' _ B1.out).mono ?_
    rintro e w2 ⟨rfl, HW⟩
    have B2 : Hid (Below w.heap.size w w2) := belt B1.out HW
    clear CT' HW s0 s1 K1 z1
    go_wp2_with fail
    refine (CJ _ B2.out).mono ?_
    rintro e w4 ⟨v4, rfl, hO, HW⟩
    have HO4 : Hid (OwR w.heap.size w4 v4 (joinL ms ns)) := hO.mono B2.out.size
    have HB4 : Hid (Below w.heap.size w w4) := belt B2.out HW
    clear CJ hO HW
    obtain ⟨a4, c4, rfl⟩ := HO4.out.slice
    go_wp2
    go_ret2
    exact HO4.out.say HB4.out (by omega) true
  · have HV : Hid (jnB b d ms ns = false) := by unfold Hid; rw [HPP.out, decide_eq_false h8]
    rw [jnL_no HV.out, HV.out]
    have h8d : decide ((8 : Int) < ((joinL ms ns).length : Int)) = true := decide_eq_true (by omega)
    have h8e : decide (8 < (joinL ms ns).length) = true := decide_eq_true (by omega)
    clear h8 HPP
    go_enter Try.func32, Try.ntmps32
    go_wp2_with fail
    refine CT.mono ?_
    rintro e w1 ⟨rfl, HW⟩
    have B1 : Hid (Below w.heap.size w w1) := belt (belA _ _) HW
    have K1 := K0.out.keep HW
    obtain ⟨s0, s1⟩ := Wire.Bk.c2 K1
    have z1 := K1.lt
    clear CT HW
    go_wp2_with fail
    refine (CT' _ B1.out).mono ?_
    rintro e w2 ⟨rfl, HW⟩
    have B2 : Hid (Below w.heap.size w w2) := belt B1.out HW
    clear CT' HW s0 s1 K1 z1
    go_wp2_with fail
    refine (CJ _ B2.out).mono ?_
    rintro e w4 ⟨v4, rfl, hO, HW⟩
    have HO4 : Hid (OwR w.heap.size w4 v4 (joinL ms ns)) := hO.mono B2.out.size
    have HB4 : Hid (Below w.heap.size w w4) := belt B2.out HW
    clear CJ hO HW
    obtain ⟨a4, c4, rfl⟩ := HO4.out.slice
    go_wp2
    go_ret2
    exact tabSay_no HB4.out
theorem lnums2N (b d x y : Int) (w : World) : Calls Try.prog 53 #[.agg #[.int .i64 b, .int .i64 d], .slice (some ⟨w.heap.size, 0, none⟩) 2 2] (w.alloc (.cells #[.int .i64 x, .int .i64 y] 3)) fun e w' => e = .returned (.bool (numB b d x && numB b d y)) ∧ Below w.heap.size w w' := by
  have hc := cell_two_new' w (.int .i64 x) (.int .i64 y) 3
  have h := lnums_any b d w.heap.size 0 2 [x, y] (w.alloc (.cells #[.int .i64 x, .int .i64 y] 3)) (by simp [maxLen]) (by simp) (fun i hi => by
    match i, hi with
    | 0, _ => exact hc.1
    | 1, _ => exact hc.2)
  rw [numsB_2] at h
  exact h.mono fun e w' ⟨h1, h2⟩ => ⟨h1, belt (belA _ _) h2⟩
set_option maxRecDepth 100000 in
set_option maxHeartbeats 6400000 in
theorem lRowsIn_any (b d : Int) (a : Option Addr) (cap n : Nat) (ms : List Rw) (f t : Int) (w : World) (hn : ms.length = n) (hm : n ≤ 1048576) (hr : LsAt tyRw w a ms) :
    Calls Try.prog 35 #[.agg #[.int .i64 b, .int .i64 d], .slice a n cap, .int .i64 f, .int .i64 t] w (TabSay w (riL b d ms f t) (riB b d ms f t)) := by
  have K0 : Hid (Wire.Bk (w.alloc (.cells #[.int .i64 b, .int .i64 d] 25)) w.heap.size #[.int .i64 b, .int .i64 d] 25) := Wire.Bk.new _ _ _
  have CT : Calls Try.prog 52 #[.agg #[.int .i64 b, .int .i64 d], .slice a n cap] (w.alloc (.cells #[.int .i64 b, .int .i64 d] 25)) fun e w' => e = .returned (.bool (goodT b d ms)) ∧ Below (w.alloc (.cells #[.int .i64 b, .int .i64 d] 25)).heap.size (w.alloc (.cells #[.int .i64 b, .int .i64 d] 25)) w' := by
    subst hn
    exact lTable_any b d a cap ms _ (by unfold maxLen; omega) (hr.keep (belA w (.cells #[.int .i64 b, .int .i64 d] 25)))
  have CN := fun w1 => lnums2N b d f t w1
  have HP : Hid (riB b d ms f t = (goodT b d ms && (numB b d f && numB b d t))) := by unfold Hid riB; rw [Bool.and_assoc]
  cases hg : goodT b d ms
  · have HV : Hid (riB b d ms f t = false) := by unfold Hid; rw [HP.out, hg]; rfl
    rw [riL_no HV.out, HV.out]
    rw [hg] at CT
    clear hg hr
    go_enter Try.func35, Try.ntmps35
    go_wp2_with fail
    refine CT.mono ?_
    rintro e w1 ⟨rfl, HW⟩
    clear CT
    go_wp2
    go_ret2
    exact tabSay_no (belt (belA _ _) HW)
  have hgT := hg
  rw [hg] at CT
  clear hg
  cases hb : (numB b d f && numB b d t)
  · have HV : Hid (riB b d ms f t = false) := by unfold Hid; rw [HP.out, hgT, hb]; rfl
    rw [riL_no HV.out, HV.out]
    rw [hb] at CN
    clear hb hgT hr
    go_enter Try.func35, Try.ntmps35
    go_wp2_with fail
    refine CT.mono ?_
    rintro e w1 ⟨rfl, HW⟩
    have B1 : Hid (Below w.heap.size w w1) := belt (belA _ _) HW
    have K1 := K0.out.keep HW
    obtain ⟨s0, s1⟩ := Wire.Bk.c2 K1
    have z1 := K1.lt
    clear CT HW
    go_wp2_with fail
    refine (CN _).mono ?_
    rintro e w2 ⟨rfl, HW⟩
    have B2 : Hid (Below w.heap.size w w2) := belt B1.out HW
    clear CN HW s0 s1
    go_wp2
    go_ret2
    exact tabSay_no B2.out
  have HV : Hid (riB b d ms f t = true) := by unfold Hid; rw [HP.out, hgT, hb]; rfl
  rw [riL_yes HV.out, HV.out]
  rw [hb] at CN
  have hfb : numB b d f = true := by rw [Bool.and_eq_true] at hb; exact hb.1
  have htb : numB b d t = true := by rw [Bool.and_eq_true] at hb; exact hb.2
  have CI : ∀ w1 : World, Below w.heap.size w w1 → Calls Try.prog 64 #[.agg #[.int .i64 b, .int .i64 d], .slice a n cap, .int .i64 f, .int .i64 t] w1 fun e w' => ∃ v, e = .returned v ∧ OwR w1.heap.size w' v (arcF b f t ms) ∧ Below w1.heap.size w1 w' := fun w1 hb => lIn_any b d a cap n ms f t w1 (goodT_gt hgT) hfb htb hn (hr.keep hb)
  have HL8 : Hid ((arcF b f t ms).length ≤ 8) := Nat.le_trans arcF_len (goodT_gt hgT).len
  clear hb hgT hfb htb hr HP
  go_enter Try.func35, Try.ntmps35
  go_wp2_with fail
  refine CT.mono ?_
  rintro e w1 ⟨rfl, HW⟩
  have B1 : Hid (Below w.heap.size w w1) := belt (belA _ _) HW
  have K1 : Hid (Wire.Bk w1 w.heap.size #[.int .i64 b, .int .i64 d] 25) := K0.out.keep HW
  obtain ⟨s0, s1⟩ := Wire.Bk.c2 K1.out
  have z1 := K1.out.lt
  clear CT HW
  go_wp2_with fail
  refine (CN _).mono ?_
  rintro e w2 ⟨rfl, HW⟩
  have B2 : Hid (Below w.heap.size w w2) := belt B1.out HW
  have K2 : Hid (Wire.Bk w2 w.heap.size #[.int .i64 b, .int .i64 d] 25) := K1.out.keep HW
  clear CN HW s0 s1 z1 K1
  obtain ⟨s0, s1⟩ := Wire.Bk.c2 K2.out
  have z2 := K2.out.lt
  go_wp2_with fail
  refine (CI _ B2.out).mono ?_
  rintro e w4 ⟨v4, rfl, hO, HW⟩
  have HO4 : Hid (OwR w.heap.size w4 v4 (arcF b f t ms)) := hO.mono B2.out.size
  have HB4 : Hid (Below w.heap.size w w4) := belt B2.out HW
  clear CI hO HW s0 s1 z2 K2
  go_wp2
  go_ret2
  exact HO4.out.say HB4.out (by have := HL8.out; omega) true
theorem jnL_big (b d : Int) (ms ns : List Rw) : (jnL b d ms ns).length ≤ 1048576 := by
  cases h : jnB b d ms ns
  · rw [jnL_no h]; simp
  · rw [jnL_yes h]
    unfold jnB at h
    rw [Bool.and_eq_true, decide_eq_true_eq] at h
    omega
theorem riL_big (b d : Int) (ms : List Rw) (f t : Int) : (riL b d ms f t).length ≤ 1048576 := by
  cases h : riB b d ms f t
  · rw [riL_no h]; simp
  · rw [riL_yes h]
    unfold riB at h
    rw [Bool.and_eq_true, Bool.and_eq_true] at h
    have h1 := arcF_len (b := b) (f := f) (t := t) (ms := ms)
    have := (goodT_gt h.1.1).len
    omega
theorem cap_nil {w : World} {a : Option Addr} {n : Nat} {ms : List Rw} (hr : LsAt tyRw w a ms) (hn : ms.length = n) : a = none → n = 0 := fun h => by
  subst h
  have := lsAt_none hr
  subst this
  exact hn.symm
theorem lJoinTables_own (b d : Int) (a : Option Addr) (cap n : Nat) (ms : List Rw) (a' : Option Addr) (cap' n' : Nat) (ns : List Rw) (w : World) (hn : ms.length = n) (hm : n ≤ 1048576) (hr : LsAt tyRw w a ms) (hn' : ns.length = n') (hm' : n' ≤ 1048576) (hr' : LsAt tyRw w a' ns) (hce : cap = n) (hce' : cap' = n') :
    Calls Try.prog 32 #[.agg #[.int .i64 b, .int .i64 d], .slice a n cap, .slice a' n' cap'] w fun e w' => ∃ a2 n2 c, e = .returned (.tuple #[.slice a2 n2 c, .bool (jnB b d ms ns)]) ∧ (jnL b d ms ns).length = n2 ∧ LsAt tyRw w' a2 (jnL b d ms ns) ∧ Below w.heap.size w w' := by
  subst hce hce'
  refine (lJoinTables_any b d a a' cap cap' cap cap' ms ns w hn hm (cap_nil hr hn) hr hn' hm' hr').mono ?_
  rintro e w1 ⟨a', n', c, rfl, q1, q2, _, _, q3⟩
  exact ⟨a', n', c, rfl, q1, q2, q3⟩
theorem JoinTables_own (b d : Int) (a : Option Addr) (cap n : Nat) (ms : List Rw) (a' : Option Addr) (cap' n' : Nat) (ns : List Rw) (w : World) (hn : ms.length = n) (hm : n ≤ 1048576) (hr : LsAt tyRw w a ms) (hn' : ns.length = n') (hm' : n' ≤ 1048576) (hr' : LsAt tyRw w a' ns) :
    Calls Try.prog 31 #[.agg #[.int .i64 b, .int .i64 d], .slice a n cap, .slice a' n' cap'] w fun e w' => ∃ a2 n2 c, e = .returned (.tuple #[.slice a2 n2 c, .bool (jnB b d ms ns)]) ∧ (jnL b d ms ns).length = n2 ∧ OwnEs tyRw 37 w.heap.size w'.heap.size w' a2 n2 (jnL b d ms ns) ∧ Below w.heap.size w w' :=
  JoinTables_any b d a a' cap cap' n n' ms ns w hn hm hr hn' hm' hr'
theorem lRowsIn_own (b d : Int) (a : Option Addr) (cap n : Nat) (ms : List Rw) (f t : Int) (w : World) (hn : ms.length = n) (hm : n ≤ 1048576) (hr : LsAt tyRw w a ms) (hce : cap = n) :
    Calls Try.prog 35 #[.agg #[.int .i64 b, .int .i64 d], .slice a n cap, .int .i64 f, .int .i64 t] w fun e w' => ∃ a2 n2 c, e = .returned (.tuple #[.slice a2 n2 c, .bool (riB b d ms f t)]) ∧ (riL b d ms f t).length = n2 ∧ LsAt tyRw w' a2 (riL b d ms f t) ∧ Below w.heap.size w w' := by
  refine (lRowsIn_any b d a cap n ms f t w hn hm hr).mono ?_
  rintro e w1 ⟨a', n', c, rfl, q1, q2, _, _, q3⟩
  exact ⟨a', n', c, rfl, q1, q2, q3⟩
theorem RowsIn_own (b d : Int) (a : Option Addr) (cap n : Nat) (ms : List Rw) (f t : Int) (w : World) (hn : ms.length = n) (hm : n ≤ 1048576) (hr : LsAt tyRw w a ms) :
    Calls Try.prog 34 #[.agg #[.int .i64 b, .int .i64 d], .slice a n cap, .int .i64 f, .int .i64 t] w fun e w' => ∃ a2 n2 c, e = .returned (.tuple #[.slice a2 n2 c, .bool (riB b d ms f t)]) ∧ (riL b d ms f t).length = n2 ∧ OwnEs tyRw 37 w.heap.size w'.heap.size w' a2 n2 (riL b d ms f t) ∧ Below w.heap.size w w' :=
  RowsIn_any b d a cap n ms f t w hn hm hr
end Go.Proofs.Ytpgngfdhnoonjaa.Tb
