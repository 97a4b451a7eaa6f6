/- PutRow and DropRow of the program. -/
import Derived.Test.YtpgngfdhnoonjaaMp3
namespace Go.Proofs.Ytpgngfdhnoonjaa.Tb
open Go.RowKit Wire Go.Deep
set_option linter.unusedVariables false
set_option linter.unusedSimpArgs false
/-- the row that is put, and whether it may be -/
def newR (ms : List Rw) (key val : Int) (gone : Bool) : Rw := ⟨key, (if hasK ms key = true then (ms.getD (atK ms key) rw0).x1 + 1 else 1), val, gone⟩
def plB (ms : List Rw) (key : Int) : Bool := if hasK ms key = true then decide ((ms.getD (atK ms key) rw0).x1 < 1000000) else decide (¬ ms.length = 8)
def ptB (b d : Int) (ms : List Rw) (key val : Int) : Bool := goodT b d ms && numB b d key && inB val 0 1000000 && plB ms key
def ptL (b d : Int) (ms : List Rw) (key val : Int) : List Rw := if ptB b d ms key val = true then putL ms (newR ms key val false) else []
def dpB (b d : Int) (ms : List Rw) (key : Int) : Bool := gtB b d ms key && plB ms key
def dpL (b d : Int) (ms : List Rw) (key : Int) : List Rw := if dpB b d ms key = true then putL ms (newR ms key 0 true) else []
theorem ptL_no {b d : Int} {ms : List Rw} {key val : Int} (h : ptB b d ms key val = false) : ptL b d ms key val = [] := by unfold ptL; rw [h]; rfl
theorem ptL_yes {b d : Int} {ms : List Rw} {key val : Int} (h : ptB b d ms key val = true) : ptL b d ms key val = putL ms (newR ms key val false) := by unfold ptL; rw [h]; rfl
theorem dpL_no {b d : Int} {ms : List Rw} {key : Int} (h : dpB b d ms key = false) : dpL b d ms key = [] := by unfold dpL; rw [h]; rfl
theorem dpL_yes {b d : Int} {ms : List Rw} {key : Int} (h : dpB b d ms key = true) : dpL b d ms key = putL ms (newR ms key 0 true) := by unfold dpL; rw [h]; rfl
/-- what a map tells when a row was put -/
theorem upd_put {b d : Int} {ms : List Rw} (h : GT b d ms) (r : Rw) : upd (lk ms) r.x0 r = lk (putL ms r) := by
  funext k
  rw [lk_put h.inc r k]
  rfl
theorem newR_lk {b d : Int} {ms : List Rw} (h : GT b d ms) (key val : Int) (gone : Bool) : newR ms key val gone = ⟨key, ((lk ms key).getD rw0).x1 + 1, val, gone⟩ := by
  unfold newR
  rw [lk_has h.inc key]
  by_cases hh : hasK ms key = true
  · rw [if_pos hh, if_pos hh]; rfl
  · rw [if_neg hh, if_neg hh]; rfl
theorem plB_lk {b d : Int} {ms : List Rw} (h : GT b d ms) (key : Int) : plB ms key = !(decide (((lk ms key).getD rw0).x1 = 1000000) || (!(lk ms key).isSome && decide (ms.length = 8))) := by
  unfold plB
  rw [lk_has h.inc key]
  by_cases hh : hasK ms key = true
  · rw [if_pos hh, if_pos hh]
    have hat := (of_decide_eq_true hh).1
    have hv := (rowB_true (h.row (ms.getD (atK ms key) rw0) (by rw [getD_at hat]; exact List.getElem_mem hat))).2.1
    simp only [Option.getD_some, Option.isSome_some]
    by_cases hx : (ms.getD (atK ms key) rw0).x1 = 1000000
    · rw [decide_eq_true hx, decide_eq_false (by omega)]; rfl
    · rw [decide_eq_false hx, decide_eq_true (by omega)]; rfl
  · rw [if_neg hh, if_neg hh]
    have h0 : rw0.x1 = 0 := rfl
    simp only [Option.getD_none, Option.isSome_none, h0]
    by_cases hx : ms.length = 8 <;> simp [hx]
theorem plB_room {b d : Int} {ms : List Rw} (h : GT b d ms) {r : Rw} (hp : plB ms r.x0 = true) : (putL ms r).length ≤ 8 := by
  rw [putL_len]
  unfold plB at hp
  have := h.len
  by_cases hh : hasK ms r.x0 = true
  · rw [if_pos hh]; omega
  · rw [if_neg hh] at hp ⊢
    have := of_decide_eq_true hp
    omega
theorem put_wf {b d : Int} {ms : List Rw} (h : GT b d ms) {r : Rw} (hr : Wf r.x0) : ∀ q ∈ putL ms r, Wf q.x0 := fun q hq => by
  rcases (putL_mem h.inc r q).1 hq with rfl | ⟨hq, _⟩
  · exact hr
  · exact h.wf q hq
/-- what is answered in memory of one's own -/
def TabOut (w : World) (L : List Rw) (ok : Bool) (e : Ending) (w' : World) : Prop := ∃ a n c, e = .returned (.tuple #[.slice a n c, .bool ok]) ∧ L.length = n ∧ OwnEs tyRw 37 w.heap.size w'.heap.size w' a n L ∧ Below w.heap.size w w'
theorem tabOut_no {w w' : World} {a : Option Addr} {c : Nat} (h : Below w.heap.size w w') : TabOut w [] false (.returned (.tuple #[.slice a 0 c, .bool false])) w' := ⟨a, 0, c, rfl, rfl, ownEs_nil _ _ _ _ _ _, h⟩
set_option maxRecDepth 100000 in
set_option maxHeartbeats 6400000 in
theorem PutRow_any (b d : Int) (a : Option Addr) (cap n : Nat) (ms : List Rw) (key val : Int) (w : World) (hk : Wf key) (hn : ms.length = n) (hm : n ≤ 1048576) (hr : LsAt tyRw w a ms) :
    Calls Try.prog 15 #[.agg #[.int .i64 b, .int .i64 d], .slice a n cap, .int .i64 key, .int .i64 val] w (TabOut w (ptL b d ms key val) (ptB b d ms key val)) := by
  have HR : Hid (LsAt tyRw w a ms) := hr
  have HNN : Hid (ms.length = n) := hn
  have HK : Hid (Wf key) := hk
  have K0 : Hid (Wire.Bk (w.alloc (.cells #[.int .i64 b, .int .i64 d] 25)) w.heap.size #[.int .i64 b, .int .i64 d] 25) := Wire.Bk.new _ _ _
  have CT := GoodTable_any b d a cap n ms _ hn (by unfold maxLen; omega) (hr.keep (belA w (.cells #[.int .i64 b, .int .i64 d] 25)))
  have CN := fun w1 => isNumber_any b d key w1
  have CI := fun w1 => isVal_any val w1
  have HP : Hid (ptB b d ms key val = (goodT b d ms && numB b d key && inB val 0 1000000 && plB ms key)) := rfl
  clear hr hk hn
  cases hg : goodT b d ms
  · have HV : Hid (ptB b d ms key val = false) := by unfold Hid; rw [HP.out, hg]; rfl
    rw [ptL_no HV.out, HV.out]
    rw [hg] at CT
    clear hg
    go_enter Try.func15, Try.ntmps15
    go_wp2_with fail
    refine CT.mono ?_
    rintro e w1 ⟨rfl, HW⟩
    clear CT
    go_wp2
    go_ret2
    exact tabOut_no (belt (belA _ _) HW)
  have HG : Hid (GT b d ms) := goodT_gt hg
  have hgT := hg
  rw [hg] at CT
  clear hg
  cases hnb : numB b d key
  · have HV : Hid (ptB b d ms key val = false) := by unfold Hid; rw [HP.out, hgT, hnb]; rfl
    rw [ptL_no HV.out, HV.out]
    rw [hnb] at CN
    clear hnb hgT
    go_enter Try.func15, Try.ntmps15
    go_wp2_with fail
    refine CT.mono ?_
    rintro e w1 ⟨rfl, HW⟩
    have B1 : Hid (Below w.heap.size w w1) := belt (belA _ _) HW
    have K1 := K0.out.keep HW
    obtain ⟨s0, s1⟩ := Wire.Bk.c2 K1
    have z1 := K1.lt
    clear CT HW
    go_wp2_with fail
    refine (CN _).mono ?_
    rintro e w2 ⟨rfl, HW⟩
    have B2 : Hid (Below w.heap.size w w2) := belt B1.out HW
    clear CN HW s0 s1
    go_wp2
    go_ret2
    exact tabOut_no B2.out
  have HNB : Hid (numB b d key = true) := hnb
  rw [hnb] at CN
  cases hvb : inB val 0 1000000
  · have HV : Hid (ptB b d ms key val = false) := by unfold Hid; rw [HP.out, hgT, hnb, hvb]; rfl
    rw [ptL_no HV.out, HV.out]
    rw [hvb] at CI
    clear hnb hgT hvb
    go_enter Try.func15, Try.ntmps15
    go_wp2_with fail
    refine CT.mono ?_
    rintro e w1 ⟨rfl, HW⟩
    have B1 : Hid (Below w.heap.size w w1) := belt (belA _ _) HW
    have K1 := K0.out.keep HW
    obtain ⟨s0, s1⟩ := Wire.Bk.c2 K1
    have z1 := K1.lt
    clear CT HW
    go_wp2_with fail
    refine (CN _).mono ?_
    rintro e w2 ⟨rfl, HW⟩
    have B2 : Hid (Below w.heap.size w w2) := belt B1.out HW
    clear CN HW s0 s1
    go_wp2_with fail
    refine (CI _).mono ?_
    rintro e w3 ⟨rfl, he⟩
    have he' := he.symm
    subst he'
    clear CI he
    go_wp2
    go_ret2
    exact tabOut_no B2.out
  rw [hvb] at CI
  have HPP : Hid (ptB b d ms key val = plB ms key) := by unfold Hid; rw [HP.out, hgT, hnb, hvb]; rfl
  have HPL := plB_lk HG.out key
  have hle8 := HG.out.len
  clear hnb hvb hgT HP
  obtain ⟨r, hre⟩ : ∃ r, r = (lk ms key).getD rw0 := ⟨_, rfl⟩
  obtain ⟨ok, hoe⟩ : ∃ r, r = (lk ms key).isSome := ⟨_, rfl⟩
  have HRE : Hid (r = (lk ms key).getD rw0) := hre
  have HOE : Hid (ok = (lk ms key).isSome) := hoe
  rw [← hre, ← hoe] at HPL
  have HPL : Hid (plB ms key = !(decide (r.x1 = 1000000) || (!ok && decide (ms.length = 8)))) := HPL
  have HVER : Hid (0 ≤ r.x1 ∧ r.x1 ≤ 1000000) := by
    unfold Hid
    rw [hre]
    cases e : lk ms key with
    | none => exact ⟨Int.le_refl _, by decide⟩
    | some q =>
      have := (rowB_true (HG.out.row q (lk_some e).1)).2.1
      simp only [Option.getD_some]
      omega
  clear hre hoe
  obtain ⟨y0, y1, y2, yb⟩ := r
  have HVER : Hid (0 ≤ y1 ∧ y1 ≤ 1000000) := HVER
  have HPL : Hid (plB ms key = !(decide (y1 = 1000000) || (!ok && decide (ms.length = 8)))) := HPL
  by_cases h1 : y1 = 1000000
  · have h1b : (y1 == 1000000) = true := by simpa using h1
    have HV : Hid (ptB b d ms key val = false) := by unfold Hid; rw [HPP.out, HPL.out]; rw [decide_eq_true h1]; rfl
    rw [ptL_no HV.out, HV.out]
    clear HPL HPP HVER h1
    go_enter Try.func15, Try.ntmps15
    go_wp2_with fail
    refine CT.mono ?_
    rintro e w1 ⟨rfl, HW⟩
    have B1 : Hid (Below w.heap.size w w1) := belt (belA _ _) HW
    have K1 := K0.out.keep HW
    obtain ⟨s0, s1⟩ := Wire.Bk.c2 K1
    have z1 := K1.lt
    clear CT HW
    go_wp2_with fail
    refine (CN _).mono ?_
    rintro e w2 ⟨rfl, HW⟩
    have B2 : Hid (Below w.heap.size w w2) := belt B1.out HW
    clear CN HW s0 s1 K1 z1
    go_wp2_with fail
    refine (CI _).mono ?_
    rintro e w3 ⟨rfl, he⟩
    have he' := he.symm
    subst he'
    clear CI he
    go_wp2_with fail
    refine (joined1 b d a cap n ms _ HNN.out HG.out (HR.out.keep B2.out)).mono ?_
    rintro e w4 ⟨rfl, hM, HW⟩
    have B4 : Hid (Below w.heap.size w w4) := belt B2.out HW
    have hlook := hM.lookOk HK.out
    have HMX : Hid (MapR w4 (w2.heap.size + 1) 32 (lk ms)) := hM
    rw [← HRE.out, ← HOE.out] at hlook
    simp only [rwA] at hlook
    have hlen := HMX.out.keep (belA w4 (.cells #[.int .i64 y0, .int .i64 y1, .int .i64 y2, .bool yb] 37)) |>.len HG.out.inc (fun _ _ => rfl) HG.out.wf 3
    rw [HNN.out] at hlen
    clear hM HW
    go_wp2
    go_ret2
    exact tabOut_no (belt B4.out (belA _ _))
  · have h1b : (y1 == 1000000) = false := by simpa using h1
    cases ok
    ·
      by_cases h8 : n = 8
      · have h8b : ((n : Int) == 8) = true := by simp [h8]
        have HV : Hid (ptB b d ms key val = false) := by unfold Hid; rw [HPP.out, HPL.out]; rw [HNN.out, decide_eq_true h8]; simp
        rw [ptL_no HV.out, HV.out]
        clear HPL HPP HVER h1 h8
        go_enter Try.func15, Try.ntmps15
        go_wp2_with fail
        refine CT.mono ?_
        rintro e w1 ⟨rfl, HW⟩
        have B1 : Hid (Below w.heap.size w w1) := belt (belA _ _) HW
        have K1 := K0.out.keep HW
        obtain ⟨s0, s1⟩ := Wire.Bk.c2 K1
        have z1 := K1.lt
        clear CT HW
        go_wp2_with fail
        refine (CN _).mono ?_
        rintro e w2 ⟨rfl, HW⟩
        have B2 : Hid (Below w.heap.size w w2) := belt B1.out HW
        clear CN HW s0 s1 K1 z1
        go_wp2_with fail
        refine (CI _).mono ?_
        rintro e w3 ⟨rfl, he⟩
        have he' := he.symm
        subst he'
        clear CI he
        go_wp2_with fail
        refine (joined1 b d a cap n ms _ HNN.out HG.out (HR.out.keep B2.out)).mono ?_
        rintro e w4 ⟨rfl, hM, HW⟩
        have B4 : Hid (Below w.heap.size w w4) := belt B2.out HW
        have hlook := hM.lookOk HK.out
        have HMX : Hid (MapR w4 (w2.heap.size + 1) 32 (lk ms)) := hM
        rw [← HRE.out, ← HOE.out] at hlook
        simp only [rwA] at hlook
        have hlen := HMX.out.keep (belA w4 (.cells #[.int .i64 y0, .int .i64 y1, .int .i64 y2, .bool yb] 37)) |>.len HG.out.inc (fun _ _ => rfl) HG.out.wf 3
        rw [HNN.out] at hlen
        clear hM HW
        go_wp2
        go_ret2
        exact tabOut_no (belt B4.out (belA _ _))
      · have h8b : ((n : Int) == 8) = false := by simp; omega
        have HV : Hid (ptB b d ms key val = true) := by unfold Hid; rw [HPP.out, HPL.out]; rw [HNN.out, decide_eq_false h8, decide_eq_false h1]; rfl
        have HPT : Hid (plB ms key = true) := by unfold Hid; rw [← HPP.out, HV.out]
        rw [ptL_yes HV.out, HV.out]
        have HNR : Hid (newR ms key val false = ⟨key, y1 + 1, val, false⟩) := by unfold Hid; rw [newR_lk HG.out, ← HRE.out]
        have hy1 : 0 ≤ y1 := HVER.out.1
        have hy2 : y1 ≤ 1000000 := HVER.out.2
        clear HPL HPP HVER h1 h8
        go_enter Try.func15, Try.ntmps15
        go_wp2_with fail
        refine CT.mono ?_
        rintro e w1 ⟨rfl, HW⟩
        have B1 : Hid (Below w.heap.size w w1) := belt (belA _ _) HW
        have K1 := K0.out.keep HW
        obtain ⟨s0, s1⟩ := Wire.Bk.c2 K1
        have z1 := K1.lt
        clear CT HW
        go_wp2_with fail
        refine (CN _).mono ?_
        rintro e w2 ⟨rfl, HW⟩
        have B2 : Hid (Below w.heap.size w w2) := belt B1.out HW
        clear CN HW s0 s1 K1 z1
        go_wp2_with fail
        refine (CI _).mono ?_
        rintro e w3 ⟨rfl, he⟩
        have he' := he.symm
        subst he'
        clear CI he
        go_wp2_with fail
        refine (joined1 b d a cap n ms _ HNN.out HG.out (HR.out.keep B2.out)).mono ?_
        rintro e w4 ⟨rfl, hM, HW⟩
        have B4 : Hid (Below w.heap.size w w4) := belt B2.out HW
        have hlook := hM.lookOk HK.out
        have HMX : Hid (MapR w4 (w2.heap.size + 1) 32 (lk ms)) := hM
        rw [← HRE.out, ← HOE.out] at hlook
        simp only [rwA] at hlook
        have hlen := HMX.out.keep (belA w4 (.cells #[.int .i64 y0, .int .i64 y1, .int .i64 y2, .bool yb] 37)) |>.len HG.out.inc (fun _ _ => rfl) HG.out.wf 3
        rw [HNN.out] at hlen
        clear hM HW
        have HMY : Hid (MapR (w4.alloc (.cells #[.int .i64 y0, .int .i64 y1, .int .i64 y2, .bool yb] 37)) (w2.heap.size + 1) 32 (lk ms)) := HMX.out.keep (belA _ _)
        go_wp2_with (first | (at_mapUpdate; refine wpList_store_R rfl _ _ _ rfl (w2.heap.size + 1) 32 (lk ms) rfl HMY.out (by unfold maxLen; omega) key ⟨key, y1 + 1, val, false⟩ rfl rfl HK.out ?_; intro w5 hM5 hg5 hs5) | fail)
        have HM5 : Hid (MapR w5 (w2.heap.size + 1) 33 (lk (putL ms (newR ms key val false)))) := by
          rw [HNR.out, ← upd_put HG.out]
          exact hM5
        have B5 : Hid (Below w.heap.size w w5) := (belt B4.out (belA w4 (.cells #[.int .i64 y0, .int .i64 y1, .int .i64 y2, .bool yb] 37))).grown hg5 (by have := B4.out.size; simp; omega) (fun k hk => by cases hk; have := B2.out.size; omega)
        have HS5 : Hid (w.heap.size ≤ w5.heap.size) := B5.out.size
        have CO := inOrder_any (w2.heap.size + 1) 33 (lk (putL ms (newR ms key val false))) (putL ms (newR ms key val false)) w5 (putL_inc HG.out.inc _) (fun _ _ => rfl) (put_wf HG.out HK.out) (by have := plB_room HG.out (r := newR ms key val false) HPT.out; omega) HM5.out
        clear hM5 hg5 hs5 HMY HMX hlook hlen HM5 HNR
        go_wp2_with fail
        refine CO.mono ?_
        rintro e w6 ⟨a6, c6, rfl, hO, HW⟩
        have HO6 : Hid (OwnEs tyRw 37 w.heap.size w6.heap.size w6 a6 (putL ms (newR ms key val false)).length (putL ms (newR ms key val false))) := hO.wide HS5.out (Nat.le_refl _)
        have B6 : Hid (Below w.heap.size w w6) := belt B5.out HW
        clear CO hO HW
        go_wp2
        go_ret2
        exact ⟨a6, _, c6, rfl, rfl, HO6.out, B6.out⟩
    ·
      have HV : Hid (ptB b d ms key val = true) := by unfold Hid; rw [HPP.out, HPL.out]; rw [decide_eq_false h1]; rfl
      have HPT : Hid (plB ms key = true) := by unfold Hid; rw [← HPP.out, HV.out]
      rw [ptL_yes HV.out, HV.out]
      have HNR : Hid (newR ms key val false = ⟨key, y1 + 1, val, false⟩) := by unfold Hid; rw [newR_lk HG.out, ← HRE.out]
      have hy1 : 0 ≤ y1 := HVER.out.1
      have hy2 : y1 ≤ 1000000 := HVER.out.2
      clear HPL HPP HVER h1
      go_enter Try.func15, Try.ntmps15
      go_wp2_with fail
      refine CT.mono ?_
      rintro e w1 ⟨rfl, HW⟩
      have B1 : Hid (Below w.heap.size w w1) := belt (belA _ _) HW
      have K1 := K0.out.keep HW
      obtain ⟨s0, s1⟩ := Wire.Bk.c2 K1
      have z1 := K1.lt
      clear CT HW
      go_wp2_with fail
      refine (CN _).mono ?_
      rintro e w2 ⟨rfl, HW⟩
      have B2 : Hid (Below w.heap.size w w2) := belt B1.out HW
      clear CN HW s0 s1 K1 z1
      go_wp2_with fail
      refine (CI _).mono ?_
      rintro e w3 ⟨rfl, he⟩
      have he' := he.symm
      subst he'
      clear CI he
      go_wp2_with fail
      refine (joined1 b d a cap n ms _ HNN.out HG.out (HR.out.keep B2.out)).mono ?_
      rintro e w4 ⟨rfl, hM, HW⟩
      have B4 : Hid (Below w.heap.size w w4) := belt B2.out HW
      have hlook := hM.lookOk HK.out
      have HMX : Hid (MapR w4 (w2.heap.size + 1) 32 (lk ms)) := hM
      rw [← HRE.out, ← HOE.out] at hlook
      simp only [rwA] at hlook
      have hlen := HMX.out.keep (belA w4 (.cells #[.int .i64 y0, .int .i64 y1, .int .i64 y2, .bool yb] 37)) |>.len HG.out.inc (fun _ _ => rfl) HG.out.wf 3
      rw [HNN.out] at hlen
      clear hM HW
      have HMY : Hid (MapR (w4.alloc (.cells #[.int .i64 y0, .int .i64 y1, .int .i64 y2, .bool yb] 37)) (w2.heap.size + 1) 32 (lk ms)) := HMX.out.keep (belA _ _)
      go_wp2_with (first | (at_mapUpdate; refine wpList_store_R rfl _ _ _ rfl (w2.heap.size + 1) 32 (lk ms) rfl HMY.out (by unfold maxLen; omega) key ⟨key, y1 + 1, val, false⟩ rfl rfl HK.out ?_; intro w5 hM5 hg5 hs5) | fail)
      have HM5 : Hid (MapR w5 (w2.heap.size + 1) 33 (lk (putL ms (newR ms key val false)))) := by
        rw [HNR.out, ← upd_put HG.out]
        exact hM5
      have B5 : Hid (Below w.heap.size w w5) := (belt B4.out (belA w4 (.cells #[.int .i64 y0, .int .i64 y1, .int .i64 y2, .bool yb] 37))).grown hg5 (by have := B4.out.size; simp; omega) (fun k hk => by cases hk; have := B2.out.size; omega)
      have HS5 : Hid (w.heap.size ≤ w5.heap.size) := B5.out.size
      have CO := inOrder_any (w2.heap.size + 1) 33 (lk (putL ms (newR ms key val false))) (putL ms (newR ms key val false)) w5 (putL_inc HG.out.inc _) (fun _ _ => rfl) (put_wf HG.out HK.out) (by have := plB_room HG.out (r := newR ms key val false) HPT.out; omega) HM5.out
      clear hM5 hg5 hs5 HMY HMX hlook hlen HM5 HNR
      go_wp2_with fail
      refine CO.mono ?_
      rintro e w6 ⟨a6, c6, rfl, hO, HW⟩
      have HO6 : Hid (OwnEs tyRw 37 w.heap.size w6.heap.size w6 a6 (putL ms (newR ms key val false)).length (putL ms (newR ms key val false))) := hO.wide HS5.out (Nat.le_refl _)
      have B6 : Hid (Below w.heap.size w w6) := belt B5.out HW
      clear CO hO HW
      go_wp2
      go_ret2
      exact ⟨a6, _, c6, rfl, rfl, HO6.out, B6.out⟩
set_option maxRecDepth 100000 in
set_option maxHeartbeats 6400000 in
theorem DropRow_any (b d : Int) (a : Option Addr) (cap n : Nat) (ms : List Rw) (key : Int) (w : World) (hk : Wf key) (hn : ms.length = n) (hm : n ≤ 1048576) (hr : LsAt tyRw w a ms) :
    Calls Try.prog 21 #[.agg #[.int .i64 b, .int .i64 d], .slice a n cap, .int .i64 key] w (TabOut w (dpL b d ms key) (dpB b d ms key)) := by
  have HR : Hid (LsAt tyRw w a ms) := hr
  have HNN : Hid (ms.length = n) := hn
  have HK : Hid (Wf key) := hk
  have CR := RowFor_any b d a cap n ms key _ hk hn hm (hr.keep (belA w (.cells #[.int .i64 b, .int .i64 d] 25)))
  have HP : Hid (dpB b d ms key = (rfB b d ms key && !(rfV b d ms key).b && plB ms key)) := rfl
  clear hr hk hn
  cases hok : rfB b d ms key
  · have HV : Hid (dpB b d ms key = false) := by unfold Hid; rw [HP.out, hok]; rfl
    rw [dpL_no HV.out, HV.out]
    rw [hok] at CR
    generalize rfV b d ms key = r at CR
    obtain ⟨y0, y1, y2, yb⟩ := r
    simp only [rwA] at CR
    clear hok HP
    go_enter Try.func21, Try.ntmps21
    go_wp2_with fail
    refine CR.mono ?_
    rintro e w1 ⟨rfl, HW⟩
    clear CR
    go_wp2
    go_ret2
    exact tabOut_no (belt (belt (belA _ _) HW) (belA _ _))
  have hgT : goodT b d ms = true := by unfold rfB at hok; rw [Bool.and_eq_true] at hok; exact hok.1
  have HG : Hid (GT b d ms) := goodT_gt hgT
  have hPL := plB_lk HG.out key
  have hE := rfB_lk HG.out key
  rw [hok] at CR HP
  have HOK : Hid ((lk ms key).isSome = true) := by unfold Hid; rw [hE.1, hok]
  rw [hE.1, hok, hE.2] at hPL
  obtain ⟨r, hre⟩ : ∃ r, r = rfV b d ms key := ⟨_, rfl⟩
  have HRE : Hid (r = (lk ms key).getD rw0) := by unfold Hid; rw [hE.2]; exact hre
  rw [← hre] at hPL CR HP
  have HVER : Hid (0 ≤ r.x1 ∧ r.x1 ≤ 1000000) := by
    unfold Hid
    rw [HRE.out]
    cases e : lk ms key with
    | none => exact ⟨Int.le_refl _, by decide⟩
    | some q =>
      have := (rowB_true (HG.out.row q (lk_some e).1)).2.1
      simp only [Option.getD_some]
      omega
  clear hre hE hgT hok
  obtain ⟨y0, y1, y2, yb⟩ := r
  simp only [rwA] at CR
  have HVER : Hid (0 ≤ y1 ∧ y1 ≤ 1000000) := HVER
  have HPL : Hid (plB ms key = !decide (y1 = 1000000)) := by unfold Hid; rw [hPL]; simp
  clear hPL
  have HP2 : Hid (dpB b d ms key = (!yb && plB ms key)) := HP
  clear HP
  cases yb
  case true =>
    have HV : Hid (dpB b d ms key = false) := by unfold Hid; rw [HP2.out]; rfl
    rw [dpL_no HV.out, HV.out]
    clear HP2 HPL HVER HRE
    go_enter Try.func21, Try.ntmps21
    go_wp2_with fail
    refine CR.mono ?_
    rintro e w1 ⟨rfl, HW⟩
    clear CR
    go_wp2
    go_ret2
    exact tabOut_no (belt (belt (belA _ _) HW) (belA _ _))
  by_cases h1 : y1 = 1000000
  · have h1b : (y1 == 1000000) = true := by simpa using h1
    have HV : Hid (dpB b d ms key = false) := by unfold Hid; rw [HP2.out, HPL.out, decide_eq_true h1]; rfl
    rw [dpL_no HV.out, HV.out]
    clear HP2 HPL HVER HRE h1
    go_enter Try.func21, Try.ntmps21
    go_wp2_with fail
    refine CR.mono ?_
    rintro e w1 ⟨rfl, HW⟩
    clear CR
    go_wp2
    go_ret2
    exact tabOut_no (belt (belt (belA _ _) HW) (belA _ _))
  · have h1b : (y1 == 1000000) = false := by simpa using h1
    have HPT : Hid (plB ms key = true) := by unfold Hid; rw [HPL.out, decide_eq_false h1]; rfl
    have HV : Hid (dpB b d ms key = true) := by unfold Hid; rw [HP2.out, HPT.out]; rfl
    rw [dpL_yes HV.out, HV.out]
    have HNR : Hid (newR ms key 0 true = ⟨key, y1 + 1, 0, true⟩) := by unfold Hid; rw [newR_lk HG.out, ← HRE.out]
    have hy1 : 0 ≤ y1 := HVER.out.1
    have hy2 : y1 ≤ 1000000 := HVER.out.2
    clear HP2 HPL HVER HRE h1
    go_enter Try.func21, Try.ntmps21
    go_wp2_with fail
    refine CR.mono ?_
    rintro e w1 ⟨rfl, HW⟩
    have HKR : Hid (Wire.Bk (w1.alloc (.cells #[.int .i64 y0, .int .i64 y1, .int .i64 y2, .bool false] 37)) w1.heap.size #[.int .i64 y0, .int .i64 y1, .int .i64 y2, .bool false] 37) := Wire.Bk.new _ _ _
    have B1 : Hid (Below w.heap.size w (w1.alloc (.cells #[.int .i64 y0, .int .i64 y1, .int .i64 y2, .bool false] 37))) := belt (belt (belA _ _) HW) (belA _ _)
    have JC := joined1 b d a cap n ms (w1.alloc (.cells #[.int .i64 y0, .int .i64 y1, .int .i64 y2, .bool false] 37)) HNN.out HG.out (HR.out.keep B1.out)
    simp only [World.size_alloc] at JC
    clear CR HW
    go_wp2_with fail
    refine JC.mono ?_
    rintro e w4 ⟨rfl, hM, HW⟩
    have HMX : Hid (MapR w4 (w1.heap.size + 1 + 1) 32 (lk ms)) := hM
    have HW' : Below (w1.alloc (.cells #[.int .i64 y0, .int .i64 y1, .int .i64 y2, .bool false] 37)).heap.size (w1.alloc (.cells #[.int .i64 y0, .int .i64 y1, .int .i64 y2, .bool false] 37)) w4 := by simpa using HW
    have B4 : Hid (Below w.heap.size w w4) := belt B1.out HW'
    have HZ1 : Hid (w.heap.size ≤ w1.heap.size + 1) := by unfold Hid; have := B1.out.size; simpa using this
    obtain ⟨r0, r1, r2, r3⟩ := Wire.Bk.c4 (HKR.out.keep HW')
    clear hM HW HW' JC HKR
    go_wp2_with (first | (at_mapUpdate; refine wpList_store_R rfl _ _ _ rfl (w1.heap.size + 1 + 1) 32 (lk ms) rfl HMX.out (by unfold maxLen; omega) key ⟨key, y1 + 1, 0, true⟩ rfl rfl HK.out ?_; intro w5 hM5 hg5 hs5) | fail)
    have HM5 : Hid (MapR w5 (w1.heap.size + 1 + 1) 33 (lk (putL ms (newR ms key 0 true)))) := by
      rw [HNR.out, ← upd_put HG.out]
      exact hM5
    have B5 : Hid (Below w.heap.size w w5) := B4.out.grown hg5 B4.out.size (fun k hk => by cases hk; have := HZ1.out; omega)
    have HS5 : Hid (w.heap.size ≤ w5.heap.size) := B5.out.size
    have CO := inOrder_any (w1.heap.size + 1 + 1) 33 (lk (putL ms (newR ms key 0 true))) (putL ms (newR ms key 0 true)) w5 (putL_inc HG.out.inc _) (fun _ _ => rfl) (put_wf HG.out HK.out) (by have := plB_room HG.out (r := newR ms key 0 true) HPT.out; omega) HM5.out
    clear hM5 hg5 hs5 HMX HM5 HNR r0 r1 r2 r3
    go_wp2_with fail
    refine CO.mono ?_
    rintro e w6 ⟨a6, c6, rfl, hO, HW⟩
    have HO6 : Hid (OwnEs tyRw 37 w.heap.size w6.heap.size w6 a6 (putL ms (newR ms key 0 true)).length (putL ms (newR ms key 0 true))) := hO.wide HS5.out (Nat.le_refl _)
    have B6 : Hid (Below w.heap.size w w6) := belt B5.out HW
    clear CO hO HW
    go_wp2
    go_ret2
    exact ⟨a6, _, c6, rfl, rfl, HO6.out, B6.out⟩
end Go.Proofs.Ytpgngfdhnoonjaa.Tb
