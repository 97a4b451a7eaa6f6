/- For all bytes: the frames that are drawn are split as the specification splits them, laid together again they are the text, and a frame laid behind them comes last: no condition. -/
import Derived.Test.YtabbicfakkehpaaFr2
import Derived.Test.YtabbicfakkehpaaLw0
import Derived.Test.YtabbicfakkehpaaK0
namespace Go.Proofs.Ytabbicfakkehpaa
open Go.ChangeShapes Go.WideShapes Go.ChangeAt Go.RowKit Go.Deep
set_option linter.unusedVariables false
set_option linter.unusedSimpArgs false
theorem owt_txt {B : Nat} {w : World} {a : Option Addr} {n c : Nat} {L : List ByteArray} (h : OwT B w (.slice a n c) L) : TxtAt w a L := by
  obtain ⟨a', c', e, ht⟩ := h.form
  simp at e
  rw [e.1]
  exact ht
theorem ba_ne {s : ByteArray} (h : 0 < s.size) : s.toList.isEmpty = false := by
  rw [ByteArray.toList_eq]
  have := tb_len s
  cases e : s.data.toList with
  | nil => rw [e] at this; simp at this; omega
  | cons x l => rfl
set_option maxHeartbeats 800000 in
theorem sameTexts_own (a a' : Option Addr) (cap cap' n : Nat) (L : List ByteArray) (w : World) (hn : L.length = n) (hm : n ≤ 1048576) (hx : TxtAt w a L) (hy : TxtAt w a' L) :
    Calls Try.prog 13 #[.slice a n cap, .slice a' n cap'] w fun e w' => e = .returned (.bool true) ∧ Below w.heap.size w w' := by
  subst hn
  have HX : Hid (TxtAt w a L) := hx
  have HY : Hid (TxtAt w a' L) := hy
  clear hx hy
  go_enter Try.func13, Try.ntmps13
  go_wp2_with fail
  go_loopw [13] (fun vi wr => ∃ k : Nat, k ≤ L.length ∧ vi = .int .i64 k ∧ ∃ n, wr = w.drewN n) (fun vi _ => L.length - (intOf vi).toNat)
  case atStart => exact ⟨0, Nat.zero_le _, rfl, 0, rfl⟩
  case round =>
    obtain ⟨k, hk, rfl, n, rfl⟩ := hrel
    by_cases hlt : k < L.length
    · obtain ⟨bk, off, rfl, _, hc⟩ := txt_form HX.out (by omega)
      obtain ⟨bk2, off2, rfl, _, hd⟩ := txt_form HY.out (by omega)
      have hc1 := hc k hlt
      have hc2 := hd k hlt
      clear hc hd
      generalize L.getD k e0 = x at hc1 hc2
      have hsame := bytes_same x
      go_wp2
      go_quiet (fail)
      go_wp2
      go_roundw
      case rel => exact ⟨k + 1, by omega, by go_num, _, rfl⟩
      case measure => simp [intOf]; omega
    · go_wp2
      go_ret
      exact ⟨rfl, below_drewN (Below.refl _ _) _⟩
set_option maxRecDepth 100000 in
set_option maxHeartbeats 12800000 in
theorem wFnFrames (a a' : Option Addr) (cap cap' : Nat) (zs ys : List Int) (w : World) (hm : zs.length ≤ maxLen) (hm' : ys.length ≤ maxLen) (hr : RowB w a zs) (hr' : RowB w a' ys) :
    Calls Try.prog 3 #[.slice a zs.length cap, .slice a' ys.length cap'] w fun e w' => e = .returned (.bool true) ∧ Below w.heap.size w w' := by
  have HR0 : Hid (RowB w a zs) := hr
  have HR1 : Hid (RowB w a' ys) := hr'
  clear hr hr'
  cases hbg : bigB zs.length ys.length
  case true =>
    have HG : Hid (bigB zs.length ys.length = true) := hbg
    clear hbg
    go_enter Try.func3, Try.ntmps3
    go_wp2_with (go_at_call 9; refine (big_any _ _ _ _ _ _ _ hm hm').mono ?_; rintro e w1 ⟨rfl, rfl⟩; rw [HG.out])
    go_ret
    exact ⟨rfl, Below.refl _ _⟩
  have HG : Hid (bigB zs.length ys.length = false) := hbg
  obtain ⟨hz1, hz2⟩ := bigB_false hbg
  clear hbg
  go_enter Try.func3, Try.ntmps3
  have BEL_0 : Hid (Below w.heap.size w w) := Below.refl _ _
  go_wp2_with fail
  refine (big_any _ _ _ _ _ _ _ hm hm').mono ?_
  rintro e vx ⟨rfl, hx⟩
  have hx' := hx.symm
  clear hx
  subst hx'
  rw [HG.out]
  go_wp2_with fail
  refine (drawSplit_any a cap zs _ hz1 HR0.out).mono ?_
  rintro e w1 ⟨s, rfl, hsz, HW⟩
  have BEL_1 : Hid (Below w.heap.size w w1) := belt BEL_0.out (HW)
  clear BEL_0
  clear HW
  have hk : Hid (sfOk s = true) := decide_eq_true hsz
  have HL : Hid (sfL s = splF s.size s) := by unfold Hid sfL; rw [hk.out]; rfl
  have HRR : Hid (sfR s = splR s.size s) := by unfold Hid sfR; rw [hk.out]; rfl
  obtain ⟨LS, hLS⟩ : ∃ z, Hid (splF s.size s = z) := ⟨_, rfl⟩
  obtain ⟨RS, hRS⟩ : ∃ z, Hid (splR s.size s = z) := ⟨_, rfl⟩
  have hrs := bytes_same RS
  go_wp2_with fail
  refine (SplitFrames_any s _ (by omega)).mono ?_
  rintro e w2 ⟨vg, rfl, Og, hng, HW⟩
  rw [HRR.out, hRS.out, hk.out]
  rw [HL.out, hLS.out] at Og hng
  have BEL_2 : Hid (Below w.heap.size w w2) := belt BEL_1.out (HW)
  clear BEL_1
  clear HW
  have Wg_2 : Hid (OwT w1.heap.size w2 vg LS) := Og
  clear Og
  obtain ⟨ag, cg, evg, _⟩ := Wg_2.out.form
  subst evg
  go_wp2_with fail
  refine (lSplitFrames_any s _ (by omega)).mono ?_
  rintro e w3 ⟨vw, rfl, Ow, hnw, HW⟩
  rw [HRR.out, hRS.out, hk.out]
  rw [HL.out, hLS.out] at Ow hnw
  have BEL_3 : Hid (Below w.heap.size w w3) := belt BEL_2.out (HW)
  have Wg_3 : Hid (OwT w1.heap.size w3 (.slice ag LS.length cg) LS) := Wg_2.out.keep (HW)
  clear BEL_2 Wg_2
  clear HW
  have Ww_3 : Hid (OwT w2.heap.size w3 vw LS) := Ow
  clear Ow
  obtain ⟨aw, cw, evw, _⟩ := Ww_3.out.form
  subst evw
  go_wp2_with fail
  refine (sameTexts_own ag aw cg cw LS.length LS _ rfl (by omega) (owt_txt Wg_3.out) (owt_txt Ww_3.out)).mono ?_
  rintro e w4 ⟨rfl, HW⟩
  have BEL_4 : Hid (Below w.heap.size w w4) := belt BEL_3.out (HW)
  have Wg_4 : Hid (OwT w1.heap.size w4 (.slice ag LS.length cg) LS) := Wg_3.out.keep (HW)
  clear BEL_3 Wg_3 Ww_3
  clear HW
  go_wp2_with fail
  have HOK : Hid (∀ f ∈ LS, 0 < f.size ∧ f.size = fb f) := by rw [← hLS.out]; exact frames_ok _ _
  have HCA : Hid (LS.foldl (· ++ ·) ⟨#[]⟩ ++ RS = s) := by
    unfold Hid
    rw [← hLS.out, ← hRS.out, frames_cat]
    exact ba_ext (by rw [tb_app]; rfl)
  go_loopw [12, 56] (fun vs vi wr => ∃ (i : Nat) (t : ByteArray), i ≤ LS.length ∧ vs = .string t ∧ vi = .int .i64 i ∧ Hid ((LS.take i).foldl (· ++ ·) ⟨#[]⟩ = t) ∧ t.size ≤ 256 * i ∧ Hid (Below w4.heap.size w4 wr)) (fun _ vi _ => LS.length - (intOf vi).toNat)
  case atStart => exact ⟨0, ⟨#[]⟩, Nat.zero_le _, rfl, rfl, rfl, by simp [ByteArray.size], Below.refl _ _⟩
  case round =>
    obtain ⟨i, t, hi, rfl, rfl, ht, htz, bb⟩ := hrel
    by_cases hlt : i < LS.length
    · obtain ⟨bk, off, hform, _, hcs⟩ := txt_form (owt_txt (Wg_4.out.keep bb.out)) (by omega)
      subst hform
      have hc1 := hcs i hlt
      have hmem : LS.getD i e0 ∈ LS := by rw [List.getD_eq_getElem?_getD, List.getElem?_eq_getElem hlt]; simp
      obtain ⟨f1, f2⟩ := HOK.out _ hmem
      have ht2 : Hid ((LS.take (i + 1)).foldl (· ++ ·) ⟨#[]⟩ = t ++ LS.getD i e0) := by
        unfold Hid
        rw [List.take_succ_eq_append_getElem hlt, List.foldl_append, ht.out, List.getD_eq_getElem?_getD, List.getElem?_eq_getElem hlt]
        rfl
      clear hcs hmem
      generalize LS.getD i e0 = f at *
      have f3 := fb_bd f
      have f4 : (f.size : Int) = 1 + (f[0].toNat : Int) := by rw [f2, fb_eq f1]; simp
      have f5 : ((f.size : Int) != 1 + (f[0].toNat : Int)) = false := by rw [f4]; simp
      have f6 : ((f.size : Int) == 0) = false := beq_eq_false_iff_ne.2 (by omega)
      have f8 : f.size ≤ 256 := by omega
      have f7 := UInt8.toNat_lt f[0]
      have hlim : ¬ 9223372036854775807 < t.size + f.size := by omega
      clear f4 f2
      go_wp2
      go_roundw
      case rel => exact ⟨i + 1, t ++ f, by omega, rfl, by go_num, ht2, by rw [ByteArray.size_append]; omega, bb⟩
      case measure => simp [intOf]; omega
    · have hil : LS.length ≤ i := by omega
      have hA : t ++ RS = s := by
        have h := ht.out
        rw [List.take_of_length_le hil] at h
        rw [← h]
        exact HCA.out
      clear ht HCA
      have hno : whB RS = false := by rw [← hRS.out]; exact rest_no _ _ (Nat.le_refl _)
      have hno2 : ¬ (0 < RS.size ∧ fb RS ≤ RS.size) := of_decide_eq_false hno
      have HNE : Hid (splR s.size s = RS) := hRS.out
      have hss := bytes_same s
      have hlim : ¬ 9223372036854775807 < t.size + RS.size := by have h := congrArg ByteArray.size hA; rw [ByteArray.size_append] at h; omega
      by_cases hr0 : 0 < RS.size
      · have hr1 : ¬ 1 + (RS[0].toNat : Int) ≤ RS.size := by have := fb_eq hr0; omega
        have hr2 := UInt8.toNat_lt RS[0]
        have hre : RS.toList.isEmpty = false := ba_ne hr0
        clear hno hno2
        have BEL_20 : Hid (Below w.heap.size w wr) := belt BEL_4.out bb.out
        have Wg_20 : Hid (OwT w1.heap.size wr (.slice ag LS.length cg) LS) := Wg_4.out.keep bb.out
        go_wp2_with fail
        refine (drawMsg_any a' cap' ys _ hz2 (HR1.out.keep BEL_20.out)).mono ?_
        rintro e w21 ⟨b, d, m0, m1, m2, m3, m4, m5, m6, m7, va, vc, ML, rfl, hmr, hml, HW⟩
        have BEL_21 : Hid (Below w.heap.size w w21) := belt BEL_20.out (HW)
        have Wg_21 : Hid (OwT w1.heap.size w21 (.slice ag LS.length cg) LS) := Wg_20.out.keep (HW)
        clear BEL_20 Wg_20
        have R_21 : Hid (RowAt w21 va ML) := hmr
        clear HW
        clear hmr
        go_wp2_with fail
        obtain ⟨F, hF⟩ : ∃ z, Hid (mbS b d m0 m1 m2 m3 m4 m5 m6 m7 ML = z) := ⟨_, rfl⟩
        obtain ⟨one, hone⟩ : ∃ z, Hid (gmB b d m0 m1 m2 m3 m4 m5 m6 m7 ML = z) := ⟨_, rfl⟩
        have hFz : F.size ≤ 61 := by rw [← hF.out]; exact mbS_size _ _ _ _ _ _ _ _ _ _ _
        have hb2 : Below w21.heap.size w21 ((w21.alloc (.cells #[.int .i64 b, .int .i64 d] 30)).alloc (.cells #[.int .i64 m0, .int .i64 m1, .int .i64 m2, .int .i64 m3, .int .i64 m4, .int .i64 m5, .int .i64 m6, .int .i64 m7, .slice va ML.length vc] 33)) := ((Below.refl _ _).alloc (Nat.le_refl _) _).alloc (by simp) _
        refine (MsgBytes_any b d m0 m1 m2 m3 m4 m5 m6 m7 va vc _ ML _ rfl (by omega) (R_21.out.keep hb2)).mono ?_
        rintro e w22 ⟨rfl, HW0⟩
        rw [hF.out, hone.out]
        have HW : Below w21.heap.size w21 w22 := hb2.trans (HW0.mono hb2.size)
        clear hb2 HW0
        have BEL_22 : Hid (Below w.heap.size w w22) := belt BEL_21.out (HW)
        have Wg_22 : Hid (OwT w1.heap.size w22 (.slice ag LS.length cg) LS) := Wg_21.out.keep (HW)
        clear BEL_21 Wg_21 R_21
        clear HW
        cases one
        · go_wp2
          go_ret
          exact ⟨rfl, BEL_22.out⟩
        by_cases hle : s.size + F.size ≤ 1000
        case neg =>
          have hle2 : ¬ (s.size : Int) + F.size ≤ 1000 := by omega
          go_wp2
          go_ret
          exact ⟨rfl, BEL_22.out⟩
        have hle2 : (s.size : Int) + F.size ≤ 1000 := by omega
        go_wp2
        go_ret
        exact ⟨rfl, BEL_22.out⟩
      · have hre0 : RS = ⟨#[]⟩ := ba_empty (by omega)
        subst hre0
        clear hno hno2 hr0
        have BEL_20 : Hid (Below w.heap.size w wr) := belt BEL_4.out bb.out
        have Wg_20 : Hid (OwT w1.heap.size wr (.slice ag LS.length cg) LS) := Wg_4.out.keep bb.out
        go_wp2_with fail
        refine (drawMsg_any a' cap' ys _ hz2 (HR1.out.keep BEL_20.out)).mono ?_
        rintro e w21 ⟨b, d, m0, m1, m2, m3, m4, m5, m6, m7, va, vc, ML, rfl, hmr, hml, HW⟩
        have BEL_21 : Hid (Below w.heap.size w w21) := belt BEL_20.out (HW)
        have Wg_21 : Hid (OwT w1.heap.size w21 (.slice ag LS.length cg) LS) := Wg_20.out.keep (HW)
        clear BEL_20 Wg_20
        have R_21 : Hid (RowAt w21 va ML) := hmr
        clear HW
        clear hmr
        go_wp2_with fail
        obtain ⟨F, hF⟩ : ∃ z, Hid (mbS b d m0 m1 m2 m3 m4 m5 m6 m7 ML = z) := ⟨_, rfl⟩
        obtain ⟨one, hone⟩ : ∃ z, Hid (gmB b d m0 m1 m2 m3 m4 m5 m6 m7 ML = z) := ⟨_, rfl⟩
        have hFz : F.size ≤ 61 := by rw [← hF.out]; exact mbS_size _ _ _ _ _ _ _ _ _ _ _
        have hb2 : Below w21.heap.size w21 ((w21.alloc (.cells #[.int .i64 b, .int .i64 d] 30)).alloc (.cells #[.int .i64 m0, .int .i64 m1, .int .i64 m2, .int .i64 m3, .int .i64 m4, .int .i64 m5, .int .i64 m6, .int .i64 m7, .slice va ML.length vc] 33)) := ((Below.refl _ _).alloc (Nat.le_refl _) _).alloc (by simp) _
        refine (MsgBytes_any b d m0 m1 m2 m3 m4 m5 m6 m7 va vc _ ML _ rfl (by omega) (R_21.out.keep hb2)).mono ?_
        rintro e w22 ⟨rfl, HW0⟩
        rw [hF.out, hone.out]
        have HW : Below w21.heap.size w21 w22 := hb2.trans (HW0.mono hb2.size)
        clear hb2 HW0
        have BEL_22 : Hid (Below w.heap.size w w22) := belt BEL_21.out (HW)
        have Wg_22 : Hid (OwT w1.heap.size w22 (.slice ag LS.length cg) LS) := Wg_21.out.keep (HW)
        clear BEL_21 Wg_21 R_21
        clear HW
        cases one
        · go_wp2
          go_ret
          exact ⟨rfl, BEL_22.out⟩
        by_cases hle : s.size + F.size ≤ 1000
        case neg =>
          have hle2 : ¬ (s.size : Int) + F.size ≤ 1000 := by omega
          go_wp2
          go_ret
          exact ⟨rfl, BEL_22.out⟩
        have hle2 : (s.size : Int) + F.size ≤ 1000 := by omega
        have hlim2 : ¬ 9223372036854775807 < s.size + F.size := by omega
        have hszF : (s ++ F).size = s.size + F.size := ByteArray.size_append
        obtain ⟨g1, g2⟩ : 0 < F.size ∧ fb F = F.size := by rw [← hF.out]; exact mbS_frame hone.out
        obtain ⟨k1, k2⟩ := frames_app s.size (s ++ F).size s F (Nat.le_refl _) (Nat.le_refl _) HNE.out g1 g2
        rw [hLS.out] at k1
        have hk2 : Hid (sfOk (s ++ F) = true) := decide_eq_true (by omega)
        have HL2 : Hid (sfL (s ++ F) = LS ++ [F]) := by unfold Hid sfL; rw [hk2.out]; exact k1
        have HR2 : Hid (sfR (s ++ F) = ⟨#[]⟩) := by unfold Hid sfR; rw [hk2.out]; exact k2
        clear k1 k2
        go_wp2_with fail
        refine (SplitFrames_any (s ++ F) _ (by omega)).mono ?_
        rintro e w23 ⟨vx, rfl, Ox, hnx, HW⟩
        rw [HR2.out, hk2.out]
        rw [HL2.out] at Ox hnx
        have BEL_23 : Hid (Below w.heap.size w w23) := belt BEL_22.out (HW)
        clear BEL_22 Wg_22
        clear HW
        obtain ⟨ax, cx, evx, tx⟩ := Ox.form
        subst evx
        obtain ⟨bx, ox, hax, _, hcx⟩ := txt_form tx (by simp)
        subst hax
        have hcl := hcx LS.length (by simp)
        have hgl : (LS ++ [F]).getD LS.length e0 = F := by rw [List.getD_eq_getElem?_getD]; simp
        rw [hgl] at hcl
        have hln : (LS ++ [F]).length = LS.length + 1 := by simp
        rw [hln]
        have hFF := bytes_same F
        clear hcx tx Ox hgl hln
        go_wp2
        skip
        exact bodyPost_ret (v := .bool true) (by simp [results, Try.results3, go_sem]) rfl ⟨rfl, BEL_23.out⟩

set_option maxRecDepth 100000 in
theorem fnFrames_lifted (os : Os) (started : os.Started) (H : Type) (enc : TypeId × Value → H) :
    ReturnsInHanded {} Try.checked os 3 .any (Rows.fnFramesSpec.pre6 enc Try.prog Try.f3 Rows.fnFramesRow.domain false) (Rows.fnFramesSpec.post enc Try.prog Try.f3 false true false false) := by
  refine returnsInHanded_of_change (C := Try.checked) own started (by kernel_rfl) Try.func3
    (ChangeSpec.witness6 (enc := enc) (C := Try.checked) false ⟨#[], #[.slice none 0 0, .slice none 0 0], []⟩ 8 (by kernel_rfl) (by kernel_rfl) (by kernel_rfl) (by kernel_rfl)) ?_
  intro W base args ds gs before hval0 hW hcnd _
  have hval : ∀ (j : Nat) t v, Try.f3.params[j]? = some t → args[j]? = some v → Value.okWide Try.prog W .any base t v := hval0
  have hW' := hW
  obtain ⟨p, q, hA0, hV, rfl, hfz, hnd⟩ := hW
  have hA : DataW.TrodAll enc Try.prog W 0 (fun _ => true) true Try.f3.params.toList args.toList ds p := hA0
  rw [Try.params3] at hA hval
  obtain ⟨v0, vs0, d0, ds0, p0, q0, hargs, rfl, rfl, h0, r0⟩ := trodAll_cons hA
  obtain ⟨v1, vs1, d1, ds1, p1, q1, rfl, rfl, rfl, h1, r1⟩ := trodAll_cons r0
  obtain ⟨rfl, rfl, rfl⟩ := trodAll_nil r1
  obtain rfl : args = #[v0, v1] := by cases args; simp_all
  obtain ⟨rfl, rfl⟩ := trodVars_none hV
  obtain ⟨a0, len0, cap0, rfl⟩ := okWide_slice Try.underlying22 (hval 0 22 v0 rfl rfl)
  have k0 := h0
  have lt0 : ∀ x ∈ p0, x.block < W.heap.size := by obtain ⟨m, hm⟩ := k0; exact DataW.trod_lt m _ _ _ hm
  obtain ⟨z0, w0⟩ : ∃ zs, IsRowU W a0 len0 cap0 zs := by
    obtain ⟨fuel, hf⟩ := h0
    rcases open_ints Try.underlying22 Try.underlying5 (by kernel_rfl) hf with ⟨hcs, _⟩ | ⟨x, l, c, zs, hcs, _, hl, hm, hz, _, hcell, hwz⟩
    · simp [Value.cells] at hcs
      obtain ⟨rfl, rfl, rfl⟩ := hcs
      exact ⟨[], .inl ⟨rfl, rfl, rfl, rfl⟩⟩
    · simp [Value.cells] at hcs
      obtain ⟨rfl, rfl, rfl⟩ := hcs
      exact ⟨zs, .inr ⟨_, rfl, hl, hm, by simpa using hz, hcell, hwz⟩⟩
  obtain ⟨a1, len1, cap1, rfl⟩ := okWide_slice Try.underlying22 (hval 1 22 v1 rfl rfl)
  have k1 := h1
  have lt1 : ∀ x ∈ p1, x.block < W.heap.size := by obtain ⟨m, hm⟩ := k1; exact DataW.trod_lt m _ _ _ hm
  obtain ⟨z1, w1⟩ : ∃ zs, IsRowU W a1 len1 cap1 zs := by
    obtain ⟨fuel, hf⟩ := h1
    rcases open_ints Try.underlying22 Try.underlying5 (by kernel_rfl) hf with ⟨hcs, _⟩ | ⟨x, l, c, zs, hcs, _, hl, hm, hz, _, hcell, hwz⟩
    · simp [Value.cells] at hcs
      obtain ⟨rfl, rfl, rfl⟩ := hcs
      exact ⟨[], .inl ⟨rfl, rfl, rfl, rfl⟩⟩
    · simp [Value.cells] at hcs
      obtain ⟨rfl, rfl, rfl⟩ := hcs
      exact ⟨zs, .inr ⟨_, rfl, hl, hm, by simpa using hz, hcell, hwz⟩⟩
  clear hA0 hval0
  obtain ⟨y0, e0, m0, q0⟩ := isRowU_rowB w0
  obtain ⟨y1, e1, m1, q1⟩ := isRowU_rowB w1
  subst e0 e1
  refine (wFnFrames a0 a1 cap0 cap1 y0 y1 W m0 m1 q0 q1).mono fun e W' ⟨he, bel⟩ => ?_
  subst he
  exact ⟨_, rfl, _, _, _, [], _, [], hW', trodAll_mk1 (shut_bool Try.underlying4 _), (trodAll_cons_mk (Below.trod laidOut (by kernel_rfl) (of_decide_eq_true (by kernel_rfl)) k0 bel lt0) (trodAll_cons_mk (Below.trod laidOut (by kernel_rfl) (of_decide_eq_true (by kernel_rfl)) k1 bel lt1) trodAll_mk0)), rfl, bel.frame _, fun h => by cases h⟩

theorem fnFrames_holds : Rows.FnFramesSaid :=
  OpenClaim.holds_of_wide 3 Try.f3 rfl rfl rfl rfl rfl rfl rfl ⟨rfl, rfl, rfl, rfl, rfl⟩ rfl rfl rfl rfl rfl (by kernel_rfl) Try.func3 (by kernel_rfl)
    (of_decide_eq_true (by kernel_rfl)) (by unfold Func.isWrapper; first | (rw [if_pos (by decide +kernel)]; kernel_rfl) | (rw [if_neg (by decide +kernel)]; exact ⟨rfl, rfl⟩))
    (fun os started H enc _ => fnFrames_lifted os started H enc)
#print axioms fnFrames_holds
end Go.Proofs.Ytabbicfakkehpaa
