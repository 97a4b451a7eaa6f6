/- What a good table is: its specification, and the program's isVal and isRow. -/
import Derived.Test.YtpgngfdhnoonjaaTr0
import Derived.Test.YtpgngfdhnoonjaaG6
import Derived.Test.YtpgngfdhnoonjaaA4
import Derived.BigQuiet
namespace Go.Proofs.Ytpgngfdhnoonjaa.Tb
open Go.RowKit Wire Go.Deep
set_option linter.unusedVariables false
set_option linter.unusedSimpArgs false
def rowB (b d : Int) (r : Rw) : Bool := numB b d r.x0 && inB r.x1 1 1000000 && inB r.x2 0 1000000 && !(r.b && (r.x2 != 0))
def tokB (b d : Int) (ms : List Rw) (i : Nat) : Bool := rowB b d (ms.getD i rw0) && (decide (i = 0) || decide ((ms.getD (i - 1) rw0).x0 < (ms.getD i rw0).x0))
def goodT (b d : Int) (ms : List Rw) : Bool := gsB b d && decide (ms.length ≤ 8) && (List.range ms.length).all (tokB b d ms)
theorem goodT_no {b d : Int} {ms : List Rw} {i : Nat} (hi : i < ms.length) (h : tokB b d ms i = false) : goodT b d ms = false := by
  have : (List.range ms.length).all (tokB b d ms) = false := by
    rw [List.all_eq_false]
    exact ⟨i, List.mem_range.2 hi, by rw [h]; decide⟩
  unfold goodT
  rw [this, Bool.and_false]
theorem goodT_yes {b d : Int} {ms : List Rw} (h : ∀ i, i < ms.length → tokB b d ms i = true) : goodT b d ms = (gsB b d && decide (ms.length ≤ 8)) := by
  have : (List.range ms.length).all (tokB b d ms) = true := by
    rw [List.all_eq_true]
    exact fun i hi => h i (List.mem_range.1 hi)
  unfold goodT
  rw [this, Bool.and_true]
theorem goodT_true {b d : Int} {ms : List Rw} (h : goodT b d ms = true) : gsB b d = true ∧ ms.length ≤ 8 ∧ ∀ i, i < ms.length → tokB b d ms i = true := by
  unfold goodT at h
  rw [Bool.and_eq_true, Bool.and_eq_true, List.all_eq_true] at h
  exact ⟨h.1.1, of_decide_eq_true h.1.2, fun i hi => h.2 i (List.mem_range.2 hi)⟩
theorem lnumsA (b d x : Int) (q : Nat) (w : World) (hq : q < w.heap.size) (hc : w.cell? ⟨q, 0, none⟩ = some (.int .i64 x)) : Calls Try.prog 53 #[.agg #[.int .i64 b, .int .i64 d], .slice (some ⟨q, 0, none⟩) 1 1] w fun e w' => e = .returned (.bool (numB b d x)) ∧ Below w.heap.size w w' := by
  have h := lnums_any b d q 0 1 [x] w (by simp [maxLen]) hq (fun i hi => by
    match i, hi with
    | 0, _ => exact hc)
  rw [numsB_1] at h
  exact h
/-- a box of a row, and that of the space -/
theorem Bk.r4 {w : World} {g : Nat} {x0 x1 x2 : Int} {u : Bool} {T : TypeId} (h : Bk w g #[.int .i64 x0, .int .i64 x1, .int .i64 x2, .bool u] T) : w.cell? ⟨g, 0, none⟩ = some (.int .i64 x0) ∧ w.cell? ⟨g, 1, none⟩ = some (.int .i64 x1) ∧ w.cell? ⟨g, 2, none⟩ = some (.int .i64 x2) ∧ w.cell? ⟨g, 3, none⟩ = some (.bool u) := h.c4
set_option maxRecDepth 100000 in
set_option maxHeartbeats 12800000 in
theorem lTable_any (b d : Int) (a : Option Addr) (cap : Nat) (ms : List Rw) (w : World) (hm : ms.length ≤ maxLen) (hr : LsAt tyRw w a ms) :
    Calls Try.prog 52 #[.agg #[.int .i64 b, .int .i64 d], .slice a ms.length cap] w fun e w' => e = .returned (.bool (goodT b d ms)) ∧ Below w.heap.size w w' := by
  unfold maxLen at hm
  have HR : Hid (LsAt tyRw w a ms) := hr
  clear hr
  have KS0 : Hid (Wire.Bk (w.alloc (.cells #[.int .i64 b, .int .i64 d] 25)) w.heap.size #[.int .i64 b, .int .i64 d] 25) := Wire.Bk.new _ _ _
  go_enter Try.func52, Try.ntmps52
  go_wp2_with fail
  go_loopw [9] (fun vi wr => ∃ k : Nat, k ≤ ms.length ∧ vi = .int .i64 k ∧ Hid (∀ i, i < k → tokB b d ms i = true) ∧ Hid (Below w.heap.size w wr) ∧ Hid (Wire.Bk wr w.heap.size #[.int .i64 b, .int .i64 d] 25)) (fun vi _ => ms.length - (intOf vi).toNat)
  case atStart => exact ⟨0, Nat.zero_le _, rfl, fun i hi => by omega, belA _ _, KS0.out⟩
  case round =>
    obtain ⟨k, hk, rfl, HS, HB, KS⟩ := hrel
    clear KS0
    by_cases hlt : k < ms.length
    · obtain ⟨bk, off, rfl⟩ := lsAt_form HR.out (by show 0 < ms.length; omega)
      obtain ⟨hb1, hc⟩ := rwAt_cell (HR.out.keep HB.out) hlt
      have HPL : Hid (bk < wr.heap.size) := hb1
      obtain ⟨c0, c1, c2, c3⟩ := CellsAt.rw hc
      have HT : Hid (tokB b d ms k = (rowB b d (ms.getD k rw0) && (decide (k = 0) || decide ((ms.getD (k - 1) rw0).x0 < (ms.getD k rw0).x0)))) := rfl
      have HPC0 : Hid (0 < k → wr.cell? ⟨bk, off + (k - 1) * 4, none⟩ = some (.int .i64 (ms.getD (k - 1) rw0).x0)) := fun h0 => (CellsAt.rw (rwAt_cell (HR.out.keep HB.out) (i := k - 1) (by omega)).2).1
      clear hc hb1
      generalize ms.getD k rw0 = r at c0 c1 c2 c3 HT
      generalize (ms.getD (k - 1) rw0).x0 = px at HT HPC0
      obtain ⟨x0, x1, x2, g⟩ := r
      have HT : Hid (tokB b d ms k = ((numB b d x0 && inB x1 1 1000000 && inB x2 0 1000000 && !(g && (x2 != 0))) && (decide (k = 0) || decide (px < x0)))) := HT
      have C1 := fun w1 => lin_any x1 1 1000000 w1
      have C2 := fun w1 => lin_any x2 0 1000000 w1
      cases hn : numB b d x0
      ·
        have HN : Hid (numB b d x0 = false) := hn
        clear hn C1 C2
        go_wp2_with fail
        generalize hWe : (wr.alloc (.cells #[.int .i64 x0, .int .i64 x1, .int .i64 x2, .bool g] 37)) = W at *
        have HWb : Hid (Below wr.heap.size wr W) := by rw [← hWe]; exact belA _ _
        have HKR : Hid (Wire.Bk W wr.heap.size #[.int .i64 x0, .int .i64 x1, .int .i64 x2, .bool g] 37) := by rw [← hWe]; exact Wire.Bk.new _ _ _
        have zWl : Hid (W.heap.size = wr.heap.size + 1) := by rw [← hWe]; show _ = _; simp
        clear hWe c0 c1 c2 c3
        have HKS : Hid (Wire.Bk W w.heap.size #[.int .i64 b, .int .i64 d] 25) := KS.out.keep HWb.out
        have zs := Wire.Bk.lt HKS.out
        have zr := Wire.Bk.lt HKR.out
        have kc0 : ∀ p : Kin W.heap.size W, p.v.cell? ⟨w.heap.size, 0, none⟩ = some (.int .i64 b) := kin_cell zs (HKS.out.cell 0)
        have kc1 : ∀ p : Kin W.heap.size W, p.v.cell? ⟨w.heap.size, 1, none⟩ = some (.int .i64 d) := kin_cell zs (HKS.out.cell 1)
        have kr0 : ∀ p : Kin W.heap.size W, p.v.cell? ⟨wr.heap.size, 0, none⟩ = some (.int .i64 x0) := kin_cell zr (HKR.out.cell 0)
        refine wp_region_held_drew (S := KinS W.heap.size W) (by kernel_rfl) (kinS_self _ _) (fun hHeld => ?_)
        refine wpAnyH_take (i := 0) (v := ?_) rfl (by kernel_rfl) (by kernel_rfl) (by kernel_rfl) (fun _ _ _ h => h) (Or.inl ⟨by rfl, ?_⟩) (by assumption) ?_
        rotate_left
        · intro w9 hw9
          obtain ⟨p9, rfl⟩ := hw9
          first | (go_simp; done) | (go_simp; rfl)
        simp only [Act.put, List.setIfInBounds_toArray, List.set_cons_zero, List.set_cons_succ]
        refine wpAnyH_take (i := 1) (v := ?_) rfl (by kernel_rfl) (by kernel_rfl) (by kernel_rfl) (fun _ _ _ h => h) (Or.inl ⟨by rfl, ?_⟩) (by assumption) ?_
        rotate_left
        · intro w9 hw9
          obtain ⟨p9, rfl⟩ := hw9
          first | (go_simp; done) | (go_simp; rfl)
        simp only [Act.put, List.setIfInBounds_toArray, List.set_cons_zero, List.set_cons_succ]
        refine wpAnyH_take (i := 2) (v := ?_) rfl (by kernel_rfl) (by kernel_rfl) (by kernel_rfl) (fun _ _ _ h => h) (Or.inl ⟨by rfl, ?_⟩) (by assumption) ?_
        rotate_left
        · intro w9 hw9
          obtain ⟨p9, rfl⟩ := hw9
          first | (go_simp; done) | (go_simp; rfl)
        simp only [Act.put, List.setIfInBounds_toArray, List.set_cons_zero, List.set_cons_succ]
        refine wpAnyH_ready (rs := [3]) (by kernel_rfl) (by simp) ?_
        refine AllReadyH.cons rfl (fun K hK => ?_) AllReadyH.nil
        go_simp
        refine hK.out _ _ (kinS_of ((belA _ _).drew)) (fun hHeld2 => ?_)
        clear kc0 kc1 kr0 hHeld hHeld2 zs zr
        have HWA : Hid (Below W.heap.size W (W.alloc (.cells #[.int .i64 x0] 3)).drew) := (belA _ _).drew
        have cW : (W.alloc (.cells #[.int .i64 x0] 3)).drew.cell? ⟨W.heap.size, 0, none⟩ = some (.int .i64 x0) := by go_simp
        have zW : Hid ((W.alloc (.cells #[.int .i64 x0] 3)).drew.heap.size = W.heap.size + 1) := by show _ = _; simp
        generalize (W.alloc (.cells #[.int .i64 x0] 3)).drew = WA at *
        refine held_quiet (C := fun w' => ∃ p : Kin WA.heap.size WA, w' = p.v) 4 38 (kinS_sub HWA.out (by have := zW.out; omega)) (by kernel_rfl) rfl (by kernel_rfl) ⟨⟨WA, Below.refl _ _⟩, rfl⟩ ?_
        simp only [List.drop_succ_cons, List.drop_zero]
        have hne := kinNe WA.heap.size WA
        have GS := HKS.out.keep HWA.out
        have GR := HKR.out.keep HWA.out
        have kc0 : ∀ p : Kin WA.heap.size WA, p.v.cell? ⟨w.heap.size, 0, none⟩ = some (.int .i64 b) := kin_cell GS.lt (GS.cell 0)
        have kc1 : ∀ p : Kin WA.heap.size WA, p.v.cell? ⟨w.heap.size, 1, none⟩ = some (.int .i64 d) := kin_cell GS.lt (GS.cell 1)
        have kr0 : ∀ p : Kin WA.heap.size WA, p.v.cell? ⟨wr.heap.size, 0, none⟩ = some (.int .i64 x0) := kin_cell GR.lt (GR.cell 0)
        have kr1 : ∀ p : Kin WA.heap.size WA, p.v.cell? ⟨wr.heap.size, 1, none⟩ = some (.int .i64 x1) := kin_cell GR.lt (GR.cell 1)
        have kr2 : ∀ p : Kin WA.heap.size WA, p.v.cell? ⟨wr.heap.size, 2, none⟩ = some (.int .i64 x2) := kin_cell GR.lt (GR.cell 2)
        have kr3 : ∀ p : Kin WA.heap.size WA, p.v.cell? ⟨wr.heap.size, 3, none⟩ = some (.bool g) := kin_cell GR.lt (GR.cell 3)
        have CV : ∀ p : Kin WA.heap.size WA, Calls Try.prog 53 #[.agg #[.int .i64 b, .int .i64 d], .slice (some ⟨W.heap.size, 0, none⟩) 1 1] p.v fun e w' => e = .returned (.bool (false)) ∧ Below p.v.heap.size p.v w' := fun p => by
          have h := lnumsA b d x0 W.heap.size p.v (by have := p.bel.size; have := zW.out; omega) (kin_cell (by have := zW.out; omega) cW p)
          rw [HN.out] at h
          exact h
        repeat (go_big_quiet_step (first | (go_at_call 53; exact kin_of (Nat.le_refl _) (CV _)) | (go_at_call_of 54 (Value.int .i64 1000000, Value.int .i64 1); fail) | (go_at_call_of 54 (Value.int .i64 1); exact kin_same (C1 _)) | (go_at_call_of 54 (Value.int .i64 0); exact kin_same (C2 _))))
        refine wpQuiet_nil ?_
        intro w2 hw'
        obtain ⟨⟨w9, hw9⟩, hw''⟩ := hw'
        obtain rfl : w2 = w9 := hw''
        have HB2 : Hid (Below w.heap.size w w2) := belt HB.out (belt HWb.out (belt HWA.out hw9))
        have KS2 : Hid (Wire.Bk w2 w.heap.size #[.int .i64 b, .int .i64 d] 25) := HKS.out.keep (belt HWA.out hw9)
        clear kc0 kc1 kr0 kr1 kr2 kr3 GS GR hne hw9 cW CV HWA HWb HKS HKR KS HB zW zWl
        have HV : Hid (goodT b d ms = false) := goodT_no hlt (by rw [HT.out]; rw [HN.out]; rfl)
        obtain ⟨s0, s1⟩ := Wire.Bk.c2 KS2.out
        clear HT HPC0
        go_wp2
        go_ret
        exact ⟨ret_bool HV.out.symm, HB2.out⟩
      ·
        have HN : Hid (numB b d x0 = true) := hn
        clear hn
        by_cases hk0 : k = 0
        ·
          have HK0 : Hid (decide (k = 0) = true) := decide_eq_true hk0
          have hg0 : decide (0 < k) = false := decide_eq_false (by omega)
          clear hk0
          cases hv1 : inB x1 1 1000000
          ·
            have Hv1 : Hid (inB x1 1 1000000 = false) := hv1
            rw [hv1] at C1
            clear hv1 C2
            go_wp2_with fail
            generalize hWe : (wr.alloc (.cells #[.int .i64 x0, .int .i64 x1, .int .i64 x2, .bool g] 37)) = W at *
            have HWb : Hid (Below wr.heap.size wr W) := by rw [← hWe]; exact belA _ _
            have HKR : Hid (Wire.Bk W wr.heap.size #[.int .i64 x0, .int .i64 x1, .int .i64 x2, .bool g] 37) := by rw [← hWe]; exact Wire.Bk.new _ _ _
            have zWl : Hid (W.heap.size = wr.heap.size + 1) := by rw [← hWe]; show _ = _; simp
            clear hWe c0 c1 c2 c3
            have HKS : Hid (Wire.Bk W w.heap.size #[.int .i64 b, .int .i64 d] 25) := KS.out.keep HWb.out
            have zs := Wire.Bk.lt HKS.out
            have zr := Wire.Bk.lt HKR.out
            have kc0 : ∀ p : Kin W.heap.size W, p.v.cell? ⟨w.heap.size, 0, none⟩ = some (.int .i64 b) := kin_cell zs (HKS.out.cell 0)
            have kc1 : ∀ p : Kin W.heap.size W, p.v.cell? ⟨w.heap.size, 1, none⟩ = some (.int .i64 d) := kin_cell zs (HKS.out.cell 1)
            have kr0 : ∀ p : Kin W.heap.size W, p.v.cell? ⟨wr.heap.size, 0, none⟩ = some (.int .i64 x0) := kin_cell zr (HKR.out.cell 0)
            refine wp_region_held_drew (S := KinS W.heap.size W) (by kernel_rfl) (kinS_self _ _) (fun hHeld => ?_)
            refine wpAnyH_take (i := 0) (v := ?_) rfl (by kernel_rfl) (by kernel_rfl) (by kernel_rfl) (fun _ _ _ h => h) (Or.inl ⟨by rfl, ?_⟩) (by assumption) ?_
            rotate_left
            · intro w9 hw9
              obtain ⟨p9, rfl⟩ := hw9
              first | (go_simp; done) | (go_simp; rfl)
            simp only [Act.put, List.setIfInBounds_toArray, List.set_cons_zero, List.set_cons_succ]
            refine wpAnyH_take (i := 1) (v := ?_) rfl (by kernel_rfl) (by kernel_rfl) (by kernel_rfl) (fun _ _ _ h => h) (Or.inl ⟨by rfl, ?_⟩) (by assumption) ?_
            rotate_left
            · intro w9 hw9
              obtain ⟨p9, rfl⟩ := hw9
              first | (go_simp; done) | (go_simp; rfl)
            simp only [Act.put, List.setIfInBounds_toArray, List.set_cons_zero, List.set_cons_succ]
            refine wpAnyH_take (i := 2) (v := ?_) rfl (by kernel_rfl) (by kernel_rfl) (by kernel_rfl) (fun _ _ _ h => h) (Or.inl ⟨by rfl, ?_⟩) (by assumption) ?_
            rotate_left
            · intro w9 hw9
              obtain ⟨p9, rfl⟩ := hw9
              first | (go_simp; done) | (go_simp; rfl)
            simp only [Act.put, List.setIfInBounds_toArray, List.set_cons_zero, List.set_cons_succ]
            refine wpAnyH_ready (rs := [3]) (by kernel_rfl) (by simp) ?_
            refine AllReadyH.cons rfl (fun K hK => ?_) AllReadyH.nil
            go_simp
            refine hK.out _ _ (kinS_of ((belA _ _).drew)) (fun hHeld2 => ?_)
            clear kc0 kc1 kr0 hHeld hHeld2 zs zr
            have HWA : Hid (Below W.heap.size W (W.alloc (.cells #[.int .i64 x0] 3)).drew) := (belA _ _).drew
            have cW : (W.alloc (.cells #[.int .i64 x0] 3)).drew.cell? ⟨W.heap.size, 0, none⟩ = some (.int .i64 x0) := by go_simp
            have zW : Hid ((W.alloc (.cells #[.int .i64 x0] 3)).drew.heap.size = W.heap.size + 1) := by show _ = _; simp
            generalize (W.alloc (.cells #[.int .i64 x0] 3)).drew = WA at *
            refine held_quiet (C := fun w' => ∃ p : Kin WA.heap.size WA, w' = p.v) 4 38 (kinS_sub HWA.out (by have := zW.out; omega)) (by kernel_rfl) rfl (by kernel_rfl) ⟨⟨WA, Below.refl _ _⟩, rfl⟩ ?_
            simp only [List.drop_succ_cons, List.drop_zero]
            have hne := kinNe WA.heap.size WA
            have GS := HKS.out.keep HWA.out
            have GR := HKR.out.keep HWA.out
            have kc0 : ∀ p : Kin WA.heap.size WA, p.v.cell? ⟨w.heap.size, 0, none⟩ = some (.int .i64 b) := kin_cell GS.lt (GS.cell 0)
            have kc1 : ∀ p : Kin WA.heap.size WA, p.v.cell? ⟨w.heap.size, 1, none⟩ = some (.int .i64 d) := kin_cell GS.lt (GS.cell 1)
            have kr0 : ∀ p : Kin WA.heap.size WA, p.v.cell? ⟨wr.heap.size, 0, none⟩ = some (.int .i64 x0) := kin_cell GR.lt (GR.cell 0)
            have kr1 : ∀ p : Kin WA.heap.size WA, p.v.cell? ⟨wr.heap.size, 1, none⟩ = some (.int .i64 x1) := kin_cell GR.lt (GR.cell 1)
            have kr2 : ∀ p : Kin WA.heap.size WA, p.v.cell? ⟨wr.heap.size, 2, none⟩ = some (.int .i64 x2) := kin_cell GR.lt (GR.cell 2)
            have kr3 : ∀ p : Kin WA.heap.size WA, p.v.cell? ⟨wr.heap.size, 3, none⟩ = some (.bool g) := kin_cell GR.lt (GR.cell 3)
            have CV : ∀ p : Kin WA.heap.size WA, Calls Try.prog 53 #[.agg #[.int .i64 b, .int .i64 d], .slice (some ⟨W.heap.size, 0, none⟩) 1 1] p.v fun e w' => e = .returned (.bool (true)) ∧ Below p.v.heap.size p.v w' := fun p => by
              have h := lnumsA b d x0 W.heap.size p.v (by have := p.bel.size; have := zW.out; omega) (kin_cell (by have := zW.out; omega) cW p)
              rw [HN.out] at h
              exact h
            repeat (go_big_quiet_step (first | (go_at_call 53; exact kin_of (Nat.le_refl _) (CV _)) | (go_at_call_of 54 (Value.int .i64 1000000, Value.int .i64 1); fail) | (go_at_call_of 54 (Value.int .i64 1); exact kin_same (C1 _)) | (go_at_call_of 54 (Value.int .i64 0); exact kin_same (C2 _))))
            refine wpQuiet_nil ?_
            intro w2 hw'
            obtain ⟨⟨w9, hw9⟩, hw''⟩ := hw'
            obtain rfl : w2 = w9 := hw''
            have HB2 : Hid (Below w.heap.size w w2) := belt HB.out (belt HWb.out (belt HWA.out hw9))
            have KS2 : Hid (Wire.Bk w2 w.heap.size #[.int .i64 b, .int .i64 d] 25) := HKS.out.keep (belt HWA.out hw9)
            clear kc0 kc1 kr0 kr1 kr2 kr3 GS GR hne hw9 cW CV HWA HWb HKS HKR KS HB zW zWl
            have HV : Hid (goodT b d ms = false) := goodT_no hlt (by rw [HT.out]; rw [Hv1.out]; simp)
            obtain ⟨s0, s1⟩ := Wire.Bk.c2 KS2.out
            clear HT HPC0
            go_wp2
            go_ret
            exact ⟨ret_bool HV.out.symm, HB2.out⟩
          ·
            have Hv1 : Hid (inB x1 1 1000000 = true) := hv1
            rw [hv1] at C1
            clear hv1
            cases hv2 : inB x2 0 1000000
            ·
              have Hv2 : Hid (inB x2 0 1000000 = false) := hv2
              rw [hv2] at C2
              clear hv2
              go_wp2_with fail
              generalize hWe : (wr.alloc (.cells #[.int .i64 x0, .int .i64 x1, .int .i64 x2, .bool g] 37)) = W at *
              have HWb : Hid (Below wr.heap.size wr W) := by rw [← hWe]; exact belA _ _
              have HKR : Hid (Wire.Bk W wr.heap.size #[.int .i64 x0, .int .i64 x1, .int .i64 x2, .bool g] 37) := by rw [← hWe]; exact Wire.Bk.new _ _ _
              have zWl : Hid (W.heap.size = wr.heap.size + 1) := by rw [← hWe]; show _ = _; simp
              clear hWe c0 c1 c2 c3
              have HKS : Hid (Wire.Bk W w.heap.size #[.int .i64 b, .int .i64 d] 25) := KS.out.keep HWb.out
              have zs := Wire.Bk.lt HKS.out
              have zr := Wire.Bk.lt HKR.out
              have kc0 : ∀ p : Kin W.heap.size W, p.v.cell? ⟨w.heap.size, 0, none⟩ = some (.int .i64 b) := kin_cell zs (HKS.out.cell 0)
              have kc1 : ∀ p : Kin W.heap.size W, p.v.cell? ⟨w.heap.size, 1, none⟩ = some (.int .i64 d) := kin_cell zs (HKS.out.cell 1)
              have kr0 : ∀ p : Kin W.heap.size W, p.v.cell? ⟨wr.heap.size, 0, none⟩ = some (.int .i64 x0) := kin_cell zr (HKR.out.cell 0)
              refine wp_region_held_drew (S := KinS W.heap.size W) (by kernel_rfl) (kinS_self _ _) (fun hHeld => ?_)
              refine wpAnyH_take (i := 0) (v := ?_) rfl (by kernel_rfl) (by kernel_rfl) (by kernel_rfl) (fun _ _ _ h => h) (Or.inl ⟨by rfl, ?_⟩) (by assumption) ?_
              rotate_left
              · intro w9 hw9
                obtain ⟨p9, rfl⟩ := hw9
                first | (go_simp; done) | (go_simp; rfl)
              simp only [Act.put, List.setIfInBounds_toArray, List.set_cons_zero, List.set_cons_succ]
              refine wpAnyH_take (i := 1) (v := ?_) rfl (by kernel_rfl) (by kernel_rfl) (by kernel_rfl) (fun _ _ _ h => h) (Or.inl ⟨by rfl, ?_⟩) (by assumption) ?_
              rotate_left
              · intro w9 hw9
                obtain ⟨p9, rfl⟩ := hw9
                first | (go_simp; done) | (go_simp; rfl)
              simp only [Act.put, List.setIfInBounds_toArray, List.set_cons_zero, List.set_cons_succ]
              refine wpAnyH_take (i := 2) (v := ?_) rfl (by kernel_rfl) (by kernel_rfl) (by kernel_rfl) (fun _ _ _ h => h) (Or.inl ⟨by rfl, ?_⟩) (by assumption) ?_
              rotate_left
              · intro w9 hw9
                obtain ⟨p9, rfl⟩ := hw9
                first | (go_simp; done) | (go_simp; rfl)
              simp only [Act.put, List.setIfInBounds_toArray, List.set_cons_zero, List.set_cons_succ]
              refine wpAnyH_ready (rs := [3]) (by kernel_rfl) (by simp) ?_
              refine AllReadyH.cons rfl (fun K hK => ?_) AllReadyH.nil
              go_simp
              refine hK.out _ _ (kinS_of ((belA _ _).drew)) (fun hHeld2 => ?_)
              clear kc0 kc1 kr0 hHeld hHeld2 zs zr
              have HWA : Hid (Below W.heap.size W (W.alloc (.cells #[.int .i64 x0] 3)).drew) := (belA _ _).drew
              have cW : (W.alloc (.cells #[.int .i64 x0] 3)).drew.cell? ⟨W.heap.size, 0, none⟩ = some (.int .i64 x0) := by go_simp
              have zW : Hid ((W.alloc (.cells #[.int .i64 x0] 3)).drew.heap.size = W.heap.size + 1) := by show _ = _; simp
              generalize (W.alloc (.cells #[.int .i64 x0] 3)).drew = WA at *
              refine held_quiet (C := fun w' => ∃ p : Kin WA.heap.size WA, w' = p.v) 4 38 (kinS_sub HWA.out (by have := zW.out; omega)) (by kernel_rfl) rfl (by kernel_rfl) ⟨⟨WA, Below.refl _ _⟩, rfl⟩ ?_
              simp only [List.drop_succ_cons, List.drop_zero]
              have hne := kinNe WA.heap.size WA
              have GS := HKS.out.keep HWA.out
              have GR := HKR.out.keep HWA.out
              have kc0 : ∀ p : Kin WA.heap.size WA, p.v.cell? ⟨w.heap.size, 0, none⟩ = some (.int .i64 b) := kin_cell GS.lt (GS.cell 0)
              have kc1 : ∀ p : Kin WA.heap.size WA, p.v.cell? ⟨w.heap.size, 1, none⟩ = some (.int .i64 d) := kin_cell GS.lt (GS.cell 1)
              have kr0 : ∀ p : Kin WA.heap.size WA, p.v.cell? ⟨wr.heap.size, 0, none⟩ = some (.int .i64 x0) := kin_cell GR.lt (GR.cell 0)
              have kr1 : ∀ p : Kin WA.heap.size WA, p.v.cell? ⟨wr.heap.size, 1, none⟩ = some (.int .i64 x1) := kin_cell GR.lt (GR.cell 1)
              have kr2 : ∀ p : Kin WA.heap.size WA, p.v.cell? ⟨wr.heap.size, 2, none⟩ = some (.int .i64 x2) := kin_cell GR.lt (GR.cell 2)
              have kr3 : ∀ p : Kin WA.heap.size WA, p.v.cell? ⟨wr.heap.size, 3, none⟩ = some (.bool g) := kin_cell GR.lt (GR.cell 3)
              have CV : ∀ p : Kin WA.heap.size WA, Calls Try.prog 53 #[.agg #[.int .i64 b, .int .i64 d], .slice (some ⟨W.heap.size, 0, none⟩) 1 1] p.v fun e w' => e = .returned (.bool (true)) ∧ Below p.v.heap.size p.v w' := fun p => by
                have h := lnumsA b d x0 W.heap.size p.v (by have := p.bel.size; have := zW.out; omega) (kin_cell (by have := zW.out; omega) cW p)
                rw [HN.out] at h
                exact h
              repeat (go_big_quiet_step (first | (go_at_call 53; exact kin_of (Nat.le_refl _) (CV _)) | (go_at_call_of 54 (Value.int .i64 1000000, Value.int .i64 1); fail) | (go_at_call_of 54 (Value.int .i64 1); exact kin_same (C1 _)) | (go_at_call_of 54 (Value.int .i64 0); exact kin_same (C2 _))))
              refine wpQuiet_nil ?_
              intro w2 hw'
              obtain ⟨⟨w9, hw9⟩, hw''⟩ := hw'
              obtain rfl : w2 = w9 := hw''
              have HB2 : Hid (Below w.heap.size w w2) := belt HB.out (belt HWb.out (belt HWA.out hw9))
              have KS2 : Hid (Wire.Bk w2 w.heap.size #[.int .i64 b, .int .i64 d] 25) := HKS.out.keep (belt HWA.out hw9)
              clear kc0 kc1 kr0 kr1 kr2 kr3 GS GR hne hw9 cW CV HWA HWb HKS HKR KS HB zW zWl
              have HV : Hid (goodT b d ms = false) := goodT_no hlt (by rw [HT.out]; rw [Hv2.out]; simp)
              obtain ⟨s0, s1⟩ := Wire.Bk.c2 KS2.out
              clear HT HPC0
              go_wp2
              go_ret
              exact ⟨ret_bool HV.out.symm, HB2.out⟩
            ·
              have Hv2 : Hid (inB x2 0 1000000 = true) := hv2
              rw [hv2] at C2
              clear hv2
              cases g
              ·
                have HS1 : Hid (∀ i, i < k + 1 → tokB b d ms i = true) := fun i hi => by
                  by_cases hik : i = k
                  · subst hik; rw [HT.out, HN.out, Hv1.out, Hv2.out]; rw [HK0.out]; simp
                  · exact HS.out i (by omega)
                go_wp2_with fail
                generalize hWe : (wr.alloc (.cells #[.int .i64 x0, .int .i64 x1, .int .i64 x2, .bool false] 37)) = W at *
                have HWb : Hid (Below wr.heap.size wr W) := by rw [← hWe]; exact belA _ _
                have HKR : Hid (Wire.Bk W wr.heap.size #[.int .i64 x0, .int .i64 x1, .int .i64 x2, .bool false] 37) := by rw [← hWe]; exact Wire.Bk.new _ _ _
                have zWl : Hid (W.heap.size = wr.heap.size + 1) := by rw [← hWe]; show _ = _; simp
                clear hWe c0 c1 c2 c3
                have HKS : Hid (Wire.Bk W w.heap.size #[.int .i64 b, .int .i64 d] 25) := KS.out.keep HWb.out
                have zs := Wire.Bk.lt HKS.out
                have zr := Wire.Bk.lt HKR.out
                have kc0 : ∀ p : Kin W.heap.size W, p.v.cell? ⟨w.heap.size, 0, none⟩ = some (.int .i64 b) := kin_cell zs (HKS.out.cell 0)
                have kc1 : ∀ p : Kin W.heap.size W, p.v.cell? ⟨w.heap.size, 1, none⟩ = some (.int .i64 d) := kin_cell zs (HKS.out.cell 1)
                have kr0 : ∀ p : Kin W.heap.size W, p.v.cell? ⟨wr.heap.size, 0, none⟩ = some (.int .i64 x0) := kin_cell zr (HKR.out.cell 0)
                refine wp_region_held_drew (S := KinS W.heap.size W) (by kernel_rfl) (kinS_self _ _) (fun hHeld => ?_)
                refine wpAnyH_take (i := 0) (v := ?_) rfl (by kernel_rfl) (by kernel_rfl) (by kernel_rfl) (fun _ _ _ h => h) (Or.inl ⟨by rfl, ?_⟩) (by assumption) ?_
                rotate_left
                · intro w9 hw9
                  obtain ⟨p9, rfl⟩ := hw9
                  first | (go_simp; done) | (go_simp; rfl)
                simp only [Act.put, List.setIfInBounds_toArray, List.set_cons_zero, List.set_cons_succ]
                refine wpAnyH_take (i := 1) (v := ?_) rfl (by kernel_rfl) (by kernel_rfl) (by kernel_rfl) (fun _ _ _ h => h) (Or.inl ⟨by rfl, ?_⟩) (by assumption) ?_
                rotate_left
                · intro w9 hw9
                  obtain ⟨p9, rfl⟩ := hw9
                  first | (go_simp; done) | (go_simp; rfl)
                simp only [Act.put, List.setIfInBounds_toArray, List.set_cons_zero, List.set_cons_succ]
                refine wpAnyH_take (i := 2) (v := ?_) rfl (by kernel_rfl) (by kernel_rfl) (by kernel_rfl) (fun _ _ _ h => h) (Or.inl ⟨by rfl, ?_⟩) (by assumption) ?_
                rotate_left
                · intro w9 hw9
                  obtain ⟨p9, rfl⟩ := hw9
                  first | (go_simp; done) | (go_simp; rfl)
                simp only [Act.put, List.setIfInBounds_toArray, List.set_cons_zero, List.set_cons_succ]
                refine wpAnyH_ready (rs := [3]) (by kernel_rfl) (by simp) ?_
                refine AllReadyH.cons rfl (fun K hK => ?_) AllReadyH.nil
                go_simp
                refine hK.out _ _ (kinS_of ((belA _ _).drew)) (fun hHeld2 => ?_)
                clear kc0 kc1 kr0 hHeld hHeld2 zs zr
                have HWA : Hid (Below W.heap.size W (W.alloc (.cells #[.int .i64 x0] 3)).drew) := (belA _ _).drew
                have cW : (W.alloc (.cells #[.int .i64 x0] 3)).drew.cell? ⟨W.heap.size, 0, none⟩ = some (.int .i64 x0) := by go_simp
                have zW : Hid ((W.alloc (.cells #[.int .i64 x0] 3)).drew.heap.size = W.heap.size + 1) := by show _ = _; simp
                generalize (W.alloc (.cells #[.int .i64 x0] 3)).drew = WA at *
                refine held_quiet (C := fun w' => ∃ p : Kin WA.heap.size WA, w' = p.v) 4 38 (kinS_sub HWA.out (by have := zW.out; omega)) (by kernel_rfl) rfl (by kernel_rfl) ⟨⟨WA, Below.refl _ _⟩, rfl⟩ ?_
                simp only [List.drop_succ_cons, List.drop_zero]
                have hne := kinNe WA.heap.size WA
                have GS := HKS.out.keep HWA.out
                have GR := HKR.out.keep HWA.out
                have kc0 : ∀ p : Kin WA.heap.size WA, p.v.cell? ⟨w.heap.size, 0, none⟩ = some (.int .i64 b) := kin_cell GS.lt (GS.cell 0)
                have kc1 : ∀ p : Kin WA.heap.size WA, p.v.cell? ⟨w.heap.size, 1, none⟩ = some (.int .i64 d) := kin_cell GS.lt (GS.cell 1)
                have kr0 : ∀ p : Kin WA.heap.size WA, p.v.cell? ⟨wr.heap.size, 0, none⟩ = some (.int .i64 x0) := kin_cell GR.lt (GR.cell 0)
                have kr1 : ∀ p : Kin WA.heap.size WA, p.v.cell? ⟨wr.heap.size, 1, none⟩ = some (.int .i64 x1) := kin_cell GR.lt (GR.cell 1)
                have kr2 : ∀ p : Kin WA.heap.size WA, p.v.cell? ⟨wr.heap.size, 2, none⟩ = some (.int .i64 x2) := kin_cell GR.lt (GR.cell 2)
                have kr3 : ∀ p : Kin WA.heap.size WA, p.v.cell? ⟨wr.heap.size, 3, none⟩ = some (.bool false) := kin_cell GR.lt (GR.cell 3)
                have CV : ∀ p : Kin WA.heap.size WA, Calls Try.prog 53 #[.agg #[.int .i64 b, .int .i64 d], .slice (some ⟨W.heap.size, 0, none⟩) 1 1] p.v fun e w' => e = .returned (.bool (true)) ∧ Below p.v.heap.size p.v w' := fun p => by
                  have h := lnumsA b d x0 W.heap.size p.v (by have := p.bel.size; have := zW.out; omega) (kin_cell (by have := zW.out; omega) cW p)
                  rw [HN.out] at h
                  exact h
                repeat (go_big_quiet_step (first | (go_at_call 53; exact kin_of (Nat.le_refl _) (CV _)) | (go_at_call_of 54 (Value.int .i64 1000000, Value.int .i64 1); fail) | (go_at_call_of 54 (Value.int .i64 1); exact kin_same (C1 _)) | (go_at_call_of 54 (Value.int .i64 0); exact kin_same (C2 _))))
                refine wpQuiet_nil ?_
                intro w2 hw'
                obtain ⟨⟨w9, hw9⟩, hw''⟩ := hw'
                obtain rfl : w2 = w9 := hw''
                have HB2 : Hid (Below w.heap.size w w2) := belt HB.out (belt HWb.out (belt HWA.out hw9))
                have KS2 : Hid (Wire.Bk w2 w.heap.size #[.int .i64 b, .int .i64 d] 25) := HKS.out.keep (belt HWA.out hw9)
                clear kc0 kc1 kr0 kr1 kr2 kr3 GS GR hne hw9 cW CV HWA HWb HKS HKR KS HB zW zWl
                obtain ⟨s0, s1⟩ := Wire.Bk.c2 KS2.out
                clear HT HPC0
                go_wp2
                go_roundw
                case rel => exact ⟨k + 1, by omega, by go_num, HS1, HB2, KS2⟩
                case measure => simp [intOf]; omega
              ·
                by_cases hz : x2 = 0
                ·
                  subst hz
                  have HS1 : Hid (∀ i, i < k + 1 → tokB b d ms i = true) := fun i hi => by
                    by_cases hik : i = k
                    · subst hik; rw [HT.out, HN.out, Hv1.out, Hv2.out]; rw [HK0.out]; simp
                    · exact HS.out i (by omega)
                  go_wp2_with fail
                  generalize hWe : (wr.alloc (.cells #[.int .i64 x0, .int .i64 x1, .int .i64 0, .bool true] 37)) = W at *
                  have HWb : Hid (Below wr.heap.size wr W) := by rw [← hWe]; exact belA _ _
                  have HKR : Hid (Wire.Bk W wr.heap.size #[.int .i64 x0, .int .i64 x1, .int .i64 0, .bool true] 37) := by rw [← hWe]; exact Wire.Bk.new _ _ _
                  have zWl : Hid (W.heap.size = wr.heap.size + 1) := by rw [← hWe]; show _ = _; simp
                  clear hWe c0 c1 c2 c3
                  have HKS : Hid (Wire.Bk W w.heap.size #[.int .i64 b, .int .i64 d] 25) := KS.out.keep HWb.out
                  have zs := Wire.Bk.lt HKS.out
                  have zr := Wire.Bk.lt HKR.out
                  have kc0 : ∀ p : Kin W.heap.size W, p.v.cell? ⟨w.heap.size, 0, none⟩ = some (.int .i64 b) := kin_cell zs (HKS.out.cell 0)
                  have kc1 : ∀ p : Kin W.heap.size W, p.v.cell? ⟨w.heap.size, 1, none⟩ = some (.int .i64 d) := kin_cell zs (HKS.out.cell 1)
                  have kr0 : ∀ p : Kin W.heap.size W, p.v.cell? ⟨wr.heap.size, 0, none⟩ = some (.int .i64 x0) := kin_cell zr (HKR.out.cell 0)
                  refine wp_region_held_drew (S := KinS W.heap.size W) (by kernel_rfl) (kinS_self _ _) (fun hHeld => ?_)
                  refine wpAnyH_take (i := 0) (v := ?_) rfl (by kernel_rfl) (by kernel_rfl) (by kernel_rfl) (fun _ _ _ h => h) (Or.inl ⟨by rfl, ?_⟩) (by assumption) ?_
                  rotate_left
                  · intro w9 hw9
                    obtain ⟨p9, rfl⟩ := hw9
                    first | (go_simp; done) | (go_simp; rfl)
                  simp only [Act.put, List.setIfInBounds_toArray, List.set_cons_zero, List.set_cons_succ]
                  refine wpAnyH_take (i := 1) (v := ?_) rfl (by kernel_rfl) (by kernel_rfl) (by kernel_rfl) (fun _ _ _ h => h) (Or.inl ⟨by rfl, ?_⟩) (by assumption) ?_
                  rotate_left
                  · intro w9 hw9
                    obtain ⟨p9, rfl⟩ := hw9
                    first | (go_simp; done) | (go_simp; rfl)
                  simp only [Act.put, List.setIfInBounds_toArray, List.set_cons_zero, List.set_cons_succ]
                  refine wpAnyH_take (i := 2) (v := ?_) rfl (by kernel_rfl) (by kernel_rfl) (by kernel_rfl) (fun _ _ _ h => h) (Or.inl ⟨by rfl, ?_⟩) (by assumption) ?_
                  rotate_left
                  · intro w9 hw9
                    obtain ⟨p9, rfl⟩ := hw9
                    first | (go_simp; done) | (go_simp; rfl)
                  simp only [Act.put, List.setIfInBounds_toArray, List.set_cons_zero, List.set_cons_succ]
                  refine wpAnyH_ready (rs := [3]) (by kernel_rfl) (by simp) ?_
                  refine AllReadyH.cons rfl (fun K hK => ?_) AllReadyH.nil
                  go_simp
                  refine hK.out _ _ (kinS_of ((belA _ _).drew)) (fun hHeld2 => ?_)
                  clear kc0 kc1 kr0 hHeld hHeld2 zs zr
                  have HWA : Hid (Below W.heap.size W (W.alloc (.cells #[.int .i64 x0] 3)).drew) := (belA _ _).drew
                  have cW : (W.alloc (.cells #[.int .i64 x0] 3)).drew.cell? ⟨W.heap.size, 0, none⟩ = some (.int .i64 x0) := by go_simp
                  have zW : Hid ((W.alloc (.cells #[.int .i64 x0] 3)).drew.heap.size = W.heap.size + 1) := by show _ = _; simp
                  generalize (W.alloc (.cells #[.int .i64 x0] 3)).drew = WA at *
                  refine held_quiet (C := fun w' => ∃ p : Kin WA.heap.size WA, w' = p.v) 4 38 (kinS_sub HWA.out (by have := zW.out; omega)) (by kernel_rfl) rfl (by kernel_rfl) ⟨⟨WA, Below.refl _ _⟩, rfl⟩ ?_
                  simp only [List.drop_succ_cons, List.drop_zero]
                  have hne := kinNe WA.heap.size WA
                  have GS := HKS.out.keep HWA.out
                  have GR := HKR.out.keep HWA.out
                  have kc0 : ∀ p : Kin WA.heap.size WA, p.v.cell? ⟨w.heap.size, 0, none⟩ = some (.int .i64 b) := kin_cell GS.lt (GS.cell 0)
                  have kc1 : ∀ p : Kin WA.heap.size WA, p.v.cell? ⟨w.heap.size, 1, none⟩ = some (.int .i64 d) := kin_cell GS.lt (GS.cell 1)
                  have kr0 : ∀ p : Kin WA.heap.size WA, p.v.cell? ⟨wr.heap.size, 0, none⟩ = some (.int .i64 x0) := kin_cell GR.lt (GR.cell 0)
                  have kr1 : ∀ p : Kin WA.heap.size WA, p.v.cell? ⟨wr.heap.size, 1, none⟩ = some (.int .i64 x1) := kin_cell GR.lt (GR.cell 1)
                  have kr2 : ∀ p : Kin WA.heap.size WA, p.v.cell? ⟨wr.heap.size, 2, none⟩ = some (.int .i64 0) := kin_cell GR.lt (GR.cell 2)
                  have kr3 : ∀ p : Kin WA.heap.size WA, p.v.cell? ⟨wr.heap.size, 3, none⟩ = some (.bool true) := kin_cell GR.lt (GR.cell 3)
                  have CV : ∀ p : Kin WA.heap.size WA, Calls Try.prog 53 #[.agg #[.int .i64 b, .int .i64 d], .slice (some ⟨W.heap.size, 0, none⟩) 1 1] p.v fun e w' => e = .returned (.bool (true)) ∧ Below p.v.heap.size p.v w' := fun p => by
                    have h := lnumsA b d x0 W.heap.size p.v (by have := p.bel.size; have := zW.out; omega) (kin_cell (by have := zW.out; omega) cW p)
                    rw [HN.out] at h
                    exact h
                  repeat (go_big_quiet_step (first | (go_at_call 53; exact kin_of (Nat.le_refl _) (CV _)) | (go_at_call_of 54 (Value.int .i64 1000000, Value.int .i64 1); fail) | (go_at_call_of 54 (Value.int .i64 1); exact kin_same (C1 _)) | (go_at_call_of 54 (Value.int .i64 0); exact kin_same (C2 _))))
                  refine wpQuiet_nil ?_
                  intro w2 hw'
                  obtain ⟨⟨w9, hw9⟩, hw''⟩ := hw'
                  obtain rfl : w2 = w9 := hw''
                  have HB2 : Hid (Below w.heap.size w w2) := belt HB.out (belt HWb.out (belt HWA.out hw9))
                  have KS2 : Hid (Wire.Bk w2 w.heap.size #[.int .i64 b, .int .i64 d] 25) := HKS.out.keep (belt HWA.out hw9)
                  clear kc0 kc1 kr0 kr1 kr2 kr3 GS GR hne hw9 cW CV HWA HWb HKS HKR KS HB zW zWl
                  obtain ⟨s0, s1⟩ := Wire.Bk.c2 KS2.out
                  clear HT HPC0
                  go_wp2
                  go_roundw
                  case rel => exact ⟨k + 1, by omega, by go_num, HS1, HB2, KS2⟩
                  case measure => simp [intOf]; omega
                ·
                  have hz2 : (x2 != 0) = true := by simpa using hz
                  have HZ : Hid ((x2 != 0) = true) := hz2
                  clear hz
                  go_wp2_with fail
                  generalize hWe : (wr.alloc (.cells #[.int .i64 x0, .int .i64 x1, .int .i64 x2, .bool true] 37)) = W at *
                  have HWb : Hid (Below wr.heap.size wr W) := by rw [← hWe]; exact belA _ _
                  have HKR : Hid (Wire.Bk W wr.heap.size #[.int .i64 x0, .int .i64 x1, .int .i64 x2, .bool true] 37) := by rw [← hWe]; exact Wire.Bk.new _ _ _
                  have zWl : Hid (W.heap.size = wr.heap.size + 1) := by rw [← hWe]; show _ = _; simp
                  clear hWe c0 c1 c2 c3
                  have HKS : Hid (Wire.Bk W w.heap.size #[.int .i64 b, .int .i64 d] 25) := KS.out.keep HWb.out
                  have zs := Wire.Bk.lt HKS.out
                  have zr := Wire.Bk.lt HKR.out
                  have kc0 : ∀ p : Kin W.heap.size W, p.v.cell? ⟨w.heap.size, 0, none⟩ = some (.int .i64 b) := kin_cell zs (HKS.out.cell 0)
                  have kc1 : ∀ p : Kin W.heap.size W, p.v.cell? ⟨w.heap.size, 1, none⟩ = some (.int .i64 d) := kin_cell zs (HKS.out.cell 1)
                  have kr0 : ∀ p : Kin W.heap.size W, p.v.cell? ⟨wr.heap.size, 0, none⟩ = some (.int .i64 x0) := kin_cell zr (HKR.out.cell 0)
                  refine wp_region_held_drew (S := KinS W.heap.size W) (by kernel_rfl) (kinS_self _ _) (fun hHeld => ?_)
                  refine wpAnyH_take (i := 0) (v := ?_) rfl (by kernel_rfl) (by kernel_rfl) (by kernel_rfl) (fun _ _ _ h => h) (Or.inl ⟨by rfl, ?_⟩) (by assumption) ?_
                  rotate_left
                  · intro w9 hw9
                    obtain ⟨p9, rfl⟩ := hw9
                    first | (go_simp; done) | (go_simp; rfl)
                  simp only [Act.put, List.setIfInBounds_toArray, List.set_cons_zero, List.set_cons_succ]
                  refine wpAnyH_take (i := 1) (v := ?_) rfl (by kernel_rfl) (by kernel_rfl) (by kernel_rfl) (fun _ _ _ h => h) (Or.inl ⟨by rfl, ?_⟩) (by assumption) ?_
                  rotate_left
                  · intro w9 hw9
                    obtain ⟨p9, rfl⟩ := hw9
                    first | (go_simp; done) | (go_simp; rfl)
                  simp only [Act.put, List.setIfInBounds_toArray, List.set_cons_zero, List.set_cons_succ]
                  refine wpAnyH_take (i := 2) (v := ?_) rfl (by kernel_rfl) (by kernel_rfl) (by kernel_rfl) (fun _ _ _ h => h) (Or.inl ⟨by rfl, ?_⟩) (by assumption) ?_
                  rotate_left
                  · intro w9 hw9
                    obtain ⟨p9, rfl⟩ := hw9
                    first | (go_simp; done) | (go_simp; rfl)
                  simp only [Act.put, List.setIfInBounds_toArray, List.set_cons_zero, List.set_cons_succ]
                  refine wpAnyH_ready (rs := [3]) (by kernel_rfl) (by simp) ?_
                  refine AllReadyH.cons rfl (fun K hK => ?_) AllReadyH.nil
                  go_simp
                  refine hK.out _ _ (kinS_of ((belA _ _).drew)) (fun hHeld2 => ?_)
                  clear kc0 kc1 kr0 hHeld hHeld2 zs zr
                  have HWA : Hid (Below W.heap.size W (W.alloc (.cells #[.int .i64 x0] 3)).drew) := (belA _ _).drew
                  have cW : (W.alloc (.cells #[.int .i64 x0] 3)).drew.cell? ⟨W.heap.size, 0, none⟩ = some (.int .i64 x0) := by go_simp
                  have zW : Hid ((W.alloc (.cells #[.int .i64 x0] 3)).drew.heap.size = W.heap.size + 1) := by show _ = _; simp
                  generalize (W.alloc (.cells #[.int .i64 x0] 3)).drew = WA at *
                  refine held_quiet (C := fun w' => ∃ p : Kin WA.heap.size WA, w' = p.v) 4 38 (kinS_sub HWA.out (by have := zW.out; omega)) (by kernel_rfl) rfl (by kernel_rfl) ⟨⟨WA, Below.refl _ _⟩, rfl⟩ ?_
                  simp only [List.drop_succ_cons, List.drop_zero]
                  have hne := kinNe WA.heap.size WA
                  have GS := HKS.out.keep HWA.out
                  have GR := HKR.out.keep HWA.out
                  have kc0 : ∀ p : Kin WA.heap.size WA, p.v.cell? ⟨w.heap.size, 0, none⟩ = some (.int .i64 b) := kin_cell GS.lt (GS.cell 0)
                  have kc1 : ∀ p : Kin WA.heap.size WA, p.v.cell? ⟨w.heap.size, 1, none⟩ = some (.int .i64 d) := kin_cell GS.lt (GS.cell 1)
                  have kr0 : ∀ p : Kin WA.heap.size WA, p.v.cell? ⟨wr.heap.size, 0, none⟩ = some (.int .i64 x0) := kin_cell GR.lt (GR.cell 0)
                  have kr1 : ∀ p : Kin WA.heap.size WA, p.v.cell? ⟨wr.heap.size, 1, none⟩ = some (.int .i64 x1) := kin_cell GR.lt (GR.cell 1)
                  have kr2 : ∀ p : Kin WA.heap.size WA, p.v.cell? ⟨wr.heap.size, 2, none⟩ = some (.int .i64 x2) := kin_cell GR.lt (GR.cell 2)
                  have kr3 : ∀ p : Kin WA.heap.size WA, p.v.cell? ⟨wr.heap.size, 3, none⟩ = some (.bool true) := kin_cell GR.lt (GR.cell 3)
                  have CV : ∀ p : Kin WA.heap.size WA, Calls Try.prog 53 #[.agg #[.int .i64 b, .int .i64 d], .slice (some ⟨W.heap.size, 0, none⟩) 1 1] p.v fun e w' => e = .returned (.bool (true)) ∧ Below p.v.heap.size p.v w' := fun p => by
                    have h := lnumsA b d x0 W.heap.size p.v (by have := p.bel.size; have := zW.out; omega) (kin_cell (by have := zW.out; omega) cW p)
                    rw [HN.out] at h
                    exact h
                  repeat (go_big_quiet_step (first | (go_at_call 53; exact kin_of (Nat.le_refl _) (CV _)) | (go_at_call_of 54 (Value.int .i64 1000000, Value.int .i64 1); fail) | (go_at_call_of 54 (Value.int .i64 1); exact kin_same (C1 _)) | (go_at_call_of 54 (Value.int .i64 0); exact kin_same (C2 _))))
                  refine wpQuiet_nil ?_
                  intro w2 hw'
                  obtain ⟨⟨w9, hw9⟩, hw''⟩ := hw'
                  obtain rfl : w2 = w9 := hw''
                  have HB2 : Hid (Below w.heap.size w w2) := belt HB.out (belt HWb.out (belt HWA.out hw9))
                  have KS2 : Hid (Wire.Bk w2 w.heap.size #[.int .i64 b, .int .i64 d] 25) := HKS.out.keep (belt HWA.out hw9)
                  clear kc0 kc1 kr0 kr1 kr2 kr3 GS GR hne hw9 cW CV HWA HWb HKS HKR KS HB zW zWl
                  have HV : Hid (goodT b d ms = false) := goodT_no hlt (by rw [HT.out]; rw [HZ.out]; simp)
                  obtain ⟨s0, s1⟩ := Wire.Bk.c2 KS2.out
                  clear HT HPC0
                  go_wp2
                  go_ret
                  exact ⟨ret_bool HV.out.symm, HB2.out⟩
        ·
          have HPC : Hid (wr.cell? ⟨bk, off + (k - 1) * 4, none⟩ = some (.int .i64 px)) := HPC0.out (by omega)
          have hg0 : decide (0 < k) = true := decide_eq_true (by omega)
          have hkm : (k : Int) - 1 = ((k - 1 : Nat) : Int) := by omega
          have hkl : k - 1 < ms.length := by omega
          have HK1 : Hid (1 ≤ k) := by unfold Hid; omega
          have HK0 : Hid (decide (k = 0) = false) := decide_eq_false hk0
          clear hk0
          by_cases hpx : px < x0
          ·
            have HP : Hid (decide (px < x0) = true) := decide_eq_true hpx
            have hpd : decide (x0 ≤ px) = false := decide_eq_false (by omega)
            clear hpx
            cases hv1 : inB x1 1 1000000
            ·
              have Hv1 : Hid (inB x1 1 1000000 = false) := hv1
              rw [hv1] at C1
              clear hv1 C2
              go_wp2_with fail
              generalize hWe : (wr.alloc (.cells #[.int .i64 x0, .int .i64 x1, .int .i64 x2, .bool g] 37)) = W at *
              have HWb : Hid (Below wr.heap.size wr W) := by rw [← hWe]; exact belA _ _
              have HKR : Hid (Wire.Bk W wr.heap.size #[.int .i64 x0, .int .i64 x1, .int .i64 x2, .bool g] 37) := by rw [← hWe]; exact Wire.Bk.new _ _ _
              have zWl : Hid (W.heap.size = wr.heap.size + 1) := by rw [← hWe]; show _ = _; simp
              clear hWe c0 c1 c2 c3
              have HKS : Hid (Wire.Bk W w.heap.size #[.int .i64 b, .int .i64 d] 25) := KS.out.keep HWb.out
              have zs := Wire.Bk.lt HKS.out
              have zr := Wire.Bk.lt HKR.out
              have kc0 : ∀ p : Kin W.heap.size W, p.v.cell? ⟨w.heap.size, 0, none⟩ = some (.int .i64 b) := kin_cell zs (HKS.out.cell 0)
              have kc1 : ∀ p : Kin W.heap.size W, p.v.cell? ⟨w.heap.size, 1, none⟩ = some (.int .i64 d) := kin_cell zs (HKS.out.cell 1)
              have kr0 : ∀ p : Kin W.heap.size W, p.v.cell? ⟨wr.heap.size, 0, none⟩ = some (.int .i64 x0) := kin_cell zr (HKR.out.cell 0)
              refine wp_region_held_drew (S := KinS W.heap.size W) (by kernel_rfl) (kinS_self _ _) (fun hHeld => ?_)
              refine wpAnyH_take (i := 0) (v := ?_) rfl (by kernel_rfl) (by kernel_rfl) (by kernel_rfl) (fun _ _ _ h => h) (Or.inl ⟨by rfl, ?_⟩) (by assumption) ?_
              rotate_left
              · intro w9 hw9
                obtain ⟨p9, rfl⟩ := hw9
                first | (go_simp; done) | (go_simp; rfl)
              simp only [Act.put, List.setIfInBounds_toArray, List.set_cons_zero, List.set_cons_succ]
              refine wpAnyH_take (i := 1) (v := ?_) rfl (by kernel_rfl) (by kernel_rfl) (by kernel_rfl) (fun _ _ _ h => h) (Or.inl ⟨by rfl, ?_⟩) (by assumption) ?_
              rotate_left
              · intro w9 hw9
                obtain ⟨p9, rfl⟩ := hw9
                first | (go_simp; done) | (go_simp; rfl)
              simp only [Act.put, List.setIfInBounds_toArray, List.set_cons_zero, List.set_cons_succ]
              refine wpAnyH_take (i := 2) (v := ?_) rfl (by kernel_rfl) (by kernel_rfl) (by kernel_rfl) (fun _ _ _ h => h) (Or.inl ⟨by rfl, ?_⟩) (by assumption) ?_
              rotate_left
              · intro w9 hw9
                obtain ⟨p9, rfl⟩ := hw9
                first | (go_simp; done) | (go_simp; rfl)
              simp only [Act.put, List.setIfInBounds_toArray, List.set_cons_zero, List.set_cons_succ]
              refine wpAnyH_ready (rs := [3]) (by kernel_rfl) (by simp) ?_
              refine AllReadyH.cons rfl (fun K hK => ?_) AllReadyH.nil
              go_simp
              refine hK.out _ _ (kinS_of ((belA _ _).drew)) (fun hHeld2 => ?_)
              clear kc0 kc1 kr0 hHeld hHeld2 zs zr
              have HWA : Hid (Below W.heap.size W (W.alloc (.cells #[.int .i64 x0] 3)).drew) := (belA _ _).drew
              have cW : (W.alloc (.cells #[.int .i64 x0] 3)).drew.cell? ⟨W.heap.size, 0, none⟩ = some (.int .i64 x0) := by go_simp
              have zW : Hid ((W.alloc (.cells #[.int .i64 x0] 3)).drew.heap.size = W.heap.size + 1) := by show _ = _; simp
              generalize (W.alloc (.cells #[.int .i64 x0] 3)).drew = WA at *
              refine held_quiet (C := fun w' => ∃ p : Kin WA.heap.size WA, w' = p.v) 4 38 (kinS_sub HWA.out (by have := zW.out; omega)) (by kernel_rfl) rfl (by kernel_rfl) ⟨⟨WA, Below.refl _ _⟩, rfl⟩ ?_
              simp only [List.drop_succ_cons, List.drop_zero]
              have hne := kinNe WA.heap.size WA
              have GS := HKS.out.keep HWA.out
              have GR := HKR.out.keep HWA.out
              have kc0 : ∀ p : Kin WA.heap.size WA, p.v.cell? ⟨w.heap.size, 0, none⟩ = some (.int .i64 b) := kin_cell GS.lt (GS.cell 0)
              have kc1 : ∀ p : Kin WA.heap.size WA, p.v.cell? ⟨w.heap.size, 1, none⟩ = some (.int .i64 d) := kin_cell GS.lt (GS.cell 1)
              have kr0 : ∀ p : Kin WA.heap.size WA, p.v.cell? ⟨wr.heap.size, 0, none⟩ = some (.int .i64 x0) := kin_cell GR.lt (GR.cell 0)
              have kr1 : ∀ p : Kin WA.heap.size WA, p.v.cell? ⟨wr.heap.size, 1, none⟩ = some (.int .i64 x1) := kin_cell GR.lt (GR.cell 1)
              have kr2 : ∀ p : Kin WA.heap.size WA, p.v.cell? ⟨wr.heap.size, 2, none⟩ = some (.int .i64 x2) := kin_cell GR.lt (GR.cell 2)
              have kr3 : ∀ p : Kin WA.heap.size WA, p.v.cell? ⟨wr.heap.size, 3, none⟩ = some (.bool g) := kin_cell GR.lt (GR.cell 3)
              have kp0 : ∀ p : Kin WA.heap.size WA, p.v.cell? ⟨bk, off + (k - 1) * 4, none⟩ = some (.int .i64 px) := kin_cell (Nat.lt_of_lt_of_le HPL.out (Nat.le_trans HWb.out.size HWA.out.size)) ((World.cell?_of_block (a := ⟨bk, off + (k - 1) * 4, none⟩) (HWA.out.block bk (Nat.lt_of_lt_of_le HPL.out HWb.out.size))).trans ((World.cell?_of_block (a := ⟨bk, off + (k - 1) * 4, none⟩) (HWb.out.block bk HPL.out)).trans HPC.out))
              have CV : ∀ p : Kin WA.heap.size WA, Calls Try.prog 53 #[.agg #[.int .i64 b, .int .i64 d], .slice (some ⟨W.heap.size, 0, none⟩) 1 1] p.v fun e w' => e = .returned (.bool (true)) ∧ Below p.v.heap.size p.v w' := fun p => by
                have h := lnumsA b d x0 W.heap.size p.v (by have := p.bel.size; have := zW.out; omega) (kin_cell (by have := zW.out; omega) cW p)
                rw [HN.out] at h
                exact h
              repeat (go_big_quiet_step (first | (go_at_call 53; exact kin_of (Nat.le_refl _) (CV _)) | (go_at_call_of 54 (Value.int .i64 1000000, Value.int .i64 1); fail) | (go_at_call_of 54 (Value.int .i64 1); exact kin_same (C1 _)) | (go_at_call_of 54 (Value.int .i64 0); exact kin_same (C2 _))))
              refine wpQuiet_nil ?_
              intro w2 hw'
              obtain ⟨⟨w9, hw9⟩, hw''⟩ := hw'
              obtain rfl : w2 = w9 := hw''
              have HB2 : Hid (Below w.heap.size w w2) := belt HB.out (belt HWb.out (belt HWA.out hw9))
              have KS2 : Hid (Wire.Bk w2 w.heap.size #[.int .i64 b, .int .i64 d] 25) := HKS.out.keep (belt HWA.out hw9)
              clear kc0 kc1 kr0 kr1 kr2 kr3 kp0 GS GR hne hw9 cW CV HWA HWb HKS HKR KS HB zW zWl
              have HV : Hid (goodT b d ms = false) := goodT_no hlt (by rw [HT.out]; rw [Hv1.out]; simp)
              obtain ⟨s0, s1⟩ := Wire.Bk.c2 KS2.out
              clear HT HPC0
              go_wp2
              go_ret
              exact ⟨ret_bool HV.out.symm, HB2.out⟩
            ·
              have Hv1 : Hid (inB x1 1 1000000 = true) := hv1
              rw [hv1] at C1
              clear hv1
              cases hv2 : inB x2 0 1000000
              ·
                have Hv2 : Hid (inB x2 0 1000000 = false) := hv2
                rw [hv2] at C2
                clear hv2
                go_wp2_with fail
                generalize hWe : (wr.alloc (.cells #[.int .i64 x0, .int .i64 x1, .int .i64 x2, .bool g] 37)) = W at *
                have HWb : Hid (Below wr.heap.size wr W) := by rw [← hWe]; exact belA _ _
                have HKR : Hid (Wire.Bk W wr.heap.size #[.int .i64 x0, .int .i64 x1, .int .i64 x2, .bool g] 37) := by rw [← hWe]; exact Wire.Bk.new _ _ _
                have zWl : Hid (W.heap.size = wr.heap.size + 1) := by rw [← hWe]; show _ = _; simp
                clear hWe c0 c1 c2 c3
                have HKS : Hid (Wire.Bk W w.heap.size #[.int .i64 b, .int .i64 d] 25) := KS.out.keep HWb.out
                have zs := Wire.Bk.lt HKS.out
                have zr := Wire.Bk.lt HKR.out
                have kc0 : ∀ p : Kin W.heap.size W, p.v.cell? ⟨w.heap.size, 0, none⟩ = some (.int .i64 b) := kin_cell zs (HKS.out.cell 0)
                have kc1 : ∀ p : Kin W.heap.size W, p.v.cell? ⟨w.heap.size, 1, none⟩ = some (.int .i64 d) := kin_cell zs (HKS.out.cell 1)
                have kr0 : ∀ p : Kin W.heap.size W, p.v.cell? ⟨wr.heap.size, 0, none⟩ = some (.int .i64 x0) := kin_cell zr (HKR.out.cell 0)
                refine wp_region_held_drew (S := KinS W.heap.size W) (by kernel_rfl) (kinS_self _ _) (fun hHeld => ?_)
                refine wpAnyH_take (i := 0) (v := ?_) rfl (by kernel_rfl) (by kernel_rfl) (by kernel_rfl) (fun _ _ _ h => h) (Or.inl ⟨by rfl, ?_⟩) (by assumption) ?_
                rotate_left
                · intro w9 hw9
                  obtain ⟨p9, rfl⟩ := hw9
                  first | (go_simp; done) | (go_simp; rfl)
                simp only [Act.put, List.setIfInBounds_toArray, List.set_cons_zero, List.set_cons_succ]
                refine wpAnyH_take (i := 1) (v := ?_) rfl (by kernel_rfl) (by kernel_rfl) (by kernel_rfl) (fun _ _ _ h => h) (Or.inl ⟨by rfl, ?_⟩) (by assumption) ?_
                rotate_left
                · intro w9 hw9
                  obtain ⟨p9, rfl⟩ := hw9
                  first | (go_simp; done) | (go_simp; rfl)
                simp only [Act.put, List.setIfInBounds_toArray, List.set_cons_zero, List.set_cons_succ]
                refine wpAnyH_take (i := 2) (v := ?_) rfl (by kernel_rfl) (by kernel_rfl) (by kernel_rfl) (fun _ _ _ h => h) (Or.inl ⟨by rfl, ?_⟩) (by assumption) ?_
                rotate_left
                · intro w9 hw9
                  obtain ⟨p9, rfl⟩ := hw9
                  first | (go_simp; done) | (go_simp; rfl)
                simp only [Act.put, List.setIfInBounds_toArray, List.set_cons_zero, List.set_cons_succ]
                refine wpAnyH_ready (rs := [3]) (by kernel_rfl) (by simp) ?_
                refine AllReadyH.cons rfl (fun K hK => ?_) AllReadyH.nil
                go_simp
                refine hK.out _ _ (kinS_of ((belA _ _).drew)) (fun hHeld2 => ?_)
                clear kc0 kc1 kr0 hHeld hHeld2 zs zr
                have HWA : Hid (Below W.heap.size W (W.alloc (.cells #[.int .i64 x0] 3)).drew) := (belA _ _).drew
                have cW : (W.alloc (.cells #[.int .i64 x0] 3)).drew.cell? ⟨W.heap.size, 0, none⟩ = some (.int .i64 x0) := by go_simp
                have zW : Hid ((W.alloc (.cells #[.int .i64 x0] 3)).drew.heap.size = W.heap.size + 1) := by show _ = _; simp
                generalize (W.alloc (.cells #[.int .i64 x0] 3)).drew = WA at *
                refine held_quiet (C := fun w' => ∃ p : Kin WA.heap.size WA, w' = p.v) 4 38 (kinS_sub HWA.out (by have := zW.out; omega)) (by kernel_rfl) rfl (by kernel_rfl) ⟨⟨WA, Below.refl _ _⟩, rfl⟩ ?_
                simp only [List.drop_succ_cons, List.drop_zero]
                have hne := kinNe WA.heap.size WA
                have GS := HKS.out.keep HWA.out
                have GR := HKR.out.keep HWA.out
                have kc0 : ∀ p : Kin WA.heap.size WA, p.v.cell? ⟨w.heap.size, 0, none⟩ = some (.int .i64 b) := kin_cell GS.lt (GS.cell 0)
                have kc1 : ∀ p : Kin WA.heap.size WA, p.v.cell? ⟨w.heap.size, 1, none⟩ = some (.int .i64 d) := kin_cell GS.lt (GS.cell 1)
                have kr0 : ∀ p : Kin WA.heap.size WA, p.v.cell? ⟨wr.heap.size, 0, none⟩ = some (.int .i64 x0) := kin_cell GR.lt (GR.cell 0)
                have kr1 : ∀ p : Kin WA.heap.size WA, p.v.cell? ⟨wr.heap.size, 1, none⟩ = some (.int .i64 x1) := kin_cell GR.lt (GR.cell 1)
                have kr2 : ∀ p : Kin WA.heap.size WA, p.v.cell? ⟨wr.heap.size, 2, none⟩ = some (.int .i64 x2) := kin_cell GR.lt (GR.cell 2)
                have kr3 : ∀ p : Kin WA.heap.size WA, p.v.cell? ⟨wr.heap.size, 3, none⟩ = some (.bool g) := kin_cell GR.lt (GR.cell 3)
                have kp0 : ∀ p : Kin WA.heap.size WA, p.v.cell? ⟨bk, off + (k - 1) * 4, none⟩ = some (.int .i64 px) := kin_cell (Nat.lt_of_lt_of_le HPL.out (Nat.le_trans HWb.out.size HWA.out.size)) ((World.cell?_of_block (a := ⟨bk, off + (k - 1) * 4, none⟩) (HWA.out.block bk (Nat.lt_of_lt_of_le HPL.out HWb.out.size))).trans ((World.cell?_of_block (a := ⟨bk, off + (k - 1) * 4, none⟩) (HWb.out.block bk HPL.out)).trans HPC.out))
                have CV : ∀ p : Kin WA.heap.size WA, Calls Try.prog 53 #[.agg #[.int .i64 b, .int .i64 d], .slice (some ⟨W.heap.size, 0, none⟩) 1 1] p.v fun e w' => e = .returned (.bool (true)) ∧ Below p.v.heap.size p.v w' := fun p => by
                  have h := lnumsA b d x0 W.heap.size p.v (by have := p.bel.size; have := zW.out; omega) (kin_cell (by have := zW.out; omega) cW p)
                  rw [HN.out] at h
                  exact h
                repeat (go_big_quiet_step (first | (go_at_call 53; exact kin_of (Nat.le_refl _) (CV _)) | (go_at_call_of 54 (Value.int .i64 1000000, Value.int .i64 1); fail) | (go_at_call_of 54 (Value.int .i64 1); exact kin_same (C1 _)) | (go_at_call_of 54 (Value.int .i64 0); exact kin_same (C2 _))))
                refine wpQuiet_nil ?_
                intro w2 hw'
                obtain ⟨⟨w9, hw9⟩, hw''⟩ := hw'
                obtain rfl : w2 = w9 := hw''
                have HB2 : Hid (Below w.heap.size w w2) := belt HB.out (belt HWb.out (belt HWA.out hw9))
                have KS2 : Hid (Wire.Bk w2 w.heap.size #[.int .i64 b, .int .i64 d] 25) := HKS.out.keep (belt HWA.out hw9)
                clear kc0 kc1 kr0 kr1 kr2 kr3 kp0 GS GR hne hw9 cW CV HWA HWb HKS HKR KS HB zW zWl
                have HV : Hid (goodT b d ms = false) := goodT_no hlt (by rw [HT.out]; rw [Hv2.out]; simp)
                obtain ⟨s0, s1⟩ := Wire.Bk.c2 KS2.out
                clear HT HPC0
                go_wp2
                go_ret
                exact ⟨ret_bool HV.out.symm, HB2.out⟩
              ·
                have Hv2 : Hid (inB x2 0 1000000 = true) := hv2
                rw [hv2] at C2
                clear hv2
                cases g
                ·
                  have HS1 : Hid (∀ i, i < k + 1 → tokB b d ms i = true) := fun i hi => by
                    by_cases hik : i = k
                    · subst hik; rw [HT.out, HN.out, Hv1.out, Hv2.out]; rw [HP.out]; simp
                    · exact HS.out i (by omega)
                  go_wp2_with fail
                  generalize hWe : (wr.alloc (.cells #[.int .i64 x0, .int .i64 x1, .int .i64 x2, .bool false] 37)) = W at *
                  have HWb : Hid (Below wr.heap.size wr W) := by rw [← hWe]; exact belA _ _
                  have HKR : Hid (Wire.Bk W wr.heap.size #[.int .i64 x0, .int .i64 x1, .int .i64 x2, .bool false] 37) := by rw [← hWe]; exact Wire.Bk.new _ _ _
                  have zWl : Hid (W.heap.size = wr.heap.size + 1) := by rw [← hWe]; show _ = _; simp
                  clear hWe c0 c1 c2 c3
                  have HKS : Hid (Wire.Bk W w.heap.size #[.int .i64 b, .int .i64 d] 25) := KS.out.keep HWb.out
                  have zs := Wire.Bk.lt HKS.out
                  have zr := Wire.Bk.lt HKR.out
                  have kc0 : ∀ p : Kin W.heap.size W, p.v.cell? ⟨w.heap.size, 0, none⟩ = some (.int .i64 b) := kin_cell zs (HKS.out.cell 0)
                  have kc1 : ∀ p : Kin W.heap.size W, p.v.cell? ⟨w.heap.size, 1, none⟩ = some (.int .i64 d) := kin_cell zs (HKS.out.cell 1)
                  have kr0 : ∀ p : Kin W.heap.size W, p.v.cell? ⟨wr.heap.size, 0, none⟩ = some (.int .i64 x0) := kin_cell zr (HKR.out.cell 0)
                  refine wp_region_held_drew (S := KinS W.heap.size W) (by kernel_rfl) (kinS_self _ _) (fun hHeld => ?_)
                  refine wpAnyH_take (i := 0) (v := ?_) rfl (by kernel_rfl) (by kernel_rfl) (by kernel_rfl) (fun _ _ _ h => h) (Or.inl ⟨by rfl, ?_⟩) (by assumption) ?_
                  rotate_left
                  · intro w9 hw9
                    obtain ⟨p9, rfl⟩ := hw9
                    first | (go_simp; done) | (go_simp; rfl)
                  simp only [Act.put, List.setIfInBounds_toArray, List.set_cons_zero, List.set_cons_succ]
                  refine wpAnyH_take (i := 1) (v := ?_) rfl (by kernel_rfl) (by kernel_rfl) (by kernel_rfl) (fun _ _ _ h => h) (Or.inl ⟨by rfl, ?_⟩) (by assumption) ?_
                  rotate_left
                  · intro w9 hw9
                    obtain ⟨p9, rfl⟩ := hw9
                    first | (go_simp; done) | (go_simp; rfl)
                  simp only [Act.put, List.setIfInBounds_toArray, List.set_cons_zero, List.set_cons_succ]
                  refine wpAnyH_take (i := 2) (v := ?_) rfl (by kernel_rfl) (by kernel_rfl) (by kernel_rfl) (fun _ _ _ h => h) (Or.inl ⟨by rfl, ?_⟩) (by assumption) ?_
                  rotate_left
                  · intro w9 hw9
                    obtain ⟨p9, rfl⟩ := hw9
                    first | (go_simp; done) | (go_simp; rfl)
                  simp only [Act.put, List.setIfInBounds_toArray, List.set_cons_zero, List.set_cons_succ]
                  refine wpAnyH_ready (rs := [3]) (by kernel_rfl) (by simp) ?_
                  refine AllReadyH.cons rfl (fun K hK => ?_) AllReadyH.nil
                  go_simp
                  refine hK.out _ _ (kinS_of ((belA _ _).drew)) (fun hHeld2 => ?_)
                  clear kc0 kc1 kr0 hHeld hHeld2 zs zr
                  have HWA : Hid (Below W.heap.size W (W.alloc (.cells #[.int .i64 x0] 3)).drew) := (belA _ _).drew
                  have cW : (W.alloc (.cells #[.int .i64 x0] 3)).drew.cell? ⟨W.heap.size, 0, none⟩ = some (.int .i64 x0) := by go_simp
                  have zW : Hid ((W.alloc (.cells #[.int .i64 x0] 3)).drew.heap.size = W.heap.size + 1) := by show _ = _; simp
                  generalize (W.alloc (.cells #[.int .i64 x0] 3)).drew = WA at *
                  refine held_quiet (C := fun w' => ∃ p : Kin WA.heap.size WA, w' = p.v) 4 38 (kinS_sub HWA.out (by have := zW.out; omega)) (by kernel_rfl) rfl (by kernel_rfl) ⟨⟨WA, Below.refl _ _⟩, rfl⟩ ?_
                  simp only [List.drop_succ_cons, List.drop_zero]
                  have hne := kinNe WA.heap.size WA
                  have GS := HKS.out.keep HWA.out
                  have GR := HKR.out.keep HWA.out
                  have kc0 : ∀ p : Kin WA.heap.size WA, p.v.cell? ⟨w.heap.size, 0, none⟩ = some (.int .i64 b) := kin_cell GS.lt (GS.cell 0)
                  have kc1 : ∀ p : Kin WA.heap.size WA, p.v.cell? ⟨w.heap.size, 1, none⟩ = some (.int .i64 d) := kin_cell GS.lt (GS.cell 1)
                  have kr0 : ∀ p : Kin WA.heap.size WA, p.v.cell? ⟨wr.heap.size, 0, none⟩ = some (.int .i64 x0) := kin_cell GR.lt (GR.cell 0)
                  have kr1 : ∀ p : Kin WA.heap.size WA, p.v.cell? ⟨wr.heap.size, 1, none⟩ = some (.int .i64 x1) := kin_cell GR.lt (GR.cell 1)
                  have kr2 : ∀ p : Kin WA.heap.size WA, p.v.cell? ⟨wr.heap.size, 2, none⟩ = some (.int .i64 x2) := kin_cell GR.lt (GR.cell 2)
                  have kr3 : ∀ p : Kin WA.heap.size WA, p.v.cell? ⟨wr.heap.size, 3, none⟩ = some (.bool false) := kin_cell GR.lt (GR.cell 3)
                  have kp0 : ∀ p : Kin WA.heap.size WA, p.v.cell? ⟨bk, off + (k - 1) * 4, none⟩ = some (.int .i64 px) := kin_cell (Nat.lt_of_lt_of_le HPL.out (Nat.le_trans HWb.out.size HWA.out.size)) ((World.cell?_of_block (a := ⟨bk, off + (k - 1) * 4, none⟩) (HWA.out.block bk (Nat.lt_of_lt_of_le HPL.out HWb.out.size))).trans ((World.cell?_of_block (a := ⟨bk, off + (k - 1) * 4, none⟩) (HWb.out.block bk HPL.out)).trans HPC.out))
                  have CV : ∀ p : Kin WA.heap.size WA, Calls Try.prog 53 #[.agg #[.int .i64 b, .int .i64 d], .slice (some ⟨W.heap.size, 0, none⟩) 1 1] p.v fun e w' => e = .returned (.bool (true)) ∧ Below p.v.heap.size p.v w' := fun p => by
                    have h := lnumsA b d x0 W.heap.size p.v (by have := p.bel.size; have := zW.out; omega) (kin_cell (by have := zW.out; omega) cW p)
                    rw [HN.out] at h
                    exact h
                  repeat (go_big_quiet_step (first | (go_at_call 53; exact kin_of (Nat.le_refl _) (CV _)) | (go_at_call_of 54 (Value.int .i64 1000000, Value.int .i64 1); fail) | (go_at_call_of 54 (Value.int .i64 1); exact kin_same (C1 _)) | (go_at_call_of 54 (Value.int .i64 0); exact kin_same (C2 _))))
                  refine wpQuiet_nil ?_
                  intro w2 hw'
                  obtain ⟨⟨w9, hw9⟩, hw''⟩ := hw'
                  obtain rfl : w2 = w9 := hw''
                  have HB2 : Hid (Below w.heap.size w w2) := belt HB.out (belt HWb.out (belt HWA.out hw9))
                  have KS2 : Hid (Wire.Bk w2 w.heap.size #[.int .i64 b, .int .i64 d] 25) := HKS.out.keep (belt HWA.out hw9)
                  clear kc0 kc1 kr0 kr1 kr2 kr3 kp0 GS GR hne hw9 cW CV HWA HWb HKS HKR KS HB zW zWl
                  obtain ⟨s0, s1⟩ := Wire.Bk.c2 KS2.out
                  clear HT HPC0
                  go_wp2
                  go_roundw
                  case rel => exact ⟨k + 1, by omega, by go_num, HS1, HB2, KS2⟩
                  case measure => simp [intOf]; omega
                ·
                  by_cases hz : x2 = 0
                  ·
                    subst hz
                    have HS1 : Hid (∀ i, i < k + 1 → tokB b d ms i = true) := fun i hi => by
                      by_cases hik : i = k
                      · subst hik; rw [HT.out, HN.out, Hv1.out, Hv2.out]; rw [HP.out]; simp
                      · exact HS.out i (by omega)
                    go_wp2_with fail
                    generalize hWe : (wr.alloc (.cells #[.int .i64 x0, .int .i64 x1, .int .i64 0, .bool true] 37)) = W at *
                    have HWb : Hid (Below wr.heap.size wr W) := by rw [← hWe]; exact belA _ _
                    have HKR : Hid (Wire.Bk W wr.heap.size #[.int .i64 x0, .int .i64 x1, .int .i64 0, .bool true] 37) := by rw [← hWe]; exact Wire.Bk.new _ _ _
                    have zWl : Hid (W.heap.size = wr.heap.size + 1) := by rw [← hWe]; show _ = _; simp
                    clear hWe c0 c1 c2 c3
                    have HKS : Hid (Wire.Bk W w.heap.size #[.int .i64 b, .int .i64 d] 25) := KS.out.keep HWb.out
                    have zs := Wire.Bk.lt HKS.out
                    have zr := Wire.Bk.lt HKR.out
                    have kc0 : ∀ p : Kin W.heap.size W, p.v.cell? ⟨w.heap.size, 0, none⟩ = some (.int .i64 b) := kin_cell zs (HKS.out.cell 0)
                    have kc1 : ∀ p : Kin W.heap.size W, p.v.cell? ⟨w.heap.size, 1, none⟩ = some (.int .i64 d) := kin_cell zs (HKS.out.cell 1)
                    have kr0 : ∀ p : Kin W.heap.size W, p.v.cell? ⟨wr.heap.size, 0, none⟩ = some (.int .i64 x0) := kin_cell zr (HKR.out.cell 0)
                    refine wp_region_held_drew (S := KinS W.heap.size W) (by kernel_rfl) (kinS_self _ _) (fun hHeld => ?_)
                    refine wpAnyH_take (i := 0) (v := ?_) rfl (by kernel_rfl) (by kernel_rfl) (by kernel_rfl) (fun _ _ _ h => h) (Or.inl ⟨by rfl, ?_⟩) (by assumption) ?_
                    rotate_left
                    · intro w9 hw9
                      obtain ⟨p9, rfl⟩ := hw9
                      first | (go_simp; done) | (go_simp; rfl)
                    simp only [Act.put, List.setIfInBounds_toArray, List.set_cons_zero, List.set_cons_succ]
                    refine wpAnyH_take (i := 1) (v := ?_) rfl (by kernel_rfl) (by kernel_rfl) (by kernel_rfl) (fun _ _ _ h => h) (Or.inl ⟨by rfl, ?_⟩) (by assumption) ?_
                    rotate_left
                    · intro w9 hw9
                      obtain ⟨p9, rfl⟩ := hw9
                      first | (go_simp; done) | (go_simp; rfl)
                    simp only [Act.put, List.setIfInBounds_toArray, List.set_cons_zero, List.set_cons_succ]
                    refine wpAnyH_take (i := 2) (v := ?_) rfl (by kernel_rfl) (by kernel_rfl) (by kernel_rfl) (fun _ _ _ h => h) (Or.inl ⟨by rfl, ?_⟩) (by assumption) ?_
                    rotate_left
                    · intro w9 hw9
                      obtain ⟨p9, rfl⟩ := hw9
                      first | (go_simp; done) | (go_simp; rfl)
                    simp only [Act.put, List.setIfInBounds_toArray, List.set_cons_zero, List.set_cons_succ]
                    refine wpAnyH_ready (rs := [3]) (by kernel_rfl) (by simp) ?_
                    refine AllReadyH.cons rfl (fun K hK => ?_) AllReadyH.nil
                    go_simp
                    refine hK.out _ _ (kinS_of ((belA _ _).drew)) (fun hHeld2 => ?_)
                    clear kc0 kc1 kr0 hHeld hHeld2 zs zr
                    have HWA : Hid (Below W.heap.size W (W.alloc (.cells #[.int .i64 x0] 3)).drew) := (belA _ _).drew
                    have cW : (W.alloc (.cells #[.int .i64 x0] 3)).drew.cell? ⟨W.heap.size, 0, none⟩ = some (.int .i64 x0) := by go_simp
                    have zW : Hid ((W.alloc (.cells #[.int .i64 x0] 3)).drew.heap.size = W.heap.size + 1) := by show _ = _; simp
                    generalize (W.alloc (.cells #[.int .i64 x0] 3)).drew = WA at *
                    refine held_quiet (C := fun w' => ∃ p : Kin WA.heap.size WA, w' = p.v) 4 38 (kinS_sub HWA.out (by have := zW.out; omega)) (by kernel_rfl) rfl (by kernel_rfl) ⟨⟨WA, Below.refl _ _⟩, rfl⟩ ?_
                    simp only [List.drop_succ_cons, List.drop_zero]
                    have hne := kinNe WA.heap.size WA
                    have GS := HKS.out.keep HWA.out
                    have GR := HKR.out.keep HWA.out
                    have kc0 : ∀ p : Kin WA.heap.size WA, p.v.cell? ⟨w.heap.size, 0, none⟩ = some (.int .i64 b) := kin_cell GS.lt (GS.cell 0)
                    have kc1 : ∀ p : Kin WA.heap.size WA, p.v.cell? ⟨w.heap.size, 1, none⟩ = some (.int .i64 d) := kin_cell GS.lt (GS.cell 1)
                    have kr0 : ∀ p : Kin WA.heap.size WA, p.v.cell? ⟨wr.heap.size, 0, none⟩ = some (.int .i64 x0) := kin_cell GR.lt (GR.cell 0)
                    have kr1 : ∀ p : Kin WA.heap.size WA, p.v.cell? ⟨wr.heap.size, 1, none⟩ = some (.int .i64 x1) := kin_cell GR.lt (GR.cell 1)
                    have kr2 : ∀ p : Kin WA.heap.size WA, p.v.cell? ⟨wr.heap.size, 2, none⟩ = some (.int .i64 0) := kin_cell GR.lt (GR.cell 2)
                    have kr3 : ∀ p : Kin WA.heap.size WA, p.v.cell? ⟨wr.heap.size, 3, none⟩ = some (.bool true) := kin_cell GR.lt (GR.cell 3)
                    have kp0 : ∀ p : Kin WA.heap.size WA, p.v.cell? ⟨bk, off + (k - 1) * 4, none⟩ = some (.int .i64 px) := kin_cell (Nat.lt_of_lt_of_le HPL.out (Nat.le_trans HWb.out.size HWA.out.size)) ((World.cell?_of_block (a := ⟨bk, off + (k - 1) * 4, none⟩) (HWA.out.block bk (Nat.lt_of_lt_of_le HPL.out HWb.out.size))).trans ((World.cell?_of_block (a := ⟨bk, off + (k - 1) * 4, none⟩) (HWb.out.block bk HPL.out)).trans HPC.out))
                    have CV : ∀ p : Kin WA.heap.size WA, Calls Try.prog 53 #[.agg #[.int .i64 b, .int .i64 d], .slice (some ⟨W.heap.size, 0, none⟩) 1 1] p.v fun e w' => e = .returned (.bool (true)) ∧ Below p.v.heap.size p.v w' := fun p => by
                      have h := lnumsA b d x0 W.heap.size p.v (by have := p.bel.size; have := zW.out; omega) (kin_cell (by have := zW.out; omega) cW p)
                      rw [HN.out] at h
                      exact h
                    repeat (go_big_quiet_step (first | (go_at_call 53; exact kin_of (Nat.le_refl _) (CV _)) | (go_at_call_of 54 (Value.int .i64 1000000, Value.int .i64 1); fail) | (go_at_call_of 54 (Value.int .i64 1); exact kin_same (C1 _)) | (go_at_call_of 54 (Value.int .i64 0); exact kin_same (C2 _))))
                    refine wpQuiet_nil ?_
                    intro w2 hw'
                    obtain ⟨⟨w9, hw9⟩, hw''⟩ := hw'
                    obtain rfl : w2 = w9 := hw''
                    have HB2 : Hid (Below w.heap.size w w2) := belt HB.out (belt HWb.out (belt HWA.out hw9))
                    have KS2 : Hid (Wire.Bk w2 w.heap.size #[.int .i64 b, .int .i64 d] 25) := HKS.out.keep (belt HWA.out hw9)
                    clear kc0 kc1 kr0 kr1 kr2 kr3 kp0 GS GR hne hw9 cW CV HWA HWb HKS HKR KS HB zW zWl
                    obtain ⟨s0, s1⟩ := Wire.Bk.c2 KS2.out
                    clear HT HPC0
                    go_wp2
                    go_roundw
                    case rel => exact ⟨k + 1, by omega, by go_num, HS1, HB2, KS2⟩
                    case measure => simp [intOf]; omega
                  ·
                    have hz2 : (x2 != 0) = true := by simpa using hz
                    have HZ : Hid ((x2 != 0) = true) := hz2
                    clear hz
                    go_wp2_with fail
                    generalize hWe : (wr.alloc (.cells #[.int .i64 x0, .int .i64 x1, .int .i64 x2, .bool true] 37)) = W at *
                    have HWb : Hid (Below wr.heap.size wr W) := by rw [← hWe]; exact belA _ _
                    have HKR : Hid (Wire.Bk W wr.heap.size #[.int .i64 x0, .int .i64 x1, .int .i64 x2, .bool true] 37) := by rw [← hWe]; exact Wire.Bk.new _ _ _
                    have zWl : Hid (W.heap.size = wr.heap.size + 1) := by rw [← hWe]; show _ = _; simp
                    clear hWe c0 c1 c2 c3
                    have HKS : Hid (Wire.Bk W w.heap.size #[.int .i64 b, .int .i64 d] 25) := KS.out.keep HWb.out
                    have zs := Wire.Bk.lt HKS.out
                    have zr := Wire.Bk.lt HKR.out
                    have kc0 : ∀ p : Kin W.heap.size W, p.v.cell? ⟨w.heap.size, 0, none⟩ = some (.int .i64 b) := kin_cell zs (HKS.out.cell 0)
                    have kc1 : ∀ p : Kin W.heap.size W, p.v.cell? ⟨w.heap.size, 1, none⟩ = some (.int .i64 d) := kin_cell zs (HKS.out.cell 1)
                    have kr0 : ∀ p : Kin W.heap.size W, p.v.cell? ⟨wr.heap.size, 0, none⟩ = some (.int .i64 x0) := kin_cell zr (HKR.out.cell 0)
                    refine wp_region_held_drew (S := KinS W.heap.size W) (by kernel_rfl) (kinS_self _ _) (fun hHeld => ?_)
                    refine wpAnyH_take (i := 0) (v := ?_) rfl (by kernel_rfl) (by kernel_rfl) (by kernel_rfl) (fun _ _ _ h => h) (Or.inl ⟨by rfl, ?_⟩) (by assumption) ?_
                    rotate_left
                    · intro w9 hw9
                      obtain ⟨p9, rfl⟩ := hw9
                      first | (go_simp; done) | (go_simp; rfl)
                    simp only [Act.put, List.setIfInBounds_toArray, List.set_cons_zero, List.set_cons_succ]
                    refine wpAnyH_take (i := 1) (v := ?_) rfl (by kernel_rfl) (by kernel_rfl) (by kernel_rfl) (fun _ _ _ h => h) (Or.inl ⟨by rfl, ?_⟩) (by assumption) ?_
                    rotate_left
                    · intro w9 hw9
                      obtain ⟨p9, rfl⟩ := hw9
                      first | (go_simp; done) | (go_simp; rfl)
                    simp only [Act.put, List.setIfInBounds_toArray, List.set_cons_zero, List.set_cons_succ]
                    refine wpAnyH_take (i := 2) (v := ?_) rfl (by kernel_rfl) (by kernel_rfl) (by kernel_rfl) (fun _ _ _ h => h) (Or.inl ⟨by rfl, ?_⟩) (by assumption) ?_
                    rotate_left
                    · intro w9 hw9
                      obtain ⟨p9, rfl⟩ := hw9
                      first | (go_simp; done) | (go_simp; rfl)
                    simp only [Act.put, List.setIfInBounds_toArray, List.set_cons_zero, List.set_cons_succ]
                    refine wpAnyH_ready (rs := [3]) (by kernel_rfl) (by simp) ?_
                    refine AllReadyH.cons rfl (fun K hK => ?_) AllReadyH.nil
                    go_simp
                    refine hK.out _ _ (kinS_of ((belA _ _).drew)) (fun hHeld2 => ?_)
                    clear kc0 kc1 kr0 hHeld hHeld2 zs zr
                    have HWA : Hid (Below W.heap.size W (W.alloc (.cells #[.int .i64 x0] 3)).drew) := (belA _ _).drew
                    have cW : (W.alloc (.cells #[.int .i64 x0] 3)).drew.cell? ⟨W.heap.size, 0, none⟩ = some (.int .i64 x0) := by go_simp
                    have zW : Hid ((W.alloc (.cells #[.int .i64 x0] 3)).drew.heap.size = W.heap.size + 1) := by show _ = _; simp
                    generalize (W.alloc (.cells #[.int .i64 x0] 3)).drew = WA at *
                    refine held_quiet (C := fun w' => ∃ p : Kin WA.heap.size WA, w' = p.v) 4 38 (kinS_sub HWA.out (by have := zW.out; omega)) (by kernel_rfl) rfl (by kernel_rfl) ⟨⟨WA, Below.refl _ _⟩, rfl⟩ ?_
                    simp only [List.drop_succ_cons, List.drop_zero]
                    have hne := kinNe WA.heap.size WA
                    have GS := HKS.out.keep HWA.out
                    have GR := HKR.out.keep HWA.out
                    have kc0 : ∀ p : Kin WA.heap.size WA, p.v.cell? ⟨w.heap.size, 0, none⟩ = some (.int .i64 b) := kin_cell GS.lt (GS.cell 0)
                    have kc1 : ∀ p : Kin WA.heap.size WA, p.v.cell? ⟨w.heap.size, 1, none⟩ = some (.int .i64 d) := kin_cell GS.lt (GS.cell 1)
                    have kr0 : ∀ p : Kin WA.heap.size WA, p.v.cell? ⟨wr.heap.size, 0, none⟩ = some (.int .i64 x0) := kin_cell GR.lt (GR.cell 0)
                    have kr1 : ∀ p : Kin WA.heap.size WA, p.v.cell? ⟨wr.heap.size, 1, none⟩ = some (.int .i64 x1) := kin_cell GR.lt (GR.cell 1)
                    have kr2 : ∀ p : Kin WA.heap.size WA, p.v.cell? ⟨wr.heap.size, 2, none⟩ = some (.int .i64 x2) := kin_cell GR.lt (GR.cell 2)
                    have kr3 : ∀ p : Kin WA.heap.size WA, p.v.cell? ⟨wr.heap.size, 3, none⟩ = some (.bool true) := kin_cell GR.lt (GR.cell 3)
                    have kp0 : ∀ p : Kin WA.heap.size WA, p.v.cell? ⟨bk, off + (k - 1) * 4, none⟩ = some (.int .i64 px) := kin_cell (Nat.lt_of_lt_of_le HPL.out (Nat.le_trans HWb.out.size HWA.out.size)) ((World.cell?_of_block (a := ⟨bk, off + (k - 1) * 4, none⟩) (HWA.out.block bk (Nat.lt_of_lt_of_le HPL.out HWb.out.size))).trans ((World.cell?_of_block (a := ⟨bk, off + (k - 1) * 4, none⟩) (HWb.out.block bk HPL.out)).trans HPC.out))
                    have CV : ∀ p : Kin WA.heap.size WA, Calls Try.prog 53 #[.agg #[.int .i64 b, .int .i64 d], .slice (some ⟨W.heap.size, 0, none⟩) 1 1] p.v fun e w' => e = .returned (.bool (true)) ∧ Below p.v.heap.size p.v w' := fun p => by
                      have h := lnumsA b d x0 W.heap.size p.v (by have := p.bel.size; have := zW.out; omega) (kin_cell (by have := zW.out; omega) cW p)
                      rw [HN.out] at h
                      exact h
                    repeat (go_big_quiet_step (first | (go_at_call 53; exact kin_of (Nat.le_refl _) (CV _)) | (go_at_call_of 54 (Value.int .i64 1000000, Value.int .i64 1); fail) | (go_at_call_of 54 (Value.int .i64 1); exact kin_same (C1 _)) | (go_at_call_of 54 (Value.int .i64 0); exact kin_same (C2 _))))
                    refine wpQuiet_nil ?_
                    intro w2 hw'
                    obtain ⟨⟨w9, hw9⟩, hw''⟩ := hw'
                    obtain rfl : w2 = w9 := hw''
                    have HB2 : Hid (Below w.heap.size w w2) := belt HB.out (belt HWb.out (belt HWA.out hw9))
                    have KS2 : Hid (Wire.Bk w2 w.heap.size #[.int .i64 b, .int .i64 d] 25) := HKS.out.keep (belt HWA.out hw9)
                    clear kc0 kc1 kr0 kr1 kr2 kr3 kp0 GS GR hne hw9 cW CV HWA HWb HKS HKR KS HB zW zWl
                    have HV : Hid (goodT b d ms = false) := goodT_no hlt (by rw [HT.out]; rw [HZ.out]; simp)
                    obtain ⟨s0, s1⟩ := Wire.Bk.c2 KS2.out
                    clear HT HPC0
                    go_wp2
                    go_ret
                    exact ⟨ret_bool HV.out.symm, HB2.out⟩
          ·
            have HP : Hid (decide (px < x0) = false) := decide_eq_false hpx
            have hpd : decide (x0 ≤ px) = true := decide_eq_true (by omega)
            clear hpx C1 C2
            go_wp2_with fail
            generalize hWe : (wr.alloc (.cells #[.int .i64 x0, .int .i64 x1, .int .i64 x2, .bool g] 37)) = W at *
            have HWb : Hid (Below wr.heap.size wr W) := by rw [← hWe]; exact belA _ _
            have HKR : Hid (Wire.Bk W wr.heap.size #[.int .i64 x0, .int .i64 x1, .int .i64 x2, .bool g] 37) := by rw [← hWe]; exact Wire.Bk.new _ _ _
            have zWl : Hid (W.heap.size = wr.heap.size + 1) := by rw [← hWe]; show _ = _; simp
            clear hWe c0 c1 c2 c3
            have HKS : Hid (Wire.Bk W w.heap.size #[.int .i64 b, .int .i64 d] 25) := KS.out.keep HWb.out
            have zs := Wire.Bk.lt HKS.out
            have zr := Wire.Bk.lt HKR.out
            have kc0 : ∀ p : Kin W.heap.size W, p.v.cell? ⟨w.heap.size, 0, none⟩ = some (.int .i64 b) := kin_cell zs (HKS.out.cell 0)
            have kc1 : ∀ p : Kin W.heap.size W, p.v.cell? ⟨w.heap.size, 1, none⟩ = some (.int .i64 d) := kin_cell zs (HKS.out.cell 1)
            have kr0 : ∀ p : Kin W.heap.size W, p.v.cell? ⟨wr.heap.size, 0, none⟩ = some (.int .i64 x0) := kin_cell zr (HKR.out.cell 0)
            refine wp_region_held_drew (S := KinS W.heap.size W) (by kernel_rfl) (kinS_self _ _) (fun hHeld => ?_)
            refine wpAnyH_take (i := 0) (v := ?_) rfl (by kernel_rfl) (by kernel_rfl) (by kernel_rfl) (fun _ _ _ h => h) (Or.inl ⟨by rfl, ?_⟩) (by assumption) ?_
            rotate_left
            · intro w9 hw9
              obtain ⟨p9, rfl⟩ := hw9
              first | (go_simp; done) | (go_simp; rfl)
            simp only [Act.put, List.setIfInBounds_toArray, List.set_cons_zero, List.set_cons_succ]
            refine wpAnyH_take (i := 1) (v := ?_) rfl (by kernel_rfl) (by kernel_rfl) (by kernel_rfl) (fun _ _ _ h => h) (Or.inl ⟨by rfl, ?_⟩) (by assumption) ?_
            rotate_left
            · intro w9 hw9
              obtain ⟨p9, rfl⟩ := hw9
              first | (go_simp; done) | (go_simp; rfl)
            simp only [Act.put, List.setIfInBounds_toArray, List.set_cons_zero, List.set_cons_succ]
            refine wpAnyH_take (i := 2) (v := ?_) rfl (by kernel_rfl) (by kernel_rfl) (by kernel_rfl) (fun _ _ _ h => h) (Or.inl ⟨by rfl, ?_⟩) (by assumption) ?_
            rotate_left
            · intro w9 hw9
              obtain ⟨p9, rfl⟩ := hw9
              first | (go_simp; done) | (go_simp; rfl)
            simp only [Act.put, List.setIfInBounds_toArray, List.set_cons_zero, List.set_cons_succ]
            refine wpAnyH_ready (rs := [3]) (by kernel_rfl) (by simp) ?_
            refine AllReadyH.cons rfl (fun K hK => ?_) AllReadyH.nil
            go_simp
            refine hK.out _ _ (kinS_of ((belA _ _).drew)) (fun hHeld2 => ?_)
            clear kc0 kc1 kr0 hHeld hHeld2 zs zr
            have HWA : Hid (Below W.heap.size W (W.alloc (.cells #[.int .i64 x0] 3)).drew) := (belA _ _).drew
            have cW : (W.alloc (.cells #[.int .i64 x0] 3)).drew.cell? ⟨W.heap.size, 0, none⟩ = some (.int .i64 x0) := by go_simp
            have zW : Hid ((W.alloc (.cells #[.int .i64 x0] 3)).drew.heap.size = W.heap.size + 1) := by show _ = _; simp
            generalize (W.alloc (.cells #[.int .i64 x0] 3)).drew = WA at *
            refine held_quiet (C := fun w' => ∃ p : Kin WA.heap.size WA, w' = p.v) 4 38 (kinS_sub HWA.out (by have := zW.out; omega)) (by kernel_rfl) rfl (by kernel_rfl) ⟨⟨WA, Below.refl _ _⟩, rfl⟩ ?_
            simp only [List.drop_succ_cons, List.drop_zero]
            have hne := kinNe WA.heap.size WA
            have GS := HKS.out.keep HWA.out
            have GR := HKR.out.keep HWA.out
            have kc0 : ∀ p : Kin WA.heap.size WA, p.v.cell? ⟨w.heap.size, 0, none⟩ = some (.int .i64 b) := kin_cell GS.lt (GS.cell 0)
            have kc1 : ∀ p : Kin WA.heap.size WA, p.v.cell? ⟨w.heap.size, 1, none⟩ = some (.int .i64 d) := kin_cell GS.lt (GS.cell 1)
            have kr0 : ∀ p : Kin WA.heap.size WA, p.v.cell? ⟨wr.heap.size, 0, none⟩ = some (.int .i64 x0) := kin_cell GR.lt (GR.cell 0)
            have kr1 : ∀ p : Kin WA.heap.size WA, p.v.cell? ⟨wr.heap.size, 1, none⟩ = some (.int .i64 x1) := kin_cell GR.lt (GR.cell 1)
            have kr2 : ∀ p : Kin WA.heap.size WA, p.v.cell? ⟨wr.heap.size, 2, none⟩ = some (.int .i64 x2) := kin_cell GR.lt (GR.cell 2)
            have kr3 : ∀ p : Kin WA.heap.size WA, p.v.cell? ⟨wr.heap.size, 3, none⟩ = some (.bool g) := kin_cell GR.lt (GR.cell 3)
            have kp0 : ∀ p : Kin WA.heap.size WA, p.v.cell? ⟨bk, off + (k - 1) * 4, none⟩ = some (.int .i64 px) := kin_cell (Nat.lt_of_lt_of_le HPL.out (Nat.le_trans HWb.out.size HWA.out.size)) ((World.cell?_of_block (a := ⟨bk, off + (k - 1) * 4, none⟩) (HWA.out.block bk (Nat.lt_of_lt_of_le HPL.out HWb.out.size))).trans ((World.cell?_of_block (a := ⟨bk, off + (k - 1) * 4, none⟩) (HWb.out.block bk HPL.out)).trans HPC.out))
            have CV : ∀ p : Kin WA.heap.size WA, Calls Try.prog 53 #[.agg #[.int .i64 b, .int .i64 d], .slice (some ⟨W.heap.size, 0, none⟩) 1 1] p.v fun e w' => e = .returned (.bool (true)) ∧ Below p.v.heap.size p.v w' := fun p => by
              have h := lnumsA b d x0 W.heap.size p.v (by have := p.bel.size; have := zW.out; omega) (kin_cell (by have := zW.out; omega) cW p)
              rw [HN.out] at h
              exact h
            repeat (go_big_quiet_step (first | (go_at_call 53; exact kin_of (Nat.le_refl _) (CV _)) | (go_at_call_of 54 (Value.int .i64 1000000, Value.int .i64 1); fail) | (go_at_call_of 54 (Value.int .i64 1); exact kin_same (C1 _)) | (go_at_call_of 54 (Value.int .i64 0); exact kin_same (C2 _))))
            refine wpQuiet_nil ?_
            intro w2 hw'
            obtain ⟨⟨w9, hw9⟩, hw''⟩ := hw'
            obtain rfl : w2 = w9 := hw''
            have HB2 : Hid (Below w.heap.size w w2) := belt HB.out (belt HWb.out (belt HWA.out hw9))
            have KS2 : Hid (Wire.Bk w2 w.heap.size #[.int .i64 b, .int .i64 d] 25) := HKS.out.keep (belt HWA.out hw9)
            clear kc0 kc1 kr0 kr1 kr2 kr3 kp0 GS GR hne hw9 cW CV HWA HWb HKS HKR KS HB zW zWl
            have HV : Hid (goodT b d ms = false) := goodT_no hlt (by rw [HT.out]; rw [HP.out, HK0.out]; simp)
            obtain ⟨s0, s1⟩ := Wire.Bk.c2 KS2.out
            clear HT HPC0
            go_wp2
            go_ret
            exact ⟨ret_bool HV.out.symm, HB2.out⟩
    ·
      have HE : Hid (goodT b d ms = (gsB b d && decide (ms.length ≤ 8))) := goodT_yes (fun i hi => HS.out i (by omega))
      obtain ⟨s0, s1⟩ := Wire.Bk.c2 KS.out
      have zl := Wire.Bk.lt KS.out
      cases hg : gsB b d
      · have HV : Hid (goodT b d ms = false) := by unfold Hid; rw [HE.out, hg]; rfl
        have CS := fun w1 => lspace_any b d w1
        rw [hg] at CS
        clear hg
        go_wp2_with fail
        refine (CS _).mono ?_
        rintro e w1 ⟨rfl, hw1⟩
        go_wp2
        go_ret
        exact ⟨ret_bool HV.out.symm, belt HB.out hw1⟩
      · have HV : Hid (goodT b d ms = decide (ms.length ≤ 8)) := by unfold Hid; rw [HE.out, hg]; simp
        have CS := fun w1 => lspace_any b d w1
        rw [hg] at CS
        clear hg
        go_wp2_with fail
        refine (CS _).mono ?_
        rintro e w1 ⟨rfl, hw1⟩
        by_cases h8 : ms.length ≤ 8
        · have h8d : decide ((ms.length : Int) ≤ 8) = true := decide_eq_true (by omega)
          have HV2 : Hid (goodT b d ms = true) := by unfold Hid; rw [HV.out]; exact decide_eq_true h8
          clear h8
          go_wp2
          go_ret
          exact ⟨ret_bool HV2.out.symm, belt HB.out hw1⟩
        · have h8d : decide ((ms.length : Int) ≤ 8) = false := decide_eq_false (by omega)
          have HV2 : Hid (goodT b d ms = false) := by unfold Hid; rw [HV.out]; exact decide_eq_false h8
          clear h8
          go_wp2
          go_ret
          exact ⟨ret_bool HV2.out.symm, belt HB.out hw1⟩
end Go.Proofs.Ytpgngfdhnoonjaa.Tb
