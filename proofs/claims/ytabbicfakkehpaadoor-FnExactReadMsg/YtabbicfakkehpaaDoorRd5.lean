/- A list of a text is taken by the program. -/
import Derived.Test.YtabbicfakkehpaaDoorRd3
namespace Go.Proofs.YtabbicfakkehpaaDoor
open Go.RowKit Go.Deep
set_option linter.unusedVariables false
set_option linter.unusedSimpArgs false
theorem wrap_u8b {n : Nat} (h : n < 2 ^ 8) : IntKind.i64.wrap (n : Int) = (n : Int) := by
  rw [IntKind.wrap_i64]
  omega
def allLe (l : List Int) (m : Int) : Bool := l.all (fun x => decide (x ≤ m))
theorem allLe_step {s : ByteArray} {k : Nat} {ok : Bool} {m : Int} (h : k < (lv s).length) : (ok && allLe ((lv s).take k) m && decide (a2 s (10 + 2 * k) ≤ m)) = (ok && allLe ((lv s).take (k + 1)) m) := by
  rw [lv_take s k h]
  unfold allLe
  rw [List.all_append]
  simp [Bool.and_assoc]
/-- the list at work -/
structure NL (w wr : World) (g G : Nat) (s : ByteArray) (k : Nat) (ok : Bool) (m : Int) : Prop where
  but : But g w wr
  rd : Rd wr g s (10 + 2 * k) (ok && allLe ((lv s).take k) m)
  row : Bk wr G (zv (cop (lv s) k)) 3
  hG : w.heap.size ≤ G
theorem NL.at {w wr : World} {g G : Nat} {s : ByteArray} {k : Nat} {ok : Bool} {m : Int} (h : NL w wr g G s k ok m) (hk : k < (lv s).length) (w2 : World) (hb : But g wr w2) (hg : ¬ G = g) :
    w2.cell? ⟨G, k, none⟩ = some (.int .i64 ((cop (lv s) k).getD k 0)) ∧ w2.frozen? ⟨G, k, none⟩ = false := by
  have hr := hb.bk h.row hg
  exact ⟨(hr.cell k).trans (zv_get _ _ (by rw [cop_len (by omega)]; exact hk)), hr.fr k⟩
theorem NL.put {w wr : World} {g G : Nat} {s : ByteArray} {k : Nat} {ok : Bool} {m : Int} (h : NL w wr g G s k ok m) (hk : k < (lv s).length) {w2 : World} (hb : But g wr w2) (hg : ¬ G = g) (hr : Rd w2 g s (10 + 2 * k + 2) (ok && allLe ((lv s).take k) m && decide (a2 s (10 + 2 * k) ≤ m))) :
    NL w (w2.setCell ⟨G, k, none⟩ (.int .i64 (a2 s (10 + 2 * k)))) g G s (k + 1) ok m := by
  have hG := h.hG
  have hb2 := h.but.trans hb
  have hs2 := hb2.size
  refine ⟨⟨hb2.os, hb2.tape, hb2.output, by simpa [World.setCell] using hs2, fun j hj hjg => (heap_setCell_other _ _ _ _ (by simp; omega)).trans (hb2.block j hj hjg)⟩, ?_, ?_, hG⟩
  · rw [allLe_step hk] at hr
    exact hr.oth (fun e => hg e.symm) k _
  · have h1 := (hb.bk h.row hg).set k (.int .i64 (a2 s (10 + 2 * k)))
    rw [zv_set] at h1
    have h2 := cop_set hk
    rw [lv_at s k hk] at h2
    rw [h2] at h1
    exact h1
set_option maxRecDepth 100000 in
set_option maxHeartbeats 6400000 in
theorem nextList_any (g : Nat) (s : ByteArray) (ok : Bool) (most : Int) (w : World) (h9 : 9 < s.size) (hl : 10 + 2 * (bt s 9).toNat ≤ s.size) (hs : s.size ≤ 1048576) (hk : Rd w g s 9 ok) :
    Calls Tryd.prog 44 #[.pointer (some ⟨g, 0, none⟩), .int .i64 most] w fun e w' => ∃ a n, e = .returned (.slice a n n) ∧ OwnLs w.heap.size w'.heap.size w' a n (lv s) ∧ Rd w' g s (10 + 2 * n) (ok && allLe (lv s) most) ∧ But g w w' := by
  have hlt := hk.lt
  obtain ⟨v, hB, hv⟩ := hk
  obtain ⟨N, hN⟩ : ∃ N, Hid ((lv s).length = N) := ⟨_, rfl⟩
  have u9 := UInt8.toNat_lt s[9]
  have hb9 : (bt s 9) = (s[9].toNat : Int) := bt_eq h9
  have hlen := lv_len s
  have hN2 := hN.out
  have hNs : (s[9].toNat : Int) = (N : Int) := by omega
  have hwr : Hid (IntKind.i64.wrap (s[9].toNat : Int) = (N : Int)) := (wrap_u8b u9).trans hNs
  have hNb : N ≤ 255 := by omega
  have hNl : 10 + 2 * N ≤ s.size := by omega
  clear hb9 hlen hNs u9 hN2 hl
  have HB : Hid (Bk w g #[.string s, .int .i64 9, v] 76) := hB
  have HV : Hid (FaB ok 4 v) := hv
  have hbel : Hid (Below w.heap.size w w) := Below.refl _ _
  clear hB hv
  go_enter Tryd.func44, Tryd.ntmps44
  go_wp2_with fail
  refine wp_region_held_drew (S := fun w' => Below w.heap.size w w') (by kernel_rfl) ((Below.refl _ _).drew) (fun hs0 => ?_)
  refine wpAnyH_take (i := 0) (oi := _) (v := _) rfl (by kernel_rfl) (by kernel_rfl) (by kernel_rfl) (fun _ _ _ h => h) (.inl ⟨by rfl, by intro w hSw; go_simp; with_reducible rfl⟩) hs0 ?_
  simp only [Act.put, List.setIfInBounds_toArray, List.set_cons_zero, List.set_cons_succ]
  refine wpAnyH_take (i := 1) (oi := _) (v := _) rfl (by kernel_rfl) (by kernel_rfl) (by kernel_rfl) (fun _ _ _ h => h) (.inl ⟨by rfl, by intro w hSw; go_simp; with_reducible rfl⟩) hs0 ?_
  simp only [Act.put, List.setIfInBounds_toArray, List.set_cons_zero, List.set_cons_succ]
  refine wpAnyH_take (i := 2) (oi := _) (v := _) rfl (by kernel_rfl) (by kernel_rfl) (by kernel_rfl) (fun _ _ _ h => h) (.inl ⟨by rfl, by intro w hSw; go_simp; with_reducible rfl⟩) hs0 ?_
  simp only [Act.put, List.setIfInBounds_toArray, List.set_cons_zero, List.set_cons_succ]
  refine wpAnyH_take (i := 3) (oi := _) (v := _) rfl (by kernel_rfl) (by kernel_rfl) (by kernel_rfl) (fun _ _ _ h => h) (.inl ⟨by rfl, by intro w' hSw; have hc := Bk.cell (HB.out.keep (belt hbel.out hSw)) 0; simp at hc; go_simp; with_reducible rfl⟩) hs0 ?_
  simp only [Act.put, List.setIfInBounds_toArray, List.set_cons_zero, List.set_cons_succ]
  refine wpAnyH_take (i := 4) (oi := _) (v := _) rfl (by kernel_rfl) (by kernel_rfl) (by kernel_rfl) (fun _ _ _ h => h) (.inl ⟨by rfl, by intro w hSw; go_simp; with_reducible rfl⟩) hs0 ?_
  simp only [Act.put, List.setIfInBounds_toArray, List.set_cons_zero, List.set_cons_succ]
  refine wpAnyH_take (i := 5) (oi := _) (v := _) rfl (by kernel_rfl) (by kernel_rfl) (by kernel_rfl) (fun _ _ _ h => h) (.inl ⟨by rfl, by intro w hSw; go_simp; with_reducible rfl⟩) hs0 ?_
  simp only [Act.put, List.setIfInBounds_toArray, List.set_cons_zero, List.set_cons_succ]
  refine wpAnyH_take (i := 6) (oi := _) (v := _) rfl (by kernel_rfl) (by kernel_rfl) (by kernel_rfl) (fun _ _ _ h => h) (.inl ⟨by rfl, by intro w hSw; go_simp; with_reducible rfl⟩) hs0 ?_
  simp only [Act.put, List.setIfInBounds_toArray, List.set_cons_zero, List.set_cons_succ]
  refine wpAnyH_take (i := 7) (oi := _) (v := _) rfl (by kernel_rfl) (by kernel_rfl) (by kernel_rfl) (fun _ _ _ h => h) (.inl ⟨by rfl, by intro w' hSw; have hc := Bk.cell (HB.out.keep (belt hbel.out hSw)) 1; simp at hc; go_simp; with_reducible rfl⟩) hs0 ?_
  simp only [Act.put, List.setIfInBounds_toArray, List.set_cons_zero, List.set_cons_succ]
  refine wpAnyH_take (i := 8) (oi := _) (v := _) rfl (by kernel_rfl) (by kernel_rfl) (by kernel_rfl) (fun _ _ _ h => h) (.inl ⟨by rfl, by intro w hSw; go_simp; rw [dif_pos (show (9 : Int) < (s.size : Int) by omega)]; rfl⟩) hs0 ?_
  simp only [Act.put, List.setIfInBounds_toArray, List.set_cons_zero, List.set_cons_succ]
  refine wpAnyH_take (i := 9) (oi := _) (v := _) rfl (by kernel_rfl) (by kernel_rfl) (by kernel_rfl) (fun _ _ _ h => h) (.inl ⟨by rfl, by intro w hSw; go_simp; rw [hwr.out]⟩) hs0 ?_
  simp only [Act.put, List.setIfInBounds_toArray, List.set_cons_zero, List.set_cons_succ]
  refine wpAnyH_ready (rs := [10]) (by kernel_rfl) (by simp) ?_
  refine AllReadyH.cons rfl (fun K hK => ?_) AllReadyH.nil
  have hmk := make_ints N (by omega) w.drew
  go_simp
  refine hK.out _ _ ((belA w _).drew) (fun _ => ?_)
  clear hK K hmk
  refine wpAnyH_ready (rs := [11]) (by kernel_rfl) (by simp) ?_
  refine AllReadyH.cons rfl (fun K hK => ?_) AllReadyH.nil
  go_simp
  refine hK.out _ _ ((belA w _).drew) (fun _ => ?_)
  clear hK K
  refine wpAnyH_done (by kernel_rfl) ?_ _
  have HB2 : Hid (Bk (w.alloc (.cells (zv (List.replicate N 0)) 3)).drew g #[.string s, .int .i64 9, v] 76) := (HB.out.alloc _).drew
  have KG : Hid (Bk (w.alloc (.cells (zv (List.replicate N 0)) 3)).drew w.heap.size (zv (List.replicate N 0)) 3) := (Bk.new _ _ _).drew
  have BU : Hid (But g w (w.alloc (.cells (zv (List.replicate N 0)) 3)).drew) := (But.refl g w).below ((belA w _).drew)
  clear hbel hs0
  generalize (w.alloc (.cells (zv (List.replicate N 0)) 3)).drew = w2 at *
  obtain ⟨c0, c1, c2⟩ := HB2.out.c3
  have f1 := HB2.out.fr 1
  go_wp2_with fail
  have S0 : Hid (NL w (w2.setCell ⟨g, 1, none⟩ (.int .i64 10)) g w.heap.size s 0 ok most) := by
    refine ⟨BU.out.set 1 _, ⟨v, HB2.out.set 1 _, by unfold allLe; simpa using HV.out⟩, ?_, Nat.le_refl _⟩
    rw [cop_none, hN.out]
    exact KG.out.oth (by omega) 1 _
  clear c0 c1 c2 f1 HB2 KG BU HB HV
  generalize w2.setCell ⟨g, 1, none⟩ (.int .i64 10) = w3 at *
  go_loopw [27] (fun v27 wr => ∃ k : Nat, v27 = .int .i64 k ∧ k ≤ N ∧ Hid (NL w wr g w.heap.size s k ok most)) (fun v27 _ => N - (intOf v27).toNat)
  case atStart => exact ⟨0, rfl, Nat.zero_le _, S0⟩
  case round =>
    clear S0
    obtain ⟨k, rfl, hkN, st⟩ := hrel
    by_cases hq : k < N
    · have hk2 : k < (lv s).length := by rw [hN.out]; exact hq
      go_wp2_with fail
      refine (next_any g s (10 + 2 * k) _ most _ (by omega) hs st.out.rd).mono ?_
      rintro e w4 ⟨rfl, hrd, hbu⟩
      obtain ⟨d1, d2⟩ := st.out.at hk2 w4 hbu (by omega)
      have st2 : Hid (NL w (w4.setCell ⟨w.heap.size, k, none⟩ (.int .i64 (a2 s (10 + 2 * k)))) g w.heap.size s (k + 1) ok most) := st.out.put hk2 hbu (by omega) hrd
      clear st hrd hbu
      generalize (cop (lv s) k).getD k 0 = y at d1
      go_wp2
      go_roundw
      case rel => exact ⟨k + 1, by go_num, by omega, st2⟩
      case measure => simp [intOf]; omega
    · have hkN2 : k = N := by omega
      subst hkN2
      have hrow := st.out.row
      have hrd := st.out.rd
      have hbu := st.out.but
      rw [← hN.out, cop_all] at hrow
      rw [← hN.out, List.take_length, hN.out] at hrd
      have HR : Hid (OwnLs w.heap.size wr.heap.size wr (some ⟨w.heap.size, 0, none⟩) k (lv s)) := ⟨hN.out, .inr ⟨_, rfl, hrow.lt, ⟨Nat.le_refl _, _, hrow, by rw [List.take_of_length_le (by simp [zv])]; simp [zv]⟩⟩⟩
      have HRD : Hid (Rd wr g s (10 + 2 * k) (ok && allLe (lv s) most)) := hrd
      have HBU : Hid (But g w wr) := hbu
      clear hrow hrd hbu st
      go_wp2
      go_ret
      exact ⟨_, _, rfl, HR.out, HRD.out, HBU.out⟩
end Go.Proofs.YtabbicfakkehpaaDoor
