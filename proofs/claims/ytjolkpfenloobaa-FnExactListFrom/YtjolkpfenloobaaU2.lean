/- The first ones of the members round and round; ListFrom. -/
import Derived.Test.YtjolkpfenloobaaU1
namespace Go.Proofs.Ytjolkpfenloobaa
open Go.RowKit Go.Shelf
set_option linter.unusedVariables false

def upL (ms : List Int) (u k : Nat) : List Int := (List.range k).map (fun i => ms.getD ((u + i) % ms.length) 0)
theorem upL_len (ms : List Int) (u k : Nat) : (upL ms u k).length = k := by simp [upL]
theorem upL_succ (ms : List Int) (u k : Nat) : upL ms u (k + 1) = upL ms u k ++ [ms.getD ((u + k) % ms.length) 0] := by
  unfold upL; rw [List.range_succ, List.map_append]; rfl
theorem len_box {W : World} {B n₀ k : Nat} {v : Value} {xs : List Value} (h : Boxed W B 26 v) (ho : W.ownsRow n₀ 3 1 v k xs) : lenAt W B = k := by
  unfold lenAt
  rw [h.cell]
  rcases Joins.ownsRow_forms ho with ⟨rfl, rfl⟩ | ⟨g, cap, rfl⟩ <;> rfl
theorem own_up {w : World} {B k u : Nat} {v : Value} {ms : List Int} {z : Int} (hz : z = ms.getD ((u + k) % ms.length) 0) (h : w.ownsRow B 3 1 v (k + 1) ((upL ms u k).map (Value.int .i64) ++ [Value.int .i64 z])) : w.ownsRow B 3 1 v (k + 1) ((upL ms u (k + 1)).map (Value.int .i64)) := by
  rw [upL_succ, List.map_append, ← hz]; exact h

set_option maxRecDepth 100000 in
set_option maxHeartbeats 6400000 in
theorem firstOf_any (pb mb : Nat) (a0 : Option Addr) (cap : Nat) (ms : List Int) (u M : Nat) (w : World) (h1 : 1 ≤ ms.length) (h2 : ms.length ≤ 16) (hu : u ≤ 16) (hM : M ≤ 16) (hpb : pb < w.heap.size) (hmb : mb < w.heap.size)
    (hp : w.cell? ⟨pb, 0, none⟩ = some (.int .i64 u)) (hmc : w.cell? ⟨mb, 0, none⟩ = some (.slice a0 ms.length cap)) (hr : RowAt w a0 ms) :
    Calls Try.prog 58 #[.func (.func 77) #[] #[.pointer (some ⟨pb, 0, none⟩), .pointer (some ⟨mb, 0, none⟩)], .int .i64 (M : Int)] w fun e w' => ∃ g cp, e = .returned (.slice (some ⟨g, 0, none⟩) M cp) ∧ OwnS w.heap.size w' g (upL ms u M) ∧ Below w.heap.size w w' := by
  obtain ⟨i0, hi, hz0, hz1, hz2⟩ := info_parts'
  have hmk := make_room M (by omega)
  refine (callsIn_wide (n := 3)).1 ?_
  refine callsIn_of_wp_marks Try.func58 rfl trivial ?_ rfl
  simp only [Try.ntmps58, List.size_toArray, List.length_cons, List.length_nil, Nat.reduceAdd, Nat.reduceSub, Array.replicate_succ, Array.replicate_zero, List.push_toArray, List.append_toArray, List.nil_append, List.cons_append]
  have HP : Hid (w.cell? ⟨pb, 0, none⟩ = some (.int .i64 u)) := hp
  have HM : Hid (w.cell? ⟨mb, 0, none⟩ = some (.slice a0 ms.length cap)) := hmc
  have HR : Hid (RowAt w a0 ms) := hr
  clear hp hmc hr
  gi_wp2
  have hmany : Hid (Boxed (w.alloc (.cells #[.int .i64 (M : Int)] 3)) w.heap.size 3 (.int .i64 (M : Int))) := Boxed.new _ _ _
  refine range_broken (F := Fence.wide) rfl (by omega) (gf := 77) (lb := #[.pointer (some ⟨pb, 0, none⟩), .pointer (some ⟨mb, 0, none⟩)]) rfl trivial (enters_of Try.func77 (by kernel_rfl) rfl)
    (fun k => ms.getD ((u + k) % ms.length) 0) rfl 0
    (fun k W => (∃ v, Boxed W (w.heap.size + 1 + 1) 26 v ∧ W.ownsRow (w.heap.size + 1) 3 1 v k ((upL ms u k).map (Value.int .i64)) ∧ (k ≤ M ∧ ¬ v = .slice none 0 0)) ∧ Below (w.heap.size + 1) (w.alloc (.cells #[.int .i64 (M : Int)] 3)) W)
    (fun _ W => (∃ v, Boxed W (w.heap.size + 1 + 1) 26 v ∧ W.ownsRow (w.heap.size + 1) 3 1 v M ((upL ms u M).map (Value.int .i64)) ∧ ¬ v = .slice none 0 0) ∧ Below (w.heap.size + 1) (w.alloc (.cells #[.int .i64 (M : Int)] 3)) W)
    (OwnFrom.and (Own.from (holdsRow_own (w.heap.size + 1) (w.heap.size + 1 + 1) 26 3 1 (fun k => k) (fun k => (upL ms u k).map (Value.int .i64)) (fun k v => k ≤ M ∧ ¬ v = .slice none 0 0)) _) (ownFrom_below (by simp) (by simp; try omega)))
    (OwnFrom.and (Own.from (holdsRow_own (w.heap.size + 1) (w.heap.size + 1 + 1) 26 3 1 (fun _ => M) (fun _ => (upL ms u M).map (Value.int .i64)) (fun _ v => ¬ v = .slice none 0 0)) _) (ownFrom_below (by simp) (by simp; try omega)))
    ?start
    (fun k => { tmps := #[.func (.func 77) #[] #[.pointer (some ⟨pb, 0, none⟩), .pointer (some ⟨mb, 0, none⟩)], .int .i64 (M : Int), undef, .pointer (some ⟨w.heap.size, 0, none⟩), .slice none 0 0, .pointer (some ⟨w.heap.size + 1 + 1, 0, none⟩), .int .i64 (ms.getD ((u + k) % ms.length) 0), .int .i64 (M : Int), .slice (some ⟨w.heap.size + 1, 0, none⟩) 0 M, .func (.func 77) #[] #[.pointer (some ⟨pb, 0, none⟩), .pointer (some ⟨mb, 0, none⟩)], .int .i64 (ms.getD ((u + k) % ms.length) 0), undef, undef, undef, undef, undef, undef, undef, undef, undef], defers := [] })
    ?iter ?assign ?body ?stop
  case start =>
    have hb := Boxed.new ((w.alloc (.cells #[.int .i64 (M : Int)] 3)).alloc (.cells (zv (List.replicate M 0)) 3)) 26 (.slice (some ⟨w.heap.size + 1, 0, none⟩) 0 M)
    have ho := (own_room (w.alloc (.cells #[.int .i64 (M : Int)] 3)) M (by omega)).alloc (.cells #[.slice (some ⟨w.heap.size + 1, 0, none⟩) 0 M] 26)
    simp only [World.size_alloc] at hb ho
    exact ⟨⟨_, hb, ho, Nat.zero_le _, by simp⟩, ((Below.refl _ _).alloc (by simp) _).alloc (by simp) _⟩
  case iter =>
    intro l J Jx W hJI hY h0J
    refine going_in 2 pb mb (w.heap.size + 1 + 1) M a0 cap ms u l J Jx W (by omega) h1 h2 hu (fun k W1 hj => ?_) hY h0J
    obtain ⟨⟨v, hv, ho, hk, _⟩, hB⟩ := hJI k W1 hj
    have hB' := bel1 hB (by omega)
    exact ⟨(hB'.cell (p := ⟨pb, 0, none⟩) hpb).trans HP.out, (hB'.cell (p := ⟨mb, 0, none⟩) hmb).trans HM.out, HR.out.keep hB', len_box hv ho, hk⟩
  case assign =>
    intro l k W K hK
    gi_wp2_with (rw [Oper.semAt_eq _ _ _ (fun c h => by cases h)]; go_simp; try go_bits)
    exact hK
  case body =>
    rintro l k W ⟨⟨v, hv, ho, hk, hnv⟩, hB⟩
    have hsz : w.heap.size + 1 ≤ W.heap.size := by have := hB.size; simp at this; omega
    have hcm : W.cell? ⟨w.heap.size, 0, none⟩ = some (.int .i64 (M : Int)) := (hB.cell (p := ⟨w.heap.size, 0, none⟩) (by simp)).trans hmany.out.cell
    obtain ⟨g0, cp0, rfl⟩ := own_form ho hnv
    have hcl := hv.cell
    obtain ⟨z, hz⟩ : ∃ z, z = ms.getD ((u + k) % ms.length) 0 := ⟨_, rfl⟩
    have HZ : Hid (z = ms.getD ((u + k) % ms.length) 0) := hz
    rw [← hz]
    clear hz
    have HO : Hid (W.ownsRow (w.heap.size + 1) 3 1 (.slice (some ⟨g0, 0, none⟩) k cp0) k ((upL ms u k).map (Value.int .i64))) := ho
    have HV : Hid (Boxed W (w.heap.size + 1 + 1) 26 (.slice (some ⟨g0, 0, none⟩) k cp0)) := hv
    have HBB : Hid (Below (w.heap.size + 1) (w.alloc (.cells #[.int .i64 (M : Int)] 3)) W) := hB
    clear ho hv hB
    by_cases hkm : k = M
    · subst hkm
      gi_wp2_with (rw [Oper.semAt_eq _ _ _ (fun c h => by cases h)]; go_simp; try go_bits)
      exact ⟨rfl, KeepsOthers.refl _, ⟨_, HV.out, HO.out, by simp⟩, HBB.out⟩
    · have hq : ((k : Int) == (M : Int)) = false := by simp only [beq_eq_false_iff_ne, ne_eq]; omega
      have hkl : k < M := by omega
      clear hkm
      gi_wp2_with (first | (gi_at_builtin; refine wpListIn_append_own _ rfl (.tmp 15) (.tmp 17) 26 rfl (w.heap.size + 1) 3 i0 (.int .i64 0) 1 8 Try.underlying26 hi hz0 hz1 hz2 rfl (by decide) _ _ _ rfl (HO.out.alloc _) ⟨W.heap.size, 0, none⟩ 1 1 [.int .i64 z] rfl rfl (cell_one_new _ _ _) (by simp [Value.oneCell']) (by unfold maxLen; omega) (by omega) (by simp; omega) ?_; intro v5 w5 hown5 hgrow5 _; obtain ⟨g5, cp5, rfl⟩ := ownsRow_succ hown5; obtain ⟨hv1, hv2, hr2, hk2, hb2⟩ := HV.out.appended (by decide) HO.out hsz (Nat.le_succ _) hown5 hgrow5; have hc1 := hv1.cell; have hf1 := hv1.frozen; have HR2 : Hid _ := own_up HZ.out hr2; have HV2 : Hid _ := hv2; have HK2 : Hid _ := hk2; have HB2 : Hid _ := hb2; clear hown5 hgrow5 hv1 hv2 hr2 hk2 hb2) | (rw [Oper.semAt_eq _ _ _ (fun c h => by cases h)]; go_simp; try go_bits))
      exact ⟨HK2.out, ⟨_, HV2.out, HR2.out, by omega, by simp⟩, HBB.out.trans HB2.out⟩
  case stop =>
    rintro D W hD ⟨⟨v, hv, ho, hnv⟩, hB⟩ hK
    obtain ⟨g0, cp0, rfl⟩ := own_form ho hnv
    have hcl := hv.cell
    have hD' : w.heap.size ≤ D := by simp at hD; omega
    gi_wp2
    refine ⟨by simp, .inl ⟨_, _, rfl, run_takeDeferred hK, ?_⟩⟩
    have ho2 := ownsRow_putObj ho (.deferred none) hK rfl
    obtain ⟨os, _, _⟩ := OwnS.of_owns ho2
    exact ⟨_, results_tmp rfl _ _ _, g0, cp0, rfl, os.mono (Nat.le_succ _), (bel1 hB (by omega)).trans (belowK_b (w := w) (Nat.le_refl _) W D _ _ hD' hK rfl rfl)⟩
end Go.Proofs.Ytjolkpfenloobaa
