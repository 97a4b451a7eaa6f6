/- The specification's lists: a copy, a number put to its place, a ring without a member. -/
import Derived.Test.YtejajlloipkkhaaS2
namespace Go.Proofs.Ytejajlloipkkhaa
open Go.RowKit
set_option linter.unusedVariables false

theorem own_form {w : World} {B n : Nat} {v : Value} {xs : List Value} (h : w.ownsRow B 3 1 v n xs) (hn : ¬ v = .slice none 0 0) : ∃ g cap, v = .slice (some ⟨g, 0, none⟩) n cap := by
  rcases Joins.ownsRow_forms h with ⟨h1, _⟩ | h1
  · exact absurd h1 hn
  · exact h1
theorem own_lit0 (w : World) : (w.alloc (.cells #[] 3)).ownsRow w.heap.size 3 1 (.slice (some ⟨w.heap.size, 0, none⟩) 0 0) 0 [] :=
  World.ownsRow_lit w #[] 0 (Nat.le_refl _) (Nat.zero_le _) rfl

set_option maxHeartbeats 3200000 in
theorem lput_any (bk off cap : Nat) (zs : List Int) (x : Int) (w : World) (h1 : 1 ≤ zs.length) (h2 : zs.length ≤ 16) (hcap : zs.length ≤ cap) (hr : RowAt w (some ⟨bk, off, none⟩) zs) :
    Calls Try.prog 127 #[.slice (some ⟨bk, off, none⟩) zs.length cap, .int .i64 x] w fun e w' => (memI zs x = true ∧ e = .returned (.slice (some ⟨bk, off, none⟩) zs.length cap) ∧ w' = w) ∨
      (memI zs x = false ∧ ∃ g cp, e = .returned (.slice (some ⟨g, 0, none⟩) (zs.length + 1) cp) ∧ zs.length + 1 ≤ cp ∧ OwnS w.heap.size w' g (joinL zs x) ∧ Below w.heap.size w w') := by
  obtain ⟨i0, hi, hz0, hz1, hz2⟩ := info_parts'
  have own0 : Hid ((w.alloc (.cells #[] 3)).ownsRow w.heap.size 3 1 (.slice (some ⟨w.heap.size, 0, none⟩) 0 0) 0 []) := own_lit0 w
  have HR : Hid (RowAt w (some ⟨bk, off, none⟩) zs) := hr
  clear hr
  go_enter Try.func127, Try.ntmps127
  go_wp2_with fail
  go_loop [5] (fun v => ∃ k : Nat, k ≤ zs.length ∧ v = .int .i64 k ∧ Hid (∀ i, i < k → zs.getD i 0 < x)) (fun v => zs.length - (intOf v).toNat)
  case atStart => exact ⟨0, Nat.zero_le _, rfl, fun i hi => by omega⟩
  case round =>
    obtain ⟨k, hk, rfl, hs⟩ := hrel
    by_cases hlt : k < zs.length
    · have hc1 := (rowAt_cell HR.out (by omega)).2 k hlt
      by_cases hx : zs.getD k 0 < x
      · have hn : Hid (∀ i, i < k + 1 → zs.getD i 0 < x) := fun i hi => by
          by_cases he : i = k
          · subst he; exact hx
          · exact hs.out i (by omega)
        generalize zs.getD k 0 = z at hc1 hx
        go_wp2_with fail
        go_round
        case rel => exact ⟨k + 1, by omega, by go_num, hn⟩
        case measure => simp [intOf]; omega
      · have hv : Hid (k = blw zs x) := (blw_eq (by omega) hs.out (fun _ => hx)).symm
        by_cases he : zs.getD k 0 = x
        · have HM : Hid (memI zs x = true) := decide_eq_true (by rw [← hv.out]; exact ⟨hlt, he⟩)
          have he' : (zs.getD k 0 == x) = true := beq_iff_eq.2 he
          clear he
          generalize zs.getD k 0 = z at hc1 hx he'
          go_wp2
          go_ret
          exact .inl ⟨HM.out, rfl, rfl⟩
        · have HM : Hid (memI zs x = false) := decide_eq_false (fun g => he (by rw [← hv.out] at g; exact g.2))
          have he' : (zs.getD k 0 == x) = false := by simp only [beq_eq_false_iff_ne, ne_eq]; exact he
          clear he
          generalize zs.getD k 0 = z at hc1 hx he'
          have s1 : Hid (((zs.take k).map (Value.int .i64)).length = k * 1) := by simp [Hid]; omega
          have s2 : Hid (((zs.drop k).map (Value.int .i64)).length = (zs.length - k) * 1) := by simp [Hid]
          have s3 : Hid ((zs.take k).map (Value.int .i64) ++ [Value.int .i64 x] ++ (zs.drop k).map (Value.int .i64) = (joinL zs x).map (Value.int .i64)) := by unfold joinL; rw [← hv.out]; simp [Hid]
          have hN : k + 1 + (zs.length - k) = zs.length + 1 := by omega
          have hkc : k ≤ cap := by omega
          have c1 : Hid (∀ (j : Nat) (u : Value), ((zs.take k).map (Value.int .i64))[j]? = some u → (w.alloc (.cells #[] 3)).cell? ((⟨bk, off, none⟩ : Addr).add j) = some u) := olds_cells (HR.out.alloc _) k _ rfl
          go_wp2_with (first | (at_builtin; refine wpList_append_own _ rfl (.tmp 34) (.tmp 37) 33 rfl w.heap.size 3 i0 (.int .i64 0) 1 8 Try.underlying33 hi hz0 hz1 hz2 rfl (by decide) _ _ _ rfl own0.out ⟨bk, off, none⟩ _ _ ((zs.take k).map (Value.int .i64)) rfl s1.out c1.out (ints_oneCell _ _) (by unfold maxLen; omega) (by omega) (by simp) ?_; intro v4 w4 hown4 hgrow4 hnil4; rw [Nat.zero_add, List.nil_append] at hown4; obtain ⟨g4, cp4, rfl⟩ := own_form hown4 (fun h => by have := (hnil4.1 h).1; cases this); have HB4 : Hid (Below w.heap.size w w4) := grown_bel ((Below.refl _ _).alloc (Nat.le_refl _) _) hgrow4 (by simp) (fun k hk => (own0.out.lt k hk).1); have own4 : Hid (w4.ownsRow w.heap.size 3 1 (.slice (some ⟨g4, 0, none⟩) k cp4) k ((zs.take k).map (Value.int .i64))) := hown4; clear hown4 hgrow4 hnil4 c1) | (at_builtin; refine wpList_append_own _ rfl (.tmp 39) (.tmp 41) 33 rfl w.heap.size 3 i0 (.int .i64 0) 1 8 Try.underlying33 hi hz0 hz1 hz2 rfl (by decide) _ _ _ rfl (own4.out.alloc _) ⟨w4.heap.size, 0, none⟩ 1 1 [.int .i64 x] rfl rfl (cell_one_new _ _ _) (by simp [Value.oneCell']) (by unfold maxLen; omega) (by omega) (alloc_size HB4.out) ?_; intro v5 w5 hown5 hgrow5 _; obtain ⟨g5, cp5, rfl⟩ := Joins.ownsRow_form hown5 (Nat.succ_pos _); have HB5 : Hid (Below w.heap.size w w5) := grown_bel (HB4.out.alloc HB4.out.size _) hgrow5 (alloc_size HB4.out) (fun k hk => (own4.out.lt k hk).1); have own5 : Hid (w5.ownsRow w.heap.size 3 1 (.slice (some ⟨g5, 0, none⟩) (k + 1) cp5) (k + 1) ((zs.take k).map (Value.int .i64) ++ [Value.int .i64 x])) := hown5; have c2 : Hid (∀ (j : Nat) (u : Value), ((zs.drop k).map (Value.int .i64))[j]? = some u → w5.cell? ((⟨bk, off + k, none⟩ : Addr).add j) = some u) := tail_cells (HR.out.keep HB5.out) k; clear hown5 hgrow5) | (at_builtin; refine wpList_append_own _ rfl (.tmp 43) (.tmp 46) 33 rfl w.heap.size 3 i0 (.int .i64 0) 1 8 Try.underlying33 hi hz0 hz1 hz2 rfl (by decide) _ _ _ rfl own5.out _ _ _ ((zs.drop k).map (Value.int .i64)) rfl s2.out c2.out (ints_oneCell _ _) (by unfold maxLen; omega) (by omega) HB5.out.size ?_; intro v6 w6 hown6 hgrow6 _; rw [hN, s3.out] at hown6; obtain ⟨g6, cp6, rfl⟩ := Joins.ownsRow_form hown6 (Nat.succ_pos _); obtain ⟨os6, len6, hcp6⟩ := OwnS.of_owns hown6; have HB6 : Hid (Below w.heap.size w w6) := grown_bel HB5.out hgrow6 HB5.out.size (fun k hk => (own5.out.lt k hk).1); clear hown6 hgrow6))
          go_ret
          exact .inr ⟨HM.out, g6, cp6, rfl, hcp6, os6, HB6.out⟩
    · have hv : Hid (k = blw zs x) := (blw_eq hk hs.out (fun h => absurd h hlt)).symm
      have HM : Hid (memI zs x = false) := decide_eq_false (fun g => by rw [← hv.out] at g; exact hlt g.1)
      have s1 : Hid (((zs.take k).map (Value.int .i64)).length = k * 1) := by simp [Hid]; omega
      have s2 : Hid (((zs.drop k).map (Value.int .i64)).length = (zs.length - k) * 1) := by simp [Hid]
      have s3 : Hid ((zs.take k).map (Value.int .i64) ++ [Value.int .i64 x] ++ (zs.drop k).map (Value.int .i64) = (joinL zs x).map (Value.int .i64)) := by unfold joinL; rw [← hv.out]; simp [Hid]
      have hN : k + 1 + (zs.length - k) = zs.length + 1 := by omega
      have hkc : k ≤ cap := by omega
      obtain ⟨A, hA, hAc⟩ : ∃ A : Addr, (if cap = k then some (⟨bk, off, none⟩ : Addr) else some ⟨bk, off + k, none⟩) = some A ∧ (¬ cap = k → A = ⟨bk, off + k, none⟩) := by
        by_cases hpc : cap = k
        · exact ⟨_, if_pos hpc, fun h => absurd hpc h⟩
        · exact ⟨_, if_neg hpc, fun _ => rfl⟩
      clear hAc
      have HA : Hid ((if cap = k then some (⟨bk, off, none⟩ : Addr) else some ⟨bk, off + k, none⟩) = some A) := hA
      have c1 : Hid (∀ (j : Nat) (u : Value), ((zs.take k).map (Value.int .i64))[j]? = some u → (w.alloc (.cells #[] 3)).cell? ((⟨bk, off, none⟩ : Addr).add j) = some u) := olds_cells (HR.out.alloc _) k _ rfl
      go_wp2_with (first | (at_builtin; refine wpList_append_own _ rfl (.tmp 34) (.tmp 37) 33 rfl w.heap.size 3 i0 (.int .i64 0) 1 8 Try.underlying33 hi hz0 hz1 hz2 rfl (by decide) _ _ _ rfl own0.out ⟨bk, off, none⟩ _ _ ((zs.take k).map (Value.int .i64)) rfl s1.out c1.out (ints_oneCell _ _) (by unfold maxLen; omega) (by omega) (by simp) ?_; intro v4 w4 hown4 hgrow4 hnil4; rw [Nat.zero_add, List.nil_append] at hown4; obtain ⟨g4, cp4, rfl⟩ := own_form hown4 (fun h => by have := (hnil4.1 h).1; cases this); have HB4 : Hid (Below w.heap.size w w4) := grown_bel ((Below.refl _ _).alloc (Nat.le_refl _) _) hgrow4 (by simp) (fun k hk => (own0.out.lt k hk).1); have own4 : Hid (w4.ownsRow w.heap.size 3 1 (.slice (some ⟨g4, 0, none⟩) k cp4) k ((zs.take k).map (Value.int .i64))) := hown4; clear hown4 hgrow4 hnil4 c1) | (at_builtin; refine wpList_append_own _ rfl (.tmp 39) (.tmp 41) 33 rfl w.heap.size 3 i0 (.int .i64 0) 1 8 Try.underlying33 hi hz0 hz1 hz2 rfl (by decide) _ _ _ rfl (own4.out.alloc _) ⟨w4.heap.size, 0, none⟩ 1 1 [.int .i64 x] rfl rfl (cell_one_new _ _ _) (by simp [Value.oneCell']) (by unfold maxLen; omega) (by omega) (alloc_size HB4.out) ?_; intro v5 w5 hown5 hgrow5 _; obtain ⟨g5, cp5, rfl⟩ := Joins.ownsRow_form hown5 (Nat.succ_pos _); have HB5 : Hid (Below w.heap.size w w5) := grown_bel (HB4.out.alloc HB4.out.size _) hgrow5 (alloc_size HB4.out) (fun k hk => (own4.out.lt k hk).1); have own5 : Hid (w5.ownsRow w.heap.size 3 1 (.slice (some ⟨g5, 0, none⟩) (k + 1) cp5) (k + 1) ((zs.take k).map (Value.int .i64) ++ [Value.int .i64 x])) := hown5; have c2 : Hid (∀ (j : Nat) (u : Value), ((zs.drop k).map (Value.int .i64))[j]? = some u → w5.cell? (A.add j) = some u) := tail_if HA.out (HR.out.keep HB5.out) hcap hk; clear hown5 hgrow5) | (at_builtin; refine wpList_append_own _ rfl (.tmp 43) (.tmp 46) 33 rfl w.heap.size 3 i0 (.int .i64 0) 1 8 Try.underlying33 hi hz0 hz1 hz2 rfl (by decide) _ _ _ rfl own5.out _ _ _ ((zs.drop k).map (Value.int .i64)) rfl s2.out c2.out (ints_oneCell _ _) (by unfold maxLen; omega) (by omega) HB5.out.size ?_; intro v6 w6 hown6 hgrow6 _; rw [hN, s3.out] at hown6; obtain ⟨g6, cp6, rfl⟩ := Joins.ownsRow_form hown6 (Nat.succ_pos _); obtain ⟨os6, len6, hcp6⟩ := OwnS.of_owns hown6; have HB6 : Hid (Below w.heap.size w w6) := grown_bel HB5.out hgrow6 HB5.out.size (fun k hk => (own5.out.lt k hk).1); clear hown6 hgrow6))
      go_ret
      exact .inr ⟨HM.out, g6, cp6, rfl, hcp6, os6, HB6.out⟩

end Go.Proofs.Ytejajlloipkkhaa
