/- LeaveRing, in the program. The specification's lists: a copy, a number put to its place, a ring without a member. The specification's ring without a member, and its list of those that come next. The specification's pointers: down, the point, the members of peers. The specification's list of the members of peers. The specification's good peers. A list of peers that grows by append. Peers under way: a box with a list that grows; the mathematics of ideal peers. Peers under way: one peer's box is written meanwhile. The specification's ideal peers. The specification's sameness of peers. The specification's IsIdeal. -/
import Derived.Deep.RegionLaw
import Derived.Laws.MakeOwn
import Derived.Deep.RegionHeld
import Derived.Deep.DeepCutAuto
import Derived.Test.YtgmdbihdnacpjaaZ0
import Derived.Test.YtgmdbihdnacpjaaZ1
namespace Go.Proofs.Ytgmdbihdnacpjaa
open Go.RowKit
set_option linter.unusedVariables false

def leaveL (zs : List Int) (x : Int) : List Int := zs.take (blw zs x) ++ zs.drop (blw zs x + 1)
def okL (b d : Int) (zs : List Int) (x : Int) : Bool := ringB b d zs && memI zs x && !decide (zs.length = 1)
theorem make_room (n : Nat) (hn : n ≤ 1048576) (w : World) :
    (Instr.makeSlice 29 (.int .i64 0) (.int .i64 (n : Int))).run Try.prog w = .ok (.slice (some ⟨w.heap.size, 0, none⟩) 0 n) (w.alloc (.cells (zv (List.replicate n 0)) 3)) := by
  obtain ⟨i0, hi, hz0, hz1, hz2⟩ := info_parts'
  have := run_make (P := Try.prog) w 29 3 i0 (.int .i64 0) Try.underlying29 hi hz0 .i64 .i64 0 (n : Int) (by omega) (by omega) (by rw [hz2]; omega) (by omega)
  rw [hz1] at this
  rw [this, ← made_zv]
  simp
  rfl
theorem own_room (w : World) (n : Nat) (hn : n ≤ 1048576) : (w.alloc (.cells (zv (List.replicate n 0)) 3)).ownsRow w.heap.size 3 1 (.slice (some ⟨w.heap.size, 0, none⟩) 0 n) 0 [] :=
  ⟨rfl, .inr ⟨w.heap.size, n, _, rfl, Nat.le_refl _, heap_alloc_new _ _, Nat.zero_le _, by unfold maxLen; omega, by simp [zv], by simp⟩⟩

/-- an append that fits into a row of the call's own, as one step of a region that draws -/
theorem step_append_fits {P : Program} {ops : Array Oper} {o : Oper} {a : Act} {w : World} {K : Act → World → Prop} {Q : Exit → Act → World → Prop} {E : Prop}
    (hg : o.guard = none) (s x : Operand) (t : TypeId) (hop : o.op = Op.call { callee := Callee.builtin Builtin.append, args := #[s, x], argTypes := #[t, t] })
    (base : Nat) (e : TypeId) (i : TypeInfo) (size : Nat) (h1 : P.underlying t = some (.slice e)) (h2 : P.info? e = some i) (h4 : i.size = size)
    (g k cap : Nat) (xs : List Value) (hs : a.eval s = .slice (some ⟨g, 0, none⟩) k cap) (hown : w.ownsRow base e size (.slice (some ⟨g, 0, none⟩) k cap) k xs)
    (ad : Addr) (m c : Nat) (news : List Value) (hx : a.eval x = .slice (some ad) m c) (hn : news.length = m * size) (hc : ∀ j u, news[j]? = some u → w.cell? (ad.add j) = some u) (h1c : ∀ u ∈ news, u.oneCell' = true) (b1 : k + m ≤ cap)
    (hK : ∀ w', w'.ownsRow base e size (.slice (some ⟨g, 0, none⟩) (k + m) cap) (k + m) (xs ++ news) → w.grownBy w' (some g) → K (a.put o.dst (.slice (some ⟨g, 0, none⟩) (k + m) cap)) w') :
    if Region.wanted o (yielded ops a.tmps) = true then Oper.wp P o a w K Q else E := by
  have hw : Region.wanted o (yielded ops a.tmps) = true := by simp [Region.wanted, hg]
  rw [if_pos hw]
  obtain ⟨w', hrun, r1, r2⟩ := run_append_fits (P := P) w base t o.type e i size h1 h2 h4 g k cap xs hown ad m c news hn hc h1c b1
  unfold Oper.wp
  simp [execOp, hop, resolve, invoke, builtin, hs, hx, hrun, Result.andThen]
  exact hK w' r1 r2

theorem below_drew' {n : Nat} {w w1 : World} (h : Below n w w1) : Below n w w1.drew := h.drew

end Go.Proofs.Ytgmdbihdnacpjaa
namespace Go.Proofs.Ytgmdbihdnacpjaa
open Go.RowKit
set_option linter.unusedVariables false

theorem own_form {w : World} {B n : Nat} {v : Value} {xs : List Value} (h : w.ownsRow B 3 1 v n xs) (hn : ¬ v = .slice none 0 0) : ∃ g cap, v = .slice (some ⟨g, 0, none⟩) n cap := by
  rcases Joins.ownsRow_forms h with ⟨h1, _⟩ | h1
  · exact absurd h1 hn
  · exact h1
theorem own_lit0 (w : World) : (w.alloc (.cells #[] 3)).ownsRow w.heap.size 3 1 (.slice (some ⟨w.heap.size, 0, none⟩) 0 0) 0 [] :=
  World.ownsRow_lit w #[] 0 (Nat.le_refl _) (Nat.zero_le _) rfl

set_option maxHeartbeats 800000 in
theorem lown_any (bk off cap : Nat) (zs : List Int) (w : World) (h1 : 1 ≤ zs.length) (h2 : zs.length ≤ 16) (hr : RowAt w (some ⟨bk, off, none⟩) zs) :
    Calls Try.prog 52 #[.slice (some ⟨bk, off, none⟩) zs.length cap] w fun e w' => ∃ g cp, e = .returned (.slice (some ⟨g, 0, none⟩) zs.length cp) ∧ zs.length ≤ cp ∧ OwnS w.heap.size w' g zs ∧ Below w.heap.size w w' := by
  obtain ⟨i0, hi, hz0, hz1, hz2⟩ := info_parts'
  have own0 : Hid ((w.alloc (.cells #[] 3)).ownsRow w.heap.size 3 1 (.slice (some ⟨w.heap.size, 0, none⟩) 0 0) 0 []) := own_lit0 w
  have s1 : Hid ((zs.map (Value.int .i64)).length = zs.length * 1) := by simp [Hid]
  have c1 : Hid (∀ (j : Nat) (u : Value), (zs.map (Value.int .i64))[j]? = some u → (w.alloc (.cells #[] 3)).cell? ((⟨bk, off, none⟩ : Addr).add j) = some u) := by
    have := olds_cells (hr.alloc (.cells #[] 3)) zs.length _ rfl
    rwa [List.take_length] at this
  go_enter Try.func52, Try.ntmps52
  go_wp2_with (at_builtin; refine wpList_append_own _ rfl (.tmp 3) (.tmp 4) 29 rfl w.heap.size 3 i0 (.int .i64 0) 1 8 Try.underlying29 hi hz0 hz1 hz2 rfl (by decide) _ _ _ rfl own0.out ⟨bk, off, none⟩ _ _ (zs.map (Value.int .i64)) rfl s1.out c1.out (ints_oneCell _ _) (by unfold maxLen; omega) (by omega) (by simp) ?_; intro v6 w6 hown6 hgrow6 _; rw [Nat.zero_add, List.nil_append] at hown6; obtain ⟨g6, cp6, rfl⟩ := Joins.ownsRow_form hown6 (by omega); obtain ⟨os6, len6, hcp6⟩ := OwnS.of_owns hown6; have HB6 : Hid (Below w.heap.size w w6) := grown_bel ((Below.refl _ _).alloc (Nat.le_refl _) _) hgrow6 (by simp) (fun k hk => (own0.out.lt k hk).1); clear hown6 hgrow6)
  go_ret
  exact ⟨g6, cp6, rfl, hcp6, os6, HB6.out⟩

set_option maxHeartbeats 3200000 in
theorem lput_any (bk off cap : Nat) (zs : List Int) (x : Int) (w : World) (h1 : 1 ≤ zs.length) (h2 : zs.length ≤ 16) (hcap : zs.length ≤ cap) (hr : RowAt w (some ⟨bk, off, none⟩) zs) :
    Calls Try.prog 92 #[.slice (some ⟨bk, off, none⟩) zs.length cap, .int .i64 x] w fun e w' => (memI zs x = true ∧ e = .returned (.slice (some ⟨bk, off, none⟩) zs.length cap) ∧ w' = w) ∨
      (memI zs x = false ∧ ∃ g cp, e = .returned (.slice (some ⟨g, 0, none⟩) (zs.length + 1) cp) ∧ zs.length + 1 ≤ cp ∧ OwnS w.heap.size w' g (joinL zs x) ∧ Below w.heap.size w w') := by
  obtain ⟨i0, hi, hz0, hz1, hz2⟩ := info_parts'
  have own0 : Hid ((w.alloc (.cells #[] 3)).ownsRow w.heap.size 3 1 (.slice (some ⟨w.heap.size, 0, none⟩) 0 0) 0 []) := own_lit0 w
  have HR : Hid (RowAt w (some ⟨bk, off, none⟩) zs) := hr
  clear hr
  go_enter Try.func92, Try.ntmps92
  go_wp2_with fail
  go_loop [5] (fun v => ∃ k : Nat, k ≤ zs.length ∧ v = .int .i64 k ∧ Hid (∀ i, i < k → zs.getD i 0 < x)) (fun v => zs.length - (intOf v).toNat)
  case atStart => exact ⟨0, Nat.zero_le _, rfl, fun i hi => by omega⟩
  case round =>
    obtain ⟨k, hk, rfl, hs⟩ := hrel
    by_cases hlt : k < zs.length
    · have hc1 := (rowAt_cell HR.out (by omega)).2 k hlt
      by_cases hx : zs.getD k 0 < x
      · have hn : Hid (∀ i, i < k + 1 → zs.getD i 0 < x) := fun i hi => by
          by_cases he : i = k
          · subst he; exact hx
          · exact hs.out i (by omega)
        generalize zs.getD k 0 = z at hc1 hx
        go_wp2_with fail
        go_round
        case rel => exact ⟨k + 1, by omega, by go_num, hn⟩
        case measure => simp [intOf]; omega
      · have hv : Hid (k = blw zs x) := (blw_eq (by omega) hs.out (fun _ => hx)).symm
        by_cases he : zs.getD k 0 = x
        · have HM : Hid (memI zs x = true) := decide_eq_true (by rw [← hv.out]; exact ⟨hlt, he⟩)
          have he' : (zs.getD k 0 == x) = true := beq_iff_eq.2 he
          clear he
          generalize zs.getD k 0 = z at hc1 hx he'
          go_wp2
          go_ret
          exact .inl ⟨HM.out, rfl, rfl⟩
        · have HM : Hid (memI zs x = false) := decide_eq_false (fun g => he (by rw [← hv.out] at g; exact g.2))
          have he' : (zs.getD k 0 == x) = false := by simp only [beq_eq_false_iff_ne, ne_eq]; exact he
          clear he
          generalize zs.getD k 0 = z at hc1 hx he'
          have s1 : Hid (((zs.take k).map (Value.int .i64)).length = k * 1) := by simp [Hid]; omega
          have s2 : Hid (((zs.drop k).map (Value.int .i64)).length = (zs.length - k) * 1) := by simp [Hid]
          have s3 : Hid ((zs.take k).map (Value.int .i64) ++ [Value.int .i64 x] ++ (zs.drop k).map (Value.int .i64) = (joinL zs x).map (Value.int .i64)) := by unfold joinL; rw [← hv.out]; simp [Hid]
          have hN : k + 1 + (zs.length - k) = zs.length + 1 := by omega
          have hkc : k ≤ cap := by omega
          have c1 : Hid (∀ (j : Nat) (u : Value), ((zs.take k).map (Value.int .i64))[j]? = some u → (w.alloc (.cells #[] 3)).cell? ((⟨bk, off, none⟩ : Addr).add j) = some u) := olds_cells (HR.out.alloc _) k _ rfl
          go_wp2_with (first | (at_builtin; refine wpList_append_own _ rfl (.tmp 34) (.tmp 37) 29 rfl w.heap.size 3 i0 (.int .i64 0) 1 8 Try.underlying29 hi hz0 hz1 hz2 rfl (by decide) _ _ _ rfl own0.out ⟨bk, off, none⟩ _ _ ((zs.take k).map (Value.int .i64)) rfl s1.out c1.out (ints_oneCell _ _) (by unfold maxLen; omega) (by omega) (by simp) ?_; intro v4 w4 hown4 hgrow4 hnil4; rw [Nat.zero_add, List.nil_append] at hown4; obtain ⟨g4, cp4, rfl⟩ := own_form hown4 (fun h => by have := (hnil4.1 h).1; cases this); have HB4 : Hid (Below w.heap.size w w4) := grown_bel ((Below.refl _ _).alloc (Nat.le_refl _) _) hgrow4 (by simp) (fun k hk => (own0.out.lt k hk).1); have own4 : Hid (w4.ownsRow w.heap.size 3 1 (.slice (some ⟨g4, 0, none⟩) k cp4) k ((zs.take k).map (Value.int .i64))) := hown4; clear hown4 hgrow4 hnil4 c1) | (at_builtin; refine wpList_append_own _ rfl (.tmp 39) (.tmp 41) 29 rfl w.heap.size 3 i0 (.int .i64 0) 1 8 Try.underlying29 hi hz0 hz1 hz2 rfl (by decide) _ _ _ rfl (own4.out.alloc _) ⟨w4.heap.size, 0, none⟩ 1 1 [.int .i64 x] rfl rfl (cell_one_new _ _ _) (by simp [Value.oneCell']) (by unfold maxLen; omega) (by omega) (alloc_size HB4.out) ?_; intro v5 w5 hown5 hgrow5 _; obtain ⟨g5, cp5, rfl⟩ := Joins.ownsRow_form hown5 (Nat.succ_pos _); have HB5 : Hid (Below w.heap.size w w5) := grown_bel (HB4.out.alloc HB4.out.size _) hgrow5 (alloc_size HB4.out) (fun k hk => (own4.out.lt k hk).1); have own5 : Hid (w5.ownsRow w.heap.size 3 1 (.slice (some ⟨g5, 0, none⟩) (k + 1) cp5) (k + 1) ((zs.take k).map (Value.int .i64) ++ [Value.int .i64 x])) := hown5; have c2 : Hid (∀ (j : Nat) (u : Value), ((zs.drop k).map (Value.int .i64))[j]? = some u → w5.cell? ((⟨bk, off + k, none⟩ : Addr).add j) = some u) := tail_cells (HR.out.keep HB5.out) k; clear hown5 hgrow5) | (at_builtin; refine wpList_append_own _ rfl (.tmp 43) (.tmp 46) 29 rfl w.heap.size 3 i0 (.int .i64 0) 1 8 Try.underlying29 hi hz0 hz1 hz2 rfl (by decide) _ _ _ rfl own5.out _ _ _ ((zs.drop k).map (Value.int .i64)) rfl s2.out c2.out (ints_oneCell _ _) (by unfold maxLen; omega) (by omega) HB5.out.size ?_; intro v6 w6 hown6 hgrow6 _; rw [hN, s3.out] at hown6; obtain ⟨g6, cp6, rfl⟩ := Joins.ownsRow_form hown6 (Nat.succ_pos _); obtain ⟨os6, len6, hcp6⟩ := OwnS.of_owns hown6; have HB6 : Hid (Below w.heap.size w w6) := grown_bel HB5.out hgrow6 HB5.out.size (fun k hk => (own5.out.lt k hk).1); clear hown6 hgrow6))
          go_ret
          exact .inr ⟨HM.out, g6, cp6, rfl, hcp6, os6, HB6.out⟩
    · have hv : Hid (k = blw zs x) := (blw_eq hk hs.out (fun h => absurd h hlt)).symm
      have HM : Hid (memI zs x = false) := decide_eq_false (fun g => by rw [← hv.out] at g; exact hlt g.1)
      have s1 : Hid (((zs.take k).map (Value.int .i64)).length = k * 1) := by simp [Hid]; omega
      have s2 : Hid (((zs.drop k).map (Value.int .i64)).length = (zs.length - k) * 1) := by simp [Hid]
      have s3 : Hid ((zs.take k).map (Value.int .i64) ++ [Value.int .i64 x] ++ (zs.drop k).map (Value.int .i64) = (joinL zs x).map (Value.int .i64)) := by unfold joinL; rw [← hv.out]; simp [Hid]
      have hN : k + 1 + (zs.length - k) = zs.length + 1 := by omega
      have hkc : k ≤ cap := by omega
      obtain ⟨A, hA, hAc⟩ : ∃ A : Addr, (if cap = k then some (⟨bk, off, none⟩ : Addr) else some ⟨bk, off + k, none⟩) = some A ∧ (¬ cap = k → A = ⟨bk, off + k, none⟩) := by
        by_cases hpc : cap = k
        · exact ⟨_, if_pos hpc, fun h => absurd hpc h⟩
        · exact ⟨_, if_neg hpc, fun _ => rfl⟩
      clear hAc
      have HA : Hid ((if cap = k then some (⟨bk, off, none⟩ : Addr) else some ⟨bk, off + k, none⟩) = some A) := hA
      have c1 : Hid (∀ (j : Nat) (u : Value), ((zs.take k).map (Value.int .i64))[j]? = some u → (w.alloc (.cells #[] 3)).cell? ((⟨bk, off, none⟩ : Addr).add j) = some u) := olds_cells (HR.out.alloc _) k _ rfl
      go_wp2_with (first | (at_builtin; refine wpList_append_own _ rfl (.tmp 34) (.tmp 37) 29 rfl w.heap.size 3 i0 (.int .i64 0) 1 8 Try.underlying29 hi hz0 hz1 hz2 rfl (by decide) _ _ _ rfl own0.out ⟨bk, off, none⟩ _ _ ((zs.take k).map (Value.int .i64)) rfl s1.out c1.out (ints_oneCell _ _) (by unfold maxLen; omega) (by omega) (by simp) ?_; intro v4 w4 hown4 hgrow4 hnil4; rw [Nat.zero_add, List.nil_append] at hown4; obtain ⟨g4, cp4, rfl⟩ := own_form hown4 (fun h => by have := (hnil4.1 h).1; cases this); have HB4 : Hid (Below w.heap.size w w4) := grown_bel ((Below.refl _ _).alloc (Nat.le_refl _) _) hgrow4 (by simp) (fun k hk => (own0.out.lt k hk).1); have own4 : Hid (w4.ownsRow w.heap.size 3 1 (.slice (some ⟨g4, 0, none⟩) k cp4) k ((zs.take k).map (Value.int .i64))) := hown4; clear hown4 hgrow4 hnil4 c1) | (at_builtin; refine wpList_append_own _ rfl (.tmp 39) (.tmp 41) 29 rfl w.heap.size 3 i0 (.int .i64 0) 1 8 Try.underlying29 hi hz0 hz1 hz2 rfl (by decide) _ _ _ rfl (own4.out.alloc _) ⟨w4.heap.size, 0, none⟩ 1 1 [.int .i64 x] rfl rfl (cell_one_new _ _ _) (by simp [Value.oneCell']) (by unfold maxLen; omega) (by omega) (alloc_size HB4.out) ?_; intro v5 w5 hown5 hgrow5 _; obtain ⟨g5, cp5, rfl⟩ := Joins.ownsRow_form hown5 (Nat.succ_pos _); have HB5 : Hid (Below w.heap.size w w5) := grown_bel (HB4.out.alloc HB4.out.size _) hgrow5 (alloc_size HB4.out) (fun k hk => (own4.out.lt k hk).1); have own5 : Hid (w5.ownsRow w.heap.size 3 1 (.slice (some ⟨g5, 0, none⟩) (k + 1) cp5) (k + 1) ((zs.take k).map (Value.int .i64) ++ [Value.int .i64 x])) := hown5; have c2 : Hid (∀ (j : Nat) (u : Value), ((zs.drop k).map (Value.int .i64))[j]? = some u → w5.cell? (A.add j) = some u) := tail_if HA.out (HR.out.keep HB5.out) hcap hk; clear hown5 hgrow5) | (at_builtin; refine wpList_append_own _ rfl (.tmp 43) (.tmp 46) 29 rfl w.heap.size 3 i0 (.int .i64 0) 1 8 Try.underlying29 hi hz0 hz1 hz2 rfl (by decide) _ _ _ rfl own5.out _ _ _ ((zs.drop k).map (Value.int .i64)) rfl s2.out c2.out (ints_oneCell _ _) (by unfold maxLen; omega) (by omega) HB5.out.size ?_; intro v6 w6 hown6 hgrow6 _; rw [hN, s3.out] at hown6; obtain ⟨g6, cp6, rfl⟩ := Joins.ownsRow_form hown6 (Nat.succ_pos _); obtain ⟨os6, len6, hcp6⟩ := OwnS.of_owns hown6; have HB6 : Hid (Below w.heap.size w w6) := grown_bel HB5.out hgrow6 HB5.out.size (fun k hk => (own5.out.lt k hk).1); clear hown6 hgrow6))
      go_ret
      exact .inr ⟨HM.out, g6, cp6, rfl, hcp6, os6, HB6.out⟩

end Go.Proofs.Ytgmdbihdnacpjaa
namespace Go.Proofs.Ytgmdbihdnacpjaa
open Go.RowKit
set_option linter.unusedVariables false

def dropX (zs : List Int) (x : Int) : List Int := zs.filter (fun y => !decide (y = x))
theorem dropX_take {zs : List Int} {x : Int} {k : Nat} (hk : k < zs.length) : dropX (zs.take (k + 1)) x = dropX (zs.take k) x ++ (if zs.getD k 0 = x then [] else [zs.getD k 0]) := by
  unfold dropX
  rw [List.take_succ_eq_append_getElem hk, List.filter_append]
  congr 1
  have e : zs.getD k 0 = zs[k] := by simp [List.getD_eq_getElem?_getD, List.getElem?_eq_getElem hk]
  rw [e]
  by_cases h : zs[k] = x
  · simp [h]
  · simp [h]
theorem dropX_le (zs : List Int) (x : Int) (k : Nat) : (dropX (zs.take k) x).length ≤ zs.length := by
  unfold dropX
  refine Nat.le_trans (List.length_filter_le _ _) ?_
  simp; omega
theorem dropX_none {l : List Int} {x : Int} (h : ∀ i, i < l.length → ¬ l.getD i 0 = x) : dropX l x = l := by
  unfold dropX
  rw [List.filter_eq_self]
  intro y hy
  obtain ⟨i, hi, rfl⟩ := List.mem_iff_getElem.1 hy
  have := h i hi
  rw [List.getD_eq_getElem?_getD, List.getElem?_eq_getElem hi] at this
  simpa using this
theorem dropX_leave {b d : Int} {zs : List Int} (R : Ring b d zs) {x : Int} (h : memI zs x = true) : dropX zs x = leaveL zs x := by
  have hm := of_decide_eq_true h
  obtain ⟨hlt, he⟩ := hm
  unfold leaveL
  obtain ⟨p, hp⟩ : ∃ p, p = blw zs x := ⟨_, rfl⟩
  rw [← hp] at hlt he ⊢
  have e : zs = zs.take p ++ (zs.getD p 0 :: zs.drop (p + 1)) := by
    conv => lhs; rw [← List.take_append_drop p zs]
    rw [List.drop_eq_getElem_cons hlt, List.getD_eq_getElem?_getD, List.getElem?_eq_getElem hlt]
    rfl
  conv => lhs; rw [e]
  unfold dropX
  rw [List.filter_append, List.filter_cons_of_neg (by rw [he]; simp)]
  have h1 : dropX (zs.take p) x = zs.take p := dropX_none (fun i hi hc => by
    rw [List.length_take] at hi
    have hip : i < p := by omega
    have := R.ris i p hip hlt
    rw [List.getD_eq_getElem?_getD, List.getElem?_take_of_lt hip, ← List.getD_eq_getElem?_getD] at hc
    omega)
  have h2 : dropX (zs.drop (p + 1)) x = zs.drop (p + 1) := dropX_none (fun i hi hc => by
    rw [List.length_drop] at hi
    have := R.ris p (p + 1 + i) (by omega) (by omega)
    rw [List.getD_eq_getElem?_getD, List.getElem?_drop, ← List.getD_eq_getElem?_getD] at hc
    omega)
  unfold dropX at h1 h2
  rw [h1, h2]
theorem leaveL_len {zs : List Int} {x : Int} (h : memI zs x = true) : (leaveL zs x).length = zs.length - 1 := by
  have hm := (of_decide_eq_true h).1
  unfold leaveL
  simp; omega

theorem own_snoc {w : World} {B n : Nat} {v : Value} {l l' : List Int} {z : Int} (e : l' = l ++ [z]) (h : w.ownsRow B n 1 v (l.length + 1) (l.map (Value.int .i64) ++ [Value.int .i64 z])) : w.ownsRow B n 1 v l'.length (l'.map (Value.int .i64)) := by
  rw [e, List.length_append, List.map_append]; exact h

def lstL (zs : List Int) (x : Int) (k : Nat) : List Int := (List.range k).map (fun i => zs.getD ((uptI zs x + i) % zs.length) 0)
theorem lstL_len (zs : List Int) (x : Int) (k : Nat) : (lstL zs x k).length = k := by simp [lstL]
theorem lstL_succ (zs : List Int) (x : Int) (k : Nat) : lstL zs x (k + 1) = lstL zs x k ++ [zs.getD ((uptI zs x + k) % zs.length) 0] := by
  unfold lstL; rw [List.range_succ, List.map_append]; rfl
theorem nxt_go {b d : Int} {zs : List Int} (R : Ring b d zs) (u i : Nat) : nxtI zs (zs.getD ((u + i) % zs.length) 0) = zs.getD ((u + (i + 1)) % zs.length) 0 := by
  have hl := R.l1
  rw [nxt_at R (Nat.mod_lt _ (by omega)), Nat.mod_add_mod, Nat.add_assoc]
end Go.Proofs.Ytgmdbihdnacpjaa
namespace Go.Proofs.Ytgmdbihdnacpjaa
open Go.RowKit
set_option linter.unusedVariables false

def dwnI (zs : List Int) (x : Int) : Int := if hasB zs x = true then x else prvI zs x
def pntI (b d : Int) (zs : List Int) (x : Int) : Int := dwnI zs (shf b d x 0)
theorem dwn_rng {b d : Int} {zs : List Int} (R : Ring b d zs) {x : Int} (x1 : 0 ≤ x) (x2 : x < sz b) : 0 ≤ dwnI zs x ∧ dwnI zs x < sz b := by
  unfold dwnI
  split
  · exact ⟨x1, x2⟩
  · exact prv_rng R x
theorem dwn_has {b d : Int} {zs : List Int} (R : Ring b d zs) (x : Int) : hasB zs (dwnI zs x) = true := by
  unfold dwnI
  split
  · assumption
  · obtain ⟨t, ht, e, _⟩ := prv_place R x
    exact decide_eq_true ⟨t, ht, e.symm⟩

set_option maxHeartbeats 800000 in
theorem ldown_any (b d : Int) (a : Option Addr) (cap : Nat) (zs : List Int) (x : Int) (w : World) (R : Ring b d zs) (hr : RowAt w a zs) (x1 : 0 ≤ x) (x2 : x < sz b) :
    Calls Try.prog 107 #[.agg #[.int .i64 b, .int .i64 d], .slice a zs.length cap, .int .i64 x] w fun e w' => e = .returned (.int .i64 (dwnI zs x)) ∧ Below w.heap.size w w' := by
  have hm : zs.length ≤ maxLen := by have := R.l2; unfold maxLen; omega
  have hr1 := hr.alloc (.cells #[.int .i64 b, .int .i64 d] 25)
  have CH := lhas_any a cap zs x _ hm hr1
  have CP := lprev_any b d a cap zs x _ R hr1 x1 x2
  unfold dwnI
  cases hh : hasB zs x
  · rw [hh] at CH
    rw [if_neg (by simp)]
    go_enter Try.func107, Try.ntmps107
    go_wp2_with fail
    refine CH.mono ?_
    rintro e w1 ⟨rfl, hw1⟩
    subst hw1
    go_wp2_with fail
    refine CP.mono ?_
    rintro e w2 ⟨rfl, hw2⟩
    go_wp2
    go_ret
    exact ⟨rfl, bel1 hw2 (by simp)⟩
  · rw [hh] at CH
    rw [if_pos rfl]
    go_enter Try.func107, Try.ntmps107
    go_wp2_with fail
    refine CH.mono ?_
    rintro e w1 ⟨rfl, hw1⟩
    subst hw1
    go_wp2
    go_ret
    exact ⟨rfl, (Below.refl _ _).alloc (Nat.le_refl _) _⟩

set_option maxHeartbeats 800000 in
theorem lpoint_any (b d : Int) (a : Option Addr) (cap : Nat) (zs : List Int) (x : Int) (w : World) (R : Ring b d zs) (hr : RowAt w a zs) (x1 : 0 ≤ x) (x2 : x < sz b) :
    Calls Try.prog 85 #[.agg #[.int .i64 b, .int .i64 d], .slice a zs.length cap, .int .i64 x] w fun e w' => e = .returned (.int .i64 (pntI b d zs x)) ∧ Below w.heap.size w w' := by
  obtain ⟨hb1, hb2, hd1, hd2, _⟩ := gsB_true R.gs
  obtain ⟨hs1, hs2⟩ := sz_bd hb1 hb2
  obtain ⟨hs3, hs4⟩ := sz_bd hd1 (by omega)
  obtain ⟨k1, k2⟩ := shf_bd d x 0 hb1 hb2
  have hr1 := hr.alloc (.cells #[.int .i64 b, .int .i64 d] 25)
  have HR1 : Hid (RowAt (w.alloc (.cells #[.int .i64 b, .int .i64 d] 25)) a zs) := hr1
  have RR : Hid (Ring b d zs) := R
  clear R hr hr1
  unfold pntI
  go_enter Try.func85, Try.ntmps85
  go_wp2
  have c0 : ∀ p : Kin (w.heap.size + 1) (w.alloc (.cells #[.int .i64 b, .int .i64 d] 25)), p.v.cell? ⟨w.heap.size, 0, none⟩ = some (.int .i64 b) := kin_cell (by omega) (by go_simp)
  have c1 : ∀ p : Kin (w.heap.size + 1) (w.alloc (.cells #[.int .i64 b, .int .i64 d] 25)), p.v.cell? ⟨w.heap.size, 1, none⟩ = some (.int .i64 d) := kin_cell (by omega) (by go_simp)
  refine region_kin (w.heap.size + 1) (by kernel_rfl) (by kernel_rfl) (fun hne => ?_)
  repeat (go_big_quiet_step (first | (go_at_call 71; exact kin_of (by simp) (lshift_any b d x 0 _ hb1 hb2 hd1 (by omega) x1 x2 (by omega) (by omega))) | (go_at_call 107; exact kin_of (by simp) (ldown_any b d a cap zs _ _ RR.out (HR1.out.keepB (Kin.bel _) (by simp)) k1 k2))))
  refine wpQuiet_nil ?_
  intro _ hw'
  obtain ⟨⟨w1, hw1⟩, hw''⟩ := hw'
  obtain rfl : _ = w1 := hw''
  clear c0 c1 hne
  go_wp2
  go_ret
  exact ⟨rfl, ((Below.refl _ _).alloc (Nat.le_refl _) _).trans (hw1.mono (by omega))⟩
end Go.Proofs.Ytgmdbihdnacpjaa
namespace Go.Proofs.Ytgmdbihdnacpjaa
open Go.RowKit
set_option linter.unusedVariables false
def idsP (ps : List Pr) : List Int := ps.map Pr.id
theorem idsP_len (ps : List Pr) : (idsP ps).length = ps.length := by simp [idsP]
theorem idsP_get (ps : List Pr) (i : Nat) : (idsP ps).getD i 0 = (ps.getD i pr0).id := by
  simp only [idsP, List.getD_eq_getElem?_getD, List.getElem?_map]
  cases ps[i]? <;> rfl
theorem idsP_take {ps : List Pr} {k : Nat} (hk : k < ps.length) : idsP (ps.take (k + 1)) = idsP (ps.take k) ++ [(ps.getD k pr0).id] := by
  unfold idsP
  rw [List.take_succ_eq_append_getElem hk, List.map_append]
  simp [List.getD_eq_getElem?_getD, hk]
theorem alloc2_size {w w4 : World} {o q : Obj} (h : Below w.heap.size w w4) : w.heap.size ≤ ((w4.alloc o).alloc q).heap.size := by have := h.size; simp; omega
theorem cell_two_new (w : World) (o : Obj) (x : Value) (t : TypeId) : ∀ j u, [x][j]? = some u → ((w.alloc o).alloc (.cells #[x] t)).cell? ((⟨w.heap.size + 1, 0, none⟩ : Addr).add j) = some u := by
  have := cell_one_new (w.alloc o) x t
  have e : (w.alloc o).heap.size = w.heap.size + 1 := by simp
  rwa [e] at this
set_option maxHeartbeats 3200000 in
theorem lmembers_any (b d : Int) (a : Option Addr) (cap : Nat) (ps : List Pr) (w : World) (hm : ps.length ≤ 1048576) (hr : PeersAt w a ps) :
    Calls Try.prog 54 #[.agg #[.int .i64 b, .int .i64 d, .slice a ps.length cap]] w fun e w' => ∃ v, e = .returned v ∧ w'.ownsRow w.heap.size 3 1 v (idsP ps).length ((idsP ps).map (Value.int .i64)) ∧ Below w.heap.size w w' := by
  obtain ⟨i0, hi, hz0, hz1, hz2⟩ := info_parts'
  have HR : Hid (PeersAt w a ps) := hr
  clear hr
  go_enter Try.func54, Try.ntmps54
  go_wp2_with fail
  go_loopw [3, 9] (fun vs vi wr => ∃ (vo : Value) (k : Nat), vs = vo ∧ k ≤ ps.length ∧ vi = .int .i64 k ∧ wr.ownsRow w.heap.size 3 1 vo (idsP (ps.take k)).length ((idsP (ps.take k)).map (Value.int .i64)) ∧ Below w.heap.size w wr) (fun _ vi _ => ps.length - (intOf vi).toNat)
  case atStart => exact ⟨_, 0, rfl, Nat.zero_le _, rfl, World.ownsRow_nil _ _ _ _, (Below.refl _ _).alloc (Nat.le_refl _) _⟩
  case round =>
    obtain ⟨vo, k, hvo, hk, rfl, hown, hbel⟩ := hrel
    have hvo := hvo.symm
    subst hvo
    have HO : Hid (wr.ownsRow w.heap.size 3 1 vo (idsP (ps.take k)).length ((idsP (ps.take k)).map (Value.int .i64))) := hown
    have HB : Hid (Below w.heap.size w wr) := hbel
    clear hown hbel
    by_cases hlt : k < ps.length
    · obtain ⟨bk, off, rfl⟩ := peersAt_form HR.out (by omega)
      obtain ⟨c0, c1, c2, ab, cb, c3, _, hn, _⟩ := (peersAt_cell (HR.out.keep HB.out) (by omega)).2 k hlt
      have ht := idsP_take hlt
      have hle : (idsP (ps.take k)).length ≤ 1048576 := by rw [idsP_len, List.length_take]; omega
      have HT : Hid (idsP (ps.take (k + 1)) = idsP (ps.take k) ++ [(ps.getD k pr0).id]) := ht
      clear ht
      generalize (ps.getD k pr0).backs.length = nb at c3 hn
      generalize (ps.getD k pr0).id = x0 at c0 HT
      generalize (ps.getD k pr0).succ = x1 at c1
      generalize (ps.getD k pr0).point = x2 at c2
      go_wp2_with (at_builtin; refine wpList_append_own _ rfl (.tmp 13) (.tmp 16) 29 rfl w.heap.size 3 i0 (.int .i64 0) 1 8 Try.underlying29 hi hz0 hz1 hz2 rfl (by decide) _ _ _ rfl ((HO.out.alloc _).alloc _) ⟨wr.heap.size + 1, 0, none⟩ 1 1 [.int .i64 x0] rfl rfl (cell_two_new _ _ _ _) (by simp [Value.oneCell']) (by unfold maxLen; omega) (by omega) (alloc2_size HB.out) ?_; intro v5 w5 hown5 hgrow5 _; have HB5 : Hid (Below w.heap.size w w5) := grown_bel ((HB.out.alloc HB.out.size _).alloc (alloc_size HB.out) _) hgrow5 (alloc2_size HB.out) (fun k hk => (HO.out.lt k hk).1); have HO5 : Hid (w5.ownsRow w.heap.size 3 1 v5 (idsP (ps.take (k + 1))).length ((idsP (ps.take (k + 1))).map (Value.int .i64))) := own_snoc HT.out hown5; clear hown5 hgrow5)
      go_roundw
      case rel => exact ⟨_, k + 1, rfl, by omega, by go_num, HO5.out, HB5.out⟩
      case measure => simp [intOf]; omega
    · have hO := HO.out
      rw [List.take_of_length_le (by omega)] at hO
      have HO2 : Hid (wr.ownsRow w.heap.size 3 1 vo (idsP ps).length ((idsP ps).map (Value.int .i64))) := hO
      clear hO
      go_wp2
      go_ret
      exact ⟨_, rfl, HO2.out, HB.out⟩
end Go.Proofs.Ytgmdbihdnacpjaa
namespace Go.Proofs.Ytgmdbihdnacpjaa
open Go.RowKit
set_option linter.unusedVariables false
theorem own_rowAt {w : World} {B : Nat} {v : Value} {l : List Int} (h : w.ownsRow B 3 1 v l.length (l.map (Value.int .i64))) : ∃ a cap, v = .slice a l.length cap ∧ l.length ≤ cap ∧ RowAt w a l := by
  by_cases h0 : 0 < l.length
  · obtain ⟨g, cap, rfl⟩ := Joins.ownsRow_form h h0
    obtain ⟨os, _, hc⟩ := OwnS.of_owns h
    exact ⟨_, cap, rfl, hc, os.rowAt⟩
  · have hl : l = [] := List.eq_nil_of_length_eq_zero (by omega)
    subst hl
    rcases Joins.ownsRow_forms h with ⟨h1, _⟩ | ⟨g, cap, h1⟩
    · exact ⟨none, 0, h1, Nat.zero_le _, .inl rfl⟩
    · exact ⟨_, cap, h1, Nat.zero_le _, .inl rfl⟩
/-- the box of peers that came in -/
structure BxP (w wr : World) (b d : Int) (v : Value) : Prop where
  bel : Below w.heap.size w wr
  lt : w.heap.size < wr.heap.size
  c0 : wr.cell? ⟨w.heap.size, 0, none⟩ = some (.int .i64 b)
  c1 : wr.cell? ⟨w.heap.size, 1, none⟩ = some (.int .i64 d)
  c2 : wr.cell? ⟨w.heap.size, 2, none⟩ = some v
theorem BxP.keep {w wr w1 : World} {b d : Int} {v : Value} (h : BxP w wr b d v) (hb : Below wr.heap.size wr w1) : BxP w w1 b d v :=
  ⟨belt h.bel hb, Nat.lt_of_lt_of_le h.lt hb.size, (hb.cell h.lt).trans h.c0, (hb.cell h.lt).trans h.c1, (hb.cell h.lt).trans h.c2⟩
theorem bxP1 {w w1 : World} {b d : Int} {v : Value} {T : TypeId} {N : Nat} (hb : Below N (w.alloc (.cells #[.int .i64 b, .int .i64 d, v] T)) w1) (hN : w.heap.size + 1 ≤ N) : BxP w w1 b d v := by
  have h0 : BxP w (w.alloc (.cells #[.int .i64 b, .int .i64 d, v] T)) b d v := ⟨(Below.refl _ _).alloc (Nat.le_refl _) _, by simp, by go_simp, by go_simp, by go_simp⟩
  exact h0.keep (hb.mono (by simp; omega))
def prB (zs : List Int) (p : Pr) : Bool := decide (p.succ = nxtI zs p.id) && hasB zs p.point && decide (p.backs.length ≤ 3) && decide (∀ i, i < p.backs.length → hasB zs (p.backs.getD i 0) = true)
def goodP (b d : Int) (ps : List Pr) : Bool := ringB b d (idsP ps) && decide (∀ i, i < ps.length → prB (idsP ps) (ps.getD i pr0) = true)
theorem prB_parts {zs : List Int} {p : Pr} : prB zs p = true ↔ p.succ = nxtI zs p.id ∧ hasB zs p.point = true ∧ p.backs.length ≤ 3 ∧ ∀ i, i < p.backs.length → hasB zs (p.backs.getD i 0) = true := by
  unfold prB
  simp only [Bool.and_eq_true, decide_eq_true_eq]
  constructor
  · rintro ⟨⟨⟨h1, h2⟩, h3⟩, h4⟩; exact ⟨h1, h2, h3, h4⟩
  · rintro ⟨h1, h2, h3, h4⟩; exact ⟨⟨⟨h1, h2⟩, h3⟩, h4⟩
theorem goodP_no {b d : Int} {ps : List Pr} {k : Nat} (hk : k < ps.length) (h : ¬ prB (idsP ps) (ps.getD k pr0) = true) : goodP b d ps = false := by
  unfold goodP
  rw [decide_eq_false (fun hh => h (hh k hk)), Bool.and_false]
theorem goodP_yes {b d : Int} {ps : List Pr} (hg : ringB b d (idsP ps) = true) (h : ∀ i, i < ps.length → prB (idsP ps) (ps.getD i pr0) = true) : goodP b d ps = true := by
  unfold goodP
  rw [hg, decide_eq_true h]; rfl
theorem cell_alloc_old' {w : World} {b i : Nat} (o : Obj) (h : b < w.heap.size) : True → (w.alloc o).cell? ⟨b, i, none⟩ = w.cell? ⟨b, i, none⟩ := fun _ => ((Below.refl w.heap.size w).alloc (Nat.le_refl _) o).cell (p := ⟨b, i, none⟩) h
set_option maxHeartbeats 6400000 in
theorem lgood_any (b d : Int) (a : Option Addr) (cap : Nat) (ps : List Pr) (w : World) (hm : ps.length ≤ 1048576) (hr : PeersAt w a ps) :
    Calls Try.prog 50 #[.agg #[.int .i64 b, .int .i64 d, .slice a ps.length cap]] w fun e w' => e = .returned (.bool (goodP b d ps)) ∧ Below w.heap.size w w' := by
  have hr1 := hr.alloc (.cells #[.int .i64 b, .int .i64 d, .slice a ps.length cap] 28)
  have hil := idsP_len ps
  have HR : Hid (PeersAt w a ps) := hr
  clear hr
  cases hg : ringB b d (idsP ps)
  · have hv : Hid (goodP b d ps = false) := by unfold Hid goodP; rw [hg]; rfl
    go_enter Try.func50, Try.ntmps50
    go_wp2_with fail
    refine (lmembers_any b d a cap ps _ hm hr1).mono ?_
    rintro e w1 ⟨v1, rfl, hown1, hw1⟩
    obtain ⟨a1, cap1, rfl, hc1, hrow1⟩ := own_rowAt hown1
    rw [hil] at hc1
    have CR := lring_any b d a1 cap1 (idsP ps) w1 (by unfold maxLen; omega) hrow1
    rw [hg, hil] at CR
    obtain ⟨bel1', _, q0, q1, q2⟩ := bxP1 hw1 (by simp)
    go_wp2_with fail
    refine CR.mono ?_
    rintro e w2 ⟨rfl, hw2⟩
    go_wp2
    go_ret
    exact ⟨ret_bool hv.out.symm, belt bel1' hw2⟩
  · have R := ringB_true hg
    have l2 := R.l2
    rw [hil] at l2
    go_enter Try.func50, Try.ntmps50
    go_wp2_with fail
    refine (lmembers_any b d a cap ps _ hm hr1).mono ?_
    rintro e w1 ⟨v1, rfl, hown1, hw1⟩
    obtain ⟨a1, cap1, rfl, hc1, hrow1⟩ := own_rowAt hown1
    rw [hil] at hc1
    have CR := lring_any b d a1 cap1 (idsP ps) w1 (by unfold maxLen; omega) hrow1
    rw [hg, hil] at CR
    have BX1 : Hid (BxP w w1 b d (.slice a ps.length cap)) := bxP1 hw1 (by simp)
    have HI1 : Hid (RowAt w1 a1 (idsP ps)) := hrow1
    clear hown1 hrow1 hr1 hw1
    obtain ⟨_, _, q0, q1, _⟩ := BX1.out
    go_wp2_with fail
    refine CR.mono ?_
    rintro e w2 ⟨rfl, hw2⟩
    clear CR
    have BX2 : Hid (BxP w w2 b d (.slice a ps.length cap)) := BX1.out.keep hw2
    have HI2 : Hid (RowAt w2 a1 (idsP ps)) := HI1.out.keep hw2
    have RR : Hid (Ring b d (idsP ps)) := R
    clear BX1 HI1 hw2 q0 q1 R
    obtain ⟨_, _, _, _, q2⟩ := BX2.out
    have q2' : Hid (w2.cell? ⟨w.heap.size, 2, none⟩ = some (.slice a ps.length cap)) := q2
    go_wp2_with fail
    go_loopw [18] (fun vi wr => ∃ (k : Nat), k ≤ ps.length ∧ vi = .int .i64 k ∧ Hid (BxP w wr b d (.slice a ps.length cap)) ∧ Hid (RowAt wr a1 (idsP ps)) ∧ Hid (∀ i, i < k → prB (idsP ps) (ps.getD i pr0) = true)) (fun vi _ => ps.length - (intOf vi).toNat)
    case atStart => exact ⟨0, Nat.zero_le _, rfl, BX2, HI2, fun i hi => by omega⟩
    case round =>
      obtain ⟨k, hk, rfl, BX, HI, HS⟩ := hrel
      clear BX2 HI2 q2 q2'
      by_cases hlt : k < ps.length
      · obtain ⟨bk, off, rfl⟩ := peersAt_form HR.out (by omega)
        have HB : Hid (Below w.heap.size w wr) := BX.out.bel
        obtain ⟨_, qlt, q0, q1, _⟩ := BX.out
        obtain ⟨c0, c1, c2, ab, cb, c3, hrb, hn, _⟩ := (peersAt_cell (HR.out.keep HB.out) (by omega)).2 k hlt
        have hid := idsP_get ps k
        obtain ⟨x01, x02⟩ := RR.out.rng k (by omega)
        rw [hid] at x01 x02
        have HN : Hid (¬ prB (idsP ps) (ps.getD k pr0) = true → goodP b d ps = false) := goodP_no hlt
        have HY : Hid (prB (idsP ps) (ps.getD k pr0) = true → ∀ i, i < k + 1 → prB (idsP ps) (ps.getD i pr0) = true) := fun hp i hi => by
          by_cases he : i = k
          · subst he; exact hp
          · exact HS.out i (by omega)
        unfold Hid at HN HY
        rw [prB_parts] at HN HY
        have HN : Hid _ := HN
        have HY : Hid _ := HY
        clear hid
        have HRB : Hid (RowAt wr ab (ps.getD k pr0).backs) := hrb
        clear hrb
        obtain ⟨bs, hbs⟩ : ∃ bs, bs = (ps.getD k pr0).backs := ⟨_, rfl⟩
        rw [← hbs] at c3 hn HN HY HRB
        clear hbs
        obtain ⟨nb, hnb⟩ : ∃ nb, nb = bs.length := ⟨_, rfl⟩
        rw [← hnb] at c3 hn HN HY
        have HNB : Hid (nb = bs.length) := hnb
        clear hnb
        generalize (ps.getD k pr0).id = x0 at c0 x01 x02 HN HY
        generalize (ps.getD k pr0).succ = x1 at c1 HN HY
        generalize (ps.getD k pr0).point = x2 at c2 HN HY
        have CN : ∀ w6, Below (wr.heap.size + 1) (wr.alloc (.cells #[.int .i64 x0, .int .i64 x1, .int .i64 x2, .slice ab nb cb] 37)) w6 → Calls Try.prog 72 #[.agg #[.int .i64 b, .int .i64 d], .slice a1 ps.length cap1, .int .i64 x0] w6 fun e w' => e = .returned (.int .i64 (nxtI (idsP ps) x0)) ∧ Below w6.heap.size w6 w' := fun w6 h6 => by
          have := lnext_any b d a1 cap1 (idsP ps) x0 w6 RR.out ((HI.out.alloc _).keepB h6 (by simp)) x01 x02
          rwa [hil] at this
        have CH : ∀ w6, Below (wr.heap.size + 1) (wr.alloc (.cells #[.int .i64 x0, .int .i64 x1, .int .i64 x2, .slice ab nb cb] 37)) w6 → Calls Try.prog 53 #[.slice a1 ps.length cap1, .int .i64 x2] w6 fun e w' => e = .returned (.bool (hasB (idsP ps) x2)) ∧ w' = w6 := fun w6 h6 => by
          have := lhas_any a1 cap1 (idsP ps) x2 w6 (by unfold maxLen; omega) ((HI.out.alloc _).keepB h6 (by simp))
          rwa [hil] at this
        unfold maxLen at hn
        by_cases h1 : x1 = nxtI (idsP ps) x0
        · have e1 : (x1 != nxtI (idsP ps) x0) = false := by rw [h1]; simp
          cases h2 : hasB (idsP ps) x2
          · rw [h2] at CH
            have hv : Hid (goodP b d ps = false) := HN.out (fun ⟨_, hh, _⟩ => by rw [h2] at hh; cases hh)
            clear h1 h2
            generalize nxtI (idsP ps) x0 = nx at CN e1
            go_wp2
            have z0 : ∀ p : Kin (wr.heap.size + 1) (wr.alloc (.cells #[.int .i64 x0, .int .i64 x1, .int .i64 x2, .slice ab nb cb] 37)), p.v.cell? ⟨wr.heap.size, 0, none⟩ = some (.int .i64 x0) := kin_cell (by omega) (by go_simp)
            have z1 : ∀ p : Kin (wr.heap.size + 1) (wr.alloc (.cells #[.int .i64 x0, .int .i64 x1, .int .i64 x2, .slice ab nb cb] 37)), p.v.cell? ⟨wr.heap.size, 1, none⟩ = some (.int .i64 x1) := kin_cell (by omega) (by go_simp)
            have z2 : ∀ p : Kin (wr.heap.size + 1) (wr.alloc (.cells #[.int .i64 x0, .int .i64 x1, .int .i64 x2, .slice ab nb cb] 37)), p.v.cell? ⟨wr.heap.size, 2, none⟩ = some (.int .i64 x2) := kin_cell (by omega) (by go_simp)
            have z3 : ∀ p : Kin (wr.heap.size + 1) (wr.alloc (.cells #[.int .i64 x0, .int .i64 x1, .int .i64 x2, .slice ab nb cb] 37)), p.v.cell? ⟨wr.heap.size, 3, none⟩ = some (.slice ab nb cb) := kin_cell (by omega) (by go_simp)
            have y0 : ∀ p : Kin (wr.heap.size + 1) (wr.alloc (.cells #[.int .i64 x0, .int .i64 x1, .int .i64 x2, .slice ab nb cb] 37)), p.v.cell? ⟨w.heap.size, 0, none⟩ = some (.int .i64 b) := kin_cell (by omega) ((cell_alloc_old' _ qlt trivial).trans q0)
            have y1 : ∀ p : Kin (wr.heap.size + 1) (wr.alloc (.cells #[.int .i64 x0, .int .i64 x1, .int .i64 x2, .slice ab nb cb] 37)), p.v.cell? ⟨w.heap.size, 1, none⟩ = some (.int .i64 d) := kin_cell (by omega) ((cell_alloc_old' _ qlt trivial).trans q1)
            refine region_kin (wr.heap.size + 1) (by kernel_rfl) (by kernel_rfl) (fun hne => ?_)
            repeat (go_big_quiet_step (first | (go_at_call 72; exact kin_of (by simp) (CN _ (Kin.bel _))) | (go_at_call 53; exact kin_same (CH _ (Kin.bel _)))))
            refine wpQuiet_nil ?_
            intro w5 hw'
            obtain ⟨⟨w6, hw5⟩, hw''⟩ := hw'
            obtain rfl : w5 = w6 := hw''
            clear z0 z1 z2 z3 y0 y1 hne
            go_wp2
            go_ret
            exact ⟨ret_bool hv.out.symm, belt HB.out (bel1 hw5 (by simp))⟩
          · rw [h2] at CH
            by_cases h3 : nb ≤ 3
            · have HY2 : Hid ((∀ i, i < nb → hasB (idsP ps) (bs.getD i 0) = true) → ∀ i, i < k + 1 → prB (idsP ps) (ps.getD i pr0) = true) := fun h => HY.out ⟨h1, h2, h3, h⟩
              have HN2 : Hid (∀ i, i < nb → hasB (idsP ps) (bs.getD i 0) = false → goodP b d ps = false) := fun i hi hh => HN.out (fun ⟨_, _, _, h4⟩ => by rw [h4 i hi] at hh; cases hh)
              clear h1 h2 HN HY HS
              generalize nxtI (idsP ps) x0 = nx at CN e1
              go_wp2
              have z0 : ∀ p : Kin (wr.heap.size + 1) (wr.alloc (.cells #[.int .i64 x0, .int .i64 x1, .int .i64 x2, .slice ab nb cb] 37)), p.v.cell? ⟨wr.heap.size, 0, none⟩ = some (.int .i64 x0) := kin_cell (by omega) (by go_simp)
              have z1 : ∀ p : Kin (wr.heap.size + 1) (wr.alloc (.cells #[.int .i64 x0, .int .i64 x1, .int .i64 x2, .slice ab nb cb] 37)), p.v.cell? ⟨wr.heap.size, 1, none⟩ = some (.int .i64 x1) := kin_cell (by omega) (by go_simp)
              have z2 : ∀ p : Kin (wr.heap.size + 1) (wr.alloc (.cells #[.int .i64 x0, .int .i64 x1, .int .i64 x2, .slice ab nb cb] 37)), p.v.cell? ⟨wr.heap.size, 2, none⟩ = some (.int .i64 x2) := kin_cell (by omega) (by go_simp)
              have z3 : ∀ p : Kin (wr.heap.size + 1) (wr.alloc (.cells #[.int .i64 x0, .int .i64 x1, .int .i64 x2, .slice ab nb cb] 37)), p.v.cell? ⟨wr.heap.size, 3, none⟩ = some (.slice ab nb cb) := kin_cell (by omega) (by go_simp)
              have y0 : ∀ p : Kin (wr.heap.size + 1) (wr.alloc (.cells #[.int .i64 x0, .int .i64 x1, .int .i64 x2, .slice ab nb cb] 37)), p.v.cell? ⟨w.heap.size, 0, none⟩ = some (.int .i64 b) := kin_cell (by omega) ((cell_alloc_old' _ qlt trivial).trans q0)
              have y1 : ∀ p : Kin (wr.heap.size + 1) (wr.alloc (.cells #[.int .i64 x0, .int .i64 x1, .int .i64 x2, .slice ab nb cb] 37)), p.v.cell? ⟨w.heap.size, 1, none⟩ = some (.int .i64 d) := kin_cell (by omega) ((cell_alloc_old' _ qlt trivial).trans q1)
              refine region_kin (wr.heap.size + 1) (by kernel_rfl) (by kernel_rfl) (fun hne => ?_)
              repeat (go_big_quiet_step (first | (go_at_call 72; exact kin_of (by simp) (CN _ (Kin.bel _))) | (go_at_call 53; exact kin_same (CH _ (Kin.bel _)))))
              refine wpQuiet_nil ?_
              intro w5 hw'
              obtain ⟨⟨w6, hw5⟩, hw''⟩ := hw'
              obtain rfl : w5 = w6 := hw''
              have HB5 : Hid (Below wr.heap.size wr w5) := bel1 hw5 (by simp)
              have HI5 : Hid (RowAt w5 a1 (idsP ps)) := HI.out.keep HB5.out
              have HRB5 : Hid (RowAt w5 ab bs) := HRB.out.keep HB5.out
              have BX5 : Hid (BxP w w5 b d (.slice (some ⟨bk, off, none⟩) ps.length cap)) := BX.out.keep HB5.out
              have z35 := z3 ⟨w5, hw5⟩
              clear z0 z1 z2 z3 y0 y1 hne CN CH HI HRB
              go_wp2_with fail
              go_loop [47] (fun v => ∃ j : Nat, j ≤ nb ∧ v = .int .i64 j ∧ Hid (∀ i, i < j → hasB (idsP ps) (bs.getD i 0) = true)) (fun v => nb - (intOf v).toNat)
              case atStart => exact ⟨0, Nat.zero_le _, rfl, fun i hi => by omega⟩
              case round =>
                obtain ⟨j, hj, rfl, HT⟩ := hrel
                by_cases hjl : j < nb
                · obtain ⟨bb, ob, rfl⟩ := rowAt_form HRB5.out (by have := HNB.out; omega)
                  have hcb := (rowAt_cell HRB5.out (by have := HNB.out; omega)).2 j (by have := HNB.out; omega)
                  have CB := lhas_any a1 cap1 (idsP ps) (bs.getD j 0) w5 (by unfold maxLen; omega) HI5.out
                  rw [hil] at CB
                  cases h5 : hasB (idsP ps) (bs.getD j 0)
                  · rw [h5] at CB
                    have hv : Hid (goodP b d ps = false) := HN2.out j hjl h5
                    clear h5
                    generalize bs.getD j 0 = z at hcb CB
                    go_wp2_with fail
                    refine CB.mono ?_
                    rintro e w7 ⟨rfl, hw7⟩
                    subst hw7
                    go_wp2
                    go_ret
                    exact ⟨ret_bool hv.out.symm, BX5.out.bel⟩
                  · rw [h5] at CB
                    have HT2 : Hid (∀ i, i < j + 1 → hasB (idsP ps) (bs.getD i 0) = true) := fun i hi => by
                      by_cases he : i = j
                      · subst he; exact h5
                      · exact HT.out i (by omega)
                    clear h5
                    generalize bs.getD j 0 = z at hcb CB
                    go_wp2_with fail
                    refine CB.mono ?_
                    rintro e w7 ⟨rfl, hw7⟩
                    subst hw7
                    go_wp2_with fail
                    go_round
                    case rel => exact ⟨j + 1, by omega, by go_num, HT2⟩
                    case measure => simp [intOf]; omega
                · have HS2 : Hid (∀ i, i < k + 1 → prB (idsP ps) (ps.getD i pr0) = true) := HY2.out (fun i hi => HT.out i (by omega))
                  go_wp2_with fail
                  go_roundw
                  case rel => exact ⟨k + 1, by omega, by go_num, BX5, HI5, HS2⟩
                  case measure => simp [intOf]; omega
            · have hv : Hid (goodP b d ps = false) := HN.out (fun ⟨_, _, hh, _⟩ => h3 hh)
              clear h1 h2
              generalize nxtI (idsP ps) x0 = nx at CN e1
              go_wp2
              have z0 : ∀ p : Kin (wr.heap.size + 1) (wr.alloc (.cells #[.int .i64 x0, .int .i64 x1, .int .i64 x2, .slice ab nb cb] 37)), p.v.cell? ⟨wr.heap.size, 0, none⟩ = some (.int .i64 x0) := kin_cell (by omega) (by go_simp)
              have z1 : ∀ p : Kin (wr.heap.size + 1) (wr.alloc (.cells #[.int .i64 x0, .int .i64 x1, .int .i64 x2, .slice ab nb cb] 37)), p.v.cell? ⟨wr.heap.size, 1, none⟩ = some (.int .i64 x1) := kin_cell (by omega) (by go_simp)
              have z2 : ∀ p : Kin (wr.heap.size + 1) (wr.alloc (.cells #[.int .i64 x0, .int .i64 x1, .int .i64 x2, .slice ab nb cb] 37)), p.v.cell? ⟨wr.heap.size, 2, none⟩ = some (.int .i64 x2) := kin_cell (by omega) (by go_simp)
              have z3 : ∀ p : Kin (wr.heap.size + 1) (wr.alloc (.cells #[.int .i64 x0, .int .i64 x1, .int .i64 x2, .slice ab nb cb] 37)), p.v.cell? ⟨wr.heap.size, 3, none⟩ = some (.slice ab nb cb) := kin_cell (by omega) (by go_simp)
              have y0 : ∀ p : Kin (wr.heap.size + 1) (wr.alloc (.cells #[.int .i64 x0, .int .i64 x1, .int .i64 x2, .slice ab nb cb] 37)), p.v.cell? ⟨w.heap.size, 0, none⟩ = some (.int .i64 b) := kin_cell (by omega) ((cell_alloc_old' _ qlt trivial).trans q0)
              have y1 : ∀ p : Kin (wr.heap.size + 1) (wr.alloc (.cells #[.int .i64 x0, .int .i64 x1, .int .i64 x2, .slice ab nb cb] 37)), p.v.cell? ⟨w.heap.size, 1, none⟩ = some (.int .i64 d) := kin_cell (by omega) ((cell_alloc_old' _ qlt trivial).trans q1)
              refine region_kin (wr.heap.size + 1) (by kernel_rfl) (by kernel_rfl) (fun hne => ?_)
              repeat (go_big_quiet_step (first | (go_at_call 72; exact kin_of (by simp) (CN _ (Kin.bel _))) | (go_at_call 53; exact kin_same (CH _ (Kin.bel _)))))
              refine wpQuiet_nil ?_
              intro w5 hw'
              obtain ⟨⟨w6, hw5⟩, hw''⟩ := hw'
              obtain rfl : w5 = w6 := hw''
              clear z0 z1 z2 z3 y0 y1 hne
              go_wp2
              go_ret
              exact ⟨ret_bool hv.out.symm, belt HB.out (bel1 hw5 (by simp))⟩
        · have hv : Hid (goodP b d ps = false) := HN.out (fun ⟨hh, _⟩ => h1 hh)
          have e1 : (x1 != nxtI (idsP ps) x0) = true := by simpa using h1
          clear h1
          generalize nxtI (idsP ps) x0 = nx at CN e1
          go_wp2
          have z0 : ∀ p : Kin (wr.heap.size + 1) (wr.alloc (.cells #[.int .i64 x0, .int .i64 x1, .int .i64 x2, .slice ab nb cb] 37)), p.v.cell? ⟨wr.heap.size, 0, none⟩ = some (.int .i64 x0) := kin_cell (by omega) (by go_simp)
          have z1 : ∀ p : Kin (wr.heap.size + 1) (wr.alloc (.cells #[.int .i64 x0, .int .i64 x1, .int .i64 x2, .slice ab nb cb] 37)), p.v.cell? ⟨wr.heap.size, 1, none⟩ = some (.int .i64 x1) := kin_cell (by omega) (by go_simp)
          have z2 : ∀ p : Kin (wr.heap.size + 1) (wr.alloc (.cells #[.int .i64 x0, .int .i64 x1, .int .i64 x2, .slice ab nb cb] 37)), p.v.cell? ⟨wr.heap.size, 2, none⟩ = some (.int .i64 x2) := kin_cell (by omega) (by go_simp)
          have z3 : ∀ p : Kin (wr.heap.size + 1) (wr.alloc (.cells #[.int .i64 x0, .int .i64 x1, .int .i64 x2, .slice ab nb cb] 37)), p.v.cell? ⟨wr.heap.size, 3, none⟩ = some (.slice ab nb cb) := kin_cell (by omega) (by go_simp)
          have y0 : ∀ p : Kin (wr.heap.size + 1) (wr.alloc (.cells #[.int .i64 x0, .int .i64 x1, .int .i64 x2, .slice ab nb cb] 37)), p.v.cell? ⟨w.heap.size, 0, none⟩ = some (.int .i64 b) := kin_cell (by omega) ((cell_alloc_old' _ qlt trivial).trans q0)
          have y1 : ∀ p : Kin (wr.heap.size + 1) (wr.alloc (.cells #[.int .i64 x0, .int .i64 x1, .int .i64 x2, .slice ab nb cb] 37)), p.v.cell? ⟨w.heap.size, 1, none⟩ = some (.int .i64 d) := kin_cell (by omega) ((cell_alloc_old' _ qlt trivial).trans q1)
          refine region_kin (wr.heap.size + 1) (by kernel_rfl) (by kernel_rfl) (fun hne => ?_)
          repeat (go_big_quiet_step (first | (go_at_call 72; exact kin_of (by simp) (CN _ (Kin.bel _))) | (go_at_call 53; exact kin_same (CH _ (Kin.bel _)))))
          refine wpQuiet_nil ?_
          intro w5 hw'
          obtain ⟨⟨w6, hw5⟩, hw''⟩ := hw'
          obtain rfl : w5 = w6 := hw''
          clear z0 z1 z2 z3 y0 y1 hne
          go_wp2
          go_ret
          exact ⟨ret_bool hv.out.symm, belt HB.out (bel1 hw5 (by simp))⟩
      · have hv : Hid (goodP b d ps = true) := goodP_yes hg (fun i hi => HS.out i (by omega))
        go_wp2
        go_ret
        exact ⟨ret_bool hv.out.symm, BX.out.bel⟩
end Go.Proofs.Ytgmdbihdnacpjaa
namespace Go.Proofs.Ytgmdbihdnacpjaa
open Go.RowKit
set_option linter.unusedVariables false

def flatP : List (Pr × Value) → List Value
  | [] => []
  | e :: L => .int .i64 e.1.id :: .int .i64 e.1.succ :: .int .i64 e.1.point :: e.2 :: flatP L
theorem flatP_len : ∀ L : List (Pr × Value), (flatP L).length = L.length * 4
  | [] => rfl
  | e :: L => by simp [flatP, flatP_len L]; omega
theorem flatP_snoc (e : Pr × Value) : ∀ L : List (Pr × Value), flatP (L ++ [e]) = flatP L ++ [.int .i64 e.1.id, .int .i64 e.1.succ, .int .i64 e.1.point, e.2]
  | [] => rfl
  | f :: L => by simp [flatP, flatP_snoc e L]
theorem flatP_get : ∀ (L : List (Pr × Value)) (i : Nat), i < L.length → (flatP L)[i * 4]? = some (.int .i64 (L.getD i d0).1.id) ∧ (flatP L)[i * 4 + 1]? = some (.int .i64 (L.getD i d0).1.succ) ∧ (flatP L)[i * 4 + 2]? = some (.int .i64 (L.getD i d0).1.point) ∧ (flatP L)[i * 4 + 3]? = some (L.getD i d0).2
  | [], i, h => by simp at h
  | e :: L, 0, h => by simp [flatP]
  | e :: L, i + 1, h => by
    have := flatP_get L i (by simpa using h)
    have e0 : (i + 1) * 4 = i * 4 + 4 := by omega
    rw [e0]
    simp only [flatP, List.getD_cons_succ]
    exact ⟨by simpa using this.1, by simpa using this.2.1, by simpa using this.2.2.1, by simpa using this.2.2.2⟩
/-- a list of peers of one's own, in memory from B on: each one's backs too, no two of which are the same -/
structure ListP (B : Nat) (w : World) (vl : Value) (L : List (Pr × Value)) : Prop where
  own : w.ownsRow B 37 4 vl L.length (flatP L)
  val : ∀ i, i < L.length → ValOk B w.heap.size w (L.getD i d0)
  sep : ∀ i j, i < j → j < L.length → ¬ (L.getD i d0).1.backs = [] → ¬ (L.getD j d0).1.backs = [] → ¬ (L.getD i d0).2.ownBlock = (L.getD j d0).2.ownBlock
theorem ListP.nil (B : Nat) (w : World) : ListP B w (.slice none 0 0) [] :=
  ⟨World.ownsRow_nil _ _ _ _, fun i hi => by simp at hi, fun i j _ hj => by simp at hj⟩
theorem own_blocks {w w1 : World} {B size n : Nat} {e : TypeId} {v : Value} {xs : List Value} (h : w.ownsRow B e size v n xs) (hb : ∀ k, v.ownBlock = some k → w1.heap[k]? = w.heap[k]?) : w1.ownsRow B e size v n xs := by
  refine ⟨h.1, ?_⟩
  rcases h.2 with hn | ⟨g, cap, cur, rfl, hlo, hgg, rest⟩
  · exact .inl hn
  · exact .inr ⟨g, cap, cur, rfl, hlo, (hb g rfl).trans hgg, rest⟩
theorem ListP.blocks {B : Nat} {w w1 : World} {vl : Value} {L : List (Pr × Value)} (h : ListP B w vl L) (hs : w.heap.size ≤ w1.heap.size) (hb : ∀ k, B ≤ k → k < w.heap.size → w1.heap[k]? = w.heap[k]?) : ListP B w1 vl L :=
  ⟨own_blocks h.own (fun k hk => hb k (h.own.lt k hk).1 (h.own.lt k hk).2), fun i hi => ((h.val i hi).blocks (fun k h1 h2 h3 => hb k h1 h3)).wide hs, h.sep⟩
theorem ListP.keep {B : Nat} {w w1 : World} {vl : Value} {L : List (Pr × Value)} (h : ListP B w vl L) (hb : Below w.heap.size w w1) : ListP B w1 vl L := h.blocks hb.size (fun k _ hk => hb.block k hk)
theorem ListP.form {B : Nat} {w : World} {vl : Value} {L : List (Pr × Value)} (h : ListP B w vl L) : ∃ a cap, vl = .slice a L.length cap ∧ L.length ≤ cap := by
  rcases h.own.2 with ⟨rfl, hn⟩ | ⟨g, cap, cur, rfl, _, _, hc, _⟩
  · exact ⟨none, 0, by rw [hn], by omega⟩
  · exact ⟨_, cap, rfl, hc⟩
theorem ListP.ownP {B : Nat} {w : World} {g n cap : Nat} {L : List (Pr × Value)} (h : ListP B w (.slice (some ⟨g, 0, none⟩) n cap) L) : OwnP B w.heap.size w g L := by
  rcases h.own.2 with ⟨hn, _⟩ | ⟨g', cap', cur, hv, hlo, hg, _, _, hs, ht⟩
  · cases hn
  · simp at hv
    obtain ⟨rfl, _, rfl⟩ := hv
    have get : ∀ j v, (flatP L)[j]? = some v → w.cell? ⟨g, j, none⟩ = some v := fun j v hj => by
      rw [cell_of_row w _ _ _ _ _ hg]
      rw [← ht, List.getElem?_take] at hj
      split at hj
      · simpa using hj
      · cases hj
    refine ⟨hlo, (Array.getElem?_eq_some_iff.1 hg).1, ⟨cur, hg⟩, fun i hi => ?_, h.val, h.sep⟩
    obtain ⟨f0, f1, f2, f3⟩ := flatP_get L i hi
    exact ⟨get _ _ f0, get _ _ f1, get _ _ f2, get _ _ f3⟩
theorem ListP.peersAt {B : Nat} {w : World} {a : Option Addr} {n cap : Nat} {L : List (Pr × Value)} (h : ListP B w (.slice a n cap) L) : PeersAt w a (L.map (·.1)) := by
  by_cases h0 : L.length = 0
  · have : L = [] := List.eq_nil_of_length_eq_zero h0
    subst this
    exact .inl rfl
  · obtain ⟨g, cap', hv⟩ := Joins.ownsRow_form h.own (by omega)
    simp at hv
    obtain ⟨rfl, rfl, rfl⟩ := hv
    exact h.ownP.peersAt
theorem ListP.grow {B : Nat} {w w1 : World} {vl v1 : Value} {L : List (Pr × Value)} {e : Pr × Value} (h : ListP B w vl L) (hg : w.grownBy w1 vl.ownBlock)
    (ho : w1.ownsRow B 37 4 v1 (L.length + 1) (flatP L ++ [.int .i64 e.1.id, .int .i64 e.1.succ, .int .i64 e.1.point, e.2])) (hv : ValOk B w.heap.size w e)
    (hs : ∀ i, i < L.length → ¬ (L.getD i d0).1.backs = [] → ¬ e.1.backs = [] → ¬ (L.getD i d0).2.ownBlock = e.2.ownBlock) : ListP B w1 v1 (L ++ [e]) := by
  have low : ∀ i, i < L.length → (L ++ [e]).getD i d0 = L.getD i d0 := fun i hi => by simp [List.getD_eq_getElem?_getD, List.getElem?_append_left hi]
  have top : (L ++ [e]).getD L.length d0 = e := by simp [List.getD_eq_getElem?_getD]
  have kept : ∀ f : Pr × Value, ValOk B w.heap.size w f → ValOk B w1.heap.size w1 f := fun f hf => by
    obtain ⟨ab, cb, hv, hc, hm, ho'⟩ := hf
    refine ⟨ab, cb, hv, hc, hm, ?_⟩
    rcases ho' with ho' | ⟨gb, ha, hl, os⟩
    · exact .inl ho'
    · refine .inr ⟨gb, ha, Nat.lt_of_lt_of_le hl hg.size, os.of_block (hg.block gb hl (fun he => ?_))⟩
      obtain ⟨cj, hcj, _⟩ := os.row
      rcases h.own.2 with ⟨rfl, _⟩ | ⟨g, cap, cur, rfl, _, hgg, _⟩
      · simp [Value.ownBlock] at he
      · simp [Value.ownBlock] at he
        subst he
        rw [hgg] at hcj
        simp at hcj
  refine ⟨by rw [flatP_snoc, List.length_append]; exact ho, fun i hi => ?_, fun i j hij hj => ?_⟩
  · rw [List.length_append] at hi
    by_cases he : i = L.length
    · subst he; rw [top]; exact kept _ hv
    · rw [low i (by simp at hi; omega)]; exact kept _ (h.val i (by simp at hi; omega))
  · rw [List.length_append] at hj
    simp at hj
    rw [low i (by omega)]
    by_cases he : j = L.length
    · subst he; rw [top]; exact hs i hij
    · rw [low j (by omega)]; exact h.sep i j hij (by omega)
end Go.Proofs.Ytgmdbihdnacpjaa
namespace Go.Proofs.Ytgmdbihdnacpjaa
open Go.RowKit
set_option linter.unusedVariables false

def prvN (zs : List Int) (p : Int) : Nat → Int
  | 0 => p
  | k + 1 => prvI zs (prvN zs p k)
def bckL (zs : List Int) (p : Int) (k : Nat) : List Int := (List.range k).map (fun i => prvN zs p (i + 1))
theorem bckL_len (zs : List Int) (p : Int) (k : Nat) : (bckL zs p k).length = k := by simp [bckL]
theorem bckL_succ (zs : List Int) (p : Int) (k : Nat) : bckL zs p (k + 1) = bckL zs p k ++ [prvN zs p (k + 1)] := by
  unfold bckL; rw [List.range_succ, List.map_append]; rfl
theorem prvN_rng {b d : Int} {zs : List Int} (R : Ring b d zs) {p : Int} (p1 : 0 ≤ p) (p2 : p < sz b) : ∀ k, 0 ≤ prvN zs p k ∧ prvN zs p k < sz b
  | 0 => ⟨p1, p2⟩
  | k + 1 => prv_rng R _
def idlP (b d : Int) (zs : List Int) (n : Nat) (x : Int) : Pr := ⟨x, nxtI zs x, pntI b d zs x, bckL zs (pntI b d zs x) n⟩
def idealL (b d : Int) (zs : List Int) (n : Nat) : List Pr := zs.map (idlP b d zs n)

theorem cell_four_new (w : World) (x0 x1 x2 x3 : Value) (t : TypeId) : ∀ j u, [x0, x1, x2, x3][j]? = some u → (w.alloc (.cells #[x0, x1, x2, x3] t)).cell? ((⟨w.heap.size, 0, none⟩ : Addr).add j) = some u := by
  intro j u hj
  rw [add_none', Nat.zero_add, cell_of_row _ _ _ _ _ _ (heap_alloc_new w (.cells #[x0, x1, x2, x3] t))]
  simpa using hj

/-- the argument's box, the answer's box, and the box of peers whose list grows -/
structure IdSt (w wr : World) (S0 : Array Value) (T0 : TypeId) (b d : Int) (vl : Value) (L : List (Pr × Value)) : Prop where
  bel : Below w.heap.size w wr
  lt : w.heap.size + 2 < wr.heap.size
  s : wr.heap[w.heap.size]? = some (.cells S0 T0 (0, 0))
  r : wr.heap[w.heap.size + 1]? = some (.cells #[.int .i64 0, .int .i64 0, .slice none 0 0] 28 (0, 0))
  p : wr.heap[w.heap.size + 1 + 1]? = some (.cells #[.int .i64 b, .int .i64 d, vl] 28 (0, 0))
  l : ListP (w.heap.size + 3) wr vl L
theorem IdSt.keep {w wr w1 : World} {S0 : Array Value} {T0 : TypeId} {b d : Int} {vl : Value} {L : List (Pr × Value)} (h : IdSt w wr S0 T0 b d vl L) (hb : Below wr.heap.size wr w1) : IdSt w w1 S0 T0 b d vl L :=
  have := h.lt
  ⟨belt h.bel hb, Nat.lt_of_lt_of_le h.lt hb.size, (hb.block _ (by omega)).trans h.s, (hb.block _ (by omega)).trans h.r, (hb.block _ (by omega)).trans h.p, h.l.keep hb⟩
theorem idSt0 (w : World) (S0 : Array Value) (T0 : TypeId) (b d : Int) : IdSt w (((w.alloc (.cells S0 T0)).alloc (.cells #[.int .i64 0, .int .i64 0, .slice none 0 0] 28)).alloc (.cells #[.int .i64 b, .int .i64 d, .slice none 0 0] 28)) S0 T0 b d (.slice none 0 0) [] := by
  refine ⟨(((Below.refl _ _).alloc (Nat.le_refl _) _).alloc (by simp) _).alloc (by simp; try omega) _, by simp, ?_, ?_, ?_, ListP.nil _ _⟩
  · rw [heap_alloc_old _ _ (by simp; try omega), heap_alloc_old _ _ (by simp; try omega)]
    exact heap_alloc_new _ _
  · rw [heap_alloc_old _ _ (by simp)]
    have := heap_alloc_new (w.alloc (.cells S0 T0)) (.cells #[.int .i64 0, .int .i64 0, .slice none 0 0] 28)
    simpa using this
  · have := heap_alloc_new ((w.alloc (.cells S0 T0)).alloc (.cells #[.int .i64 0, .int .i64 0, .slice none 0 0] 28)) (.cells #[.int .i64 b, .int .i64 d, .slice none 0 0] 28)
    simpa using this
/-- one peer more, whose backs lie beyond X; the list's box written -/
theorem IdSt.grow {w wx w5 w6 : World} {S0 : Array Value} {T0 : TypeId} {b d : Int} {vl v6 : Value} {L : List (Pr × Value)} {e : Pr × Value} (h : IdSt w wx S0 T0 b d vl L) (hb : Below wx.heap.size wx w5) (hg : w5.grownBy w6 vl.ownBlock)
    (ho : w6.ownsRow (w.heap.size + 3) 37 4 v6 (L.length + 1) (flatP L ++ [.int .i64 e.1.id, .int .i64 e.1.succ, .int .i64 e.1.point, e.2])) (hv : ValOk wx.heap.size w5.heap.size w5 e) :
    IdSt w (w6.setCell ⟨w.heap.size + 1 + 1, 2, none⟩ v6) S0 T0 b d v6 (L ++ [e]) := by
  have hlt := h.lt
  have h5 := h.keep hb
  have hne : ∀ k, k ≤ w.heap.size + 2 → some k ≠ vl.ownBlock := fun k hk he => by
    have := (h5.l.own.lt k he.symm).1
    omega
  have hs5 := h5.lt
  have blk : ∀ k, k ≤ w.heap.size + 2 → w6.heap[k]? = w5.heap[k]? := fun k hk => hg.block k (by omega) (hne k hk)
  have hvB : ValOk (w.heap.size + 3) w5.heap.size w5 e := by
    obtain ⟨ab, cb, hv', hc, hm, ho'⟩ := hv
    refine ⟨ab, cb, hv', hc, hm, ?_⟩
    rcases ho' with ho' | ⟨gb, ha, hl, os⟩
    · exact .inl ho'
    · exact .inr ⟨gb, ha, hl, os.mono (by omega)⟩
  have l6 : ListP (w.heap.size + 3) w6 v6 (L ++ [e]) := h5.l.grow hg ho hvB (fun i hi hn he hq => by
    obtain ⟨ab, cb, hv', _, _, ho'⟩ := h.l.val i hi
    obtain ⟨ae, ce, hve, _, _, hoe⟩ := hv
    rcases ho' with ho' | ⟨gb, ha, hl, os⟩
    · exact hn ho'
    · rcases hoe with hoe | ⟨ge, hae, _, ose⟩
      · exact he hoe
      · rw [hv', ha, hve, hae] at hq
        simp [Value.ownBlock] at hq
        have := ose.lo
        omega)
  refine ⟨?_, ?_, ?_, ?_, ?_, l6.blocks (by simp [World.setCell]) (fun k hk _ => heap_setCell_other _ _ _ _ (by simp; omega))⟩
  · exact (h5.bel.grown hg (by have := h5.bel.size; omega) (fun k hk => by have := (h5.l.own.lt k hk).1; omega)).setCell (p := ⟨w.heap.size + 1 + 1, 2, none⟩) (by simp; omega) _
  · have := hg.size; simp [World.setCell]; omega
  · rw [heap_setCell_other _ _ _ _ (by simp; try omega), blk _ (by omega)]; exact h5.s
  · rw [heap_setCell_other _ _ _ _ (by simp), blk _ (by omega)]; exact h5.r
  · exact heap_setCell_same _ _ 2 _ _ _ ((blk _ (by omega)).trans h5.p)
theorem info_peer' : ∃ i1, Try.prog.info? 37 = some i1 ∧ i1.zero = some (.agg #[.int .i64 0, .int .i64 0, .int .i64 0, .slice none 0 0]) ∧ i1.size = 4 ∧ i1.bytes = 48 := by
  obtain ⟨i0, hi, hz0, hz1, hz2⟩ := info_parts info_peer
  exact ⟨i0, hi, hz0, hz1, hz2⟩
end Go.Proofs.Ytgmdbihdnacpjaa
namespace Go.Proofs.Ytgmdbihdnacpjaa
open Go.RowKit
set_option linter.unusedVariables false
/-- nothing is changed of what was there but block X -/
structure Away (X : Nat) (wc wi : World) : Prop where
  os : wi.os = wc.os
  tape : wi.tape = wc.tape
  output : wi.output = wc.output
  size : wc.heap.size ≤ wi.heap.size
  blk : ∀ k, k < wc.heap.size → ¬ k = X → wi.heap[k]? = wc.heap[k]?
theorem Away.refl (X : Nat) (w : World) : Away X w w := ⟨rfl, rfl, rfl, Nat.le_refl _, fun _ _ _ => rfl⟩
theorem Away.below {X n : Nat} {w wc wi : World} (h : Away X wc wi) (hb : Below n w wc) (hX : n ≤ X) (hn : n ≤ wc.heap.size) : Below n w wi :=
  ⟨h.os.trans hb.os, h.tape.trans hb.tape, h.output.trans hb.output, Nat.le_trans hb.size h.size, fun k hk => (h.blk k (by omega) (by omega)).trans (hb.block k hk)⟩
theorem Away.keep {X : Nat} {wc wi w1 : World} (h : Away X wc wi) (hb : Below wi.heap.size wi w1) : Away X wc w1 :=
  ⟨hb.os.trans h.os, hb.tape.trans h.tape, hb.output.trans h.output, Nat.le_trans h.size hb.size, fun k hk hx => (hb.block k (Nat.lt_of_lt_of_le hk h.size)).trans (h.blk k hk hx)⟩
theorem Away.grown {X : Nat} {wc wi w1 : World} {r : Option Nat} (h : Away X wc wi) (hg : wi.grownBy w1 r) (hr : ∀ k, r = some k → wc.heap.size ≤ k) : Away X wc w1 :=
  ⟨hg.os.trans h.os, hg.tape.trans h.tape, hg.output.trans h.output, Nat.le_trans h.size hg.size, fun k hk hx => (hg.block k (Nat.lt_of_lt_of_le hk h.size) (fun he => by have := hr k he.symm; omega)).trans (h.blk k hk hx)⟩
theorem Away.set {X : Nat} {wc wi : World} (h : Away X wc wi) (i : Nat) (v : Value) : Away X wc (wi.setCell ⟨X, i, none⟩ v) :=
  ⟨h.os, h.tape, h.output, by have := h.size; simp [World.setCell]; omega, fun k hk hx => (heap_setCell_other _ _ _ _ (by simpa using hx)).trans (h.blk k hk hx)⟩
theorem IdSt.away {w wc wi : World} {S0 : Array Value} {T0 : TypeId} {b d : Int} {vl : Value} {L : List (Pr × Value)} {X : Nat} (h : IdSt w wc S0 T0 b d vl L) (hA : Away X wc wi) (hX : w.heap.size + 3 ≤ X)
    (hx : ∃ cur, wc.heap[X]? = some (.cells cur 37 (0, 0))) (hne : ¬ vl.ownBlock = some X) : IdSt w wi S0 T0 b d vl L := by
  have hlt := h.lt
  obtain ⟨cx, hcx⟩ := hx
  have blk : ∀ k, k ≤ w.heap.size + 2 → wi.heap[k]? = wc.heap[k]? := fun k hk => hA.blk k (by omega) (by omega)
  refine ⟨hA.below h.bel (by omega) (by omega), Nat.lt_of_lt_of_le h.lt hA.size, (blk _ (by omega)).trans h.s, (blk _ (by omega)).trans h.r, (blk _ (by omega)).trans h.p, ?_, fun i hi => ?_, h.l.sep⟩
  · exact own_blocks h.l.own (fun k hk => hA.blk k (h.l.own.lt k hk).2 (fun he => hne (by rw [hk, he])))
  · obtain ⟨ab, cb, hv, hc, hm, ho⟩ := h.l.val i hi
    refine ⟨ab, cb, hv, hc, hm, ?_⟩
    rcases ho with ho | ⟨gb, ha, hl, os⟩
    · exact .inl ho
    · refine .inr ⟨gb, ha, Nat.lt_of_lt_of_le hl hA.size, os.of_block (hA.blk gb hl (fun he => ?_))⟩
      obtain ⟨cj, hcj, _⟩ := os.row
      rw [he, hcx] at hcj
      simp at hcj
theorem IdSt.grow2 {w wc w5 w6 : World} {S0 : Array Value} {T0 : TypeId} {b d : Int} {vl v6 : Value} {L : List (Pr × Value)} {e : Pr × Value} (h : IdSt w wc S0 T0 b d vl L) (h5 : IdSt w w5 S0 T0 b d vl L) (hg : w5.grownBy w6 vl.ownBlock)
    (ho : w6.ownsRow (w.heap.size + 3) 37 4 v6 (L.length + 1) (flatP L ++ [.int .i64 e.1.id, .int .i64 e.1.succ, .int .i64 e.1.point, e.2])) (hv : ValOk wc.heap.size w5.heap.size w5 e) :
    IdSt w (w6.setCell ⟨w.heap.size + 1 + 1, 2, none⟩ v6) S0 T0 b d v6 (L ++ [e]) := by
  have hlt := h.lt
  have hne : ∀ k, k ≤ w.heap.size + 2 → some k ≠ vl.ownBlock := fun k hk he => by
    have := (h5.l.own.lt k he.symm).1
    omega
  have hs5 := h5.lt
  have blk : ∀ k, k ≤ w.heap.size + 2 → w6.heap[k]? = w5.heap[k]? := fun k hk => hg.block k (by omega) (hne k hk)
  have hvB : ValOk (w.heap.size + 3) w5.heap.size w5 e := by
    obtain ⟨ab, cb, hv', hc, hm, ho'⟩ := hv
    refine ⟨ab, cb, hv', hc, hm, ?_⟩
    rcases ho' with ho' | ⟨gb, ha, hl, os⟩
    · exact .inl ho'
    · exact .inr ⟨gb, ha, hl, os.mono (by omega)⟩
  have l6 : ListP (w.heap.size + 3) w6 v6 (L ++ [e]) := h5.l.grow hg ho hvB (fun i hi hn he hq => by
    obtain ⟨ab, cb, hv', _, _, ho'⟩ := h.l.val i hi
    obtain ⟨ae, ce, hve, _, _, hoe⟩ := hv
    rcases ho' with ho' | ⟨gb, ha, hl, os⟩
    · exact hn ho'
    · rcases hoe with hoe | ⟨ge, hae, _, ose⟩
      · exact he hoe
      · rw [hv', ha, hve, hae] at hq
        simp [Value.ownBlock] at hq
        have := ose.lo
        omega)
  refine ⟨?_, ?_, ?_, ?_, ?_, l6.blocks (by simp [World.setCell]) (fun k hk _ => heap_setCell_other _ _ _ _ (by simp; omega))⟩
  · exact (h5.bel.grown hg (by have := h5.bel.size; omega) (fun k hk => by have := (h5.l.own.lt k hk).1; omega)).setCell (p := ⟨w.heap.size + 1 + 1, 2, none⟩) (by simp; omega) _
  · have := hg.size; simp [World.setCell]; omega
  · rw [heap_setCell_other _ _ _ _ (by simp; try omega), blk _ (by omega)]; exact h5.s
  · rw [heap_setCell_other _ _ _ _ (by simp), blk _ (by omega)]; exact h5.r
  · exact heap_setCell_same _ _ 2 _ _ _ ((blk _ (by omega)).trans h5.p)

theorem IdSt.q0 {w wr : World} {T0 : TypeId} {b d : Int} {vl : Value} {L : List (Pr × Value)} (h : IdSt w wr #[.int .i64 b, .int .i64 d] T0 b d vl L) : wr.cell? ⟨w.heap.size, 0, none⟩ = some (.int .i64 b) := (cell_of_row wr _ _ _ _ _ h.s).trans rfl
theorem IdSt.q1 {w wr : World} {T0 : TypeId} {b d : Int} {vl : Value} {L : List (Pr × Value)} (h : IdSt w wr #[.int .i64 b, .int .i64 d] T0 b d vl L) : wr.cell? ⟨w.heap.size, 1, none⟩ = some (.int .i64 d) := (cell_of_row wr _ _ _ _ _ h.s).trans rfl
theorem IdSt.qq {w wr : World} {T0 : TypeId} {b d : Int} {vl : Value} {L : List (Pr × Value)} (h : IdSt w wr #[.int .i64 b, .int .i64 d] T0 b d vl L) : wr.cell? ⟨w.heap.size, 0, none⟩ = some (.int .i64 b) ∧ wr.cell? ⟨w.heap.size, 1, none⟩ = some (.int .i64 d) := ⟨h.q0, h.q1⟩
theorem IdSt.qqA {w wr : World} {T0 : TypeId} {b d : Int} {vl : Value} {L : List (Pr × Value)} (h : IdSt w wr #[.int .i64 b, .int .i64 d] T0 b d vl L) (o : Obj) : (wr.alloc o).cell? ⟨w.heap.size, 0, none⟩ = some (.int .i64 b) ∧ (wr.alloc o).cell? ⟨w.heap.size, 1, none⟩ = some (.int .i64 d) :=
  (h.keep ((Below.refl _ _).alloc (Nat.le_refl _) _)).qq
theorem belA (w : World) (o : Obj) : Below w.heap.size w (w.alloc o) := (Below.refl _ _).alloc (Nat.le_refl _) _
theorem IdSt.qq4 {w wr : World} {T0 : TypeId} {b d : Int} {vl : Value} {L : List (Pr × Value)} (h : IdSt w wr #[.int .i64 b, .int .i64 d] T0 b d vl L) {X : Nat} (hX : w.heap.size < X) (v0 v1 v2 v3 : Value) :
    ((((wr.setCell ⟨X, 0, none⟩ v0).setCell ⟨X, 1, none⟩ v1).setCell ⟨X, 2, none⟩ v2).setCell ⟨X, 3, none⟩ v3).cell? ⟨w.heap.size, 0, none⟩ = some (.int .i64 b) ∧ ((((wr.setCell ⟨X, 0, none⟩ v0).setCell ⟨X, 1, none⟩ v1).setCell ⟨X, 2, none⟩ v2).setCell ⟨X, 3, none⟩ v3).cell? ⟨w.heap.size, 1, none⟩ = some (.int .i64 d) := by
  have e : (set4 wr X 0 v0 v1 v2 v3).heap[w.heap.size]? = wr.heap[w.heap.size]? := set4_block (by omega)
  exact ⟨(World.cell?_of_block (a := ⟨w.heap.size, 0, none⟩) e).trans h.q0, (World.cell?_of_block (a := ⟨w.heap.size, 1, none⟩) e).trans h.q1⟩
/-- a new peer's box lies at X -/
structure XSt (w wc : World) (S0 : Array Value) (T0 : TypeId) (b d : Int) (vl : Value) (L : List (Pr × Value)) (X : Nat) (x y z : Int) : Prop where
  st : IdSt w wc S0 T0 b d vl L
  lo : w.heap.size + 3 ≤ X
  hi : X < wc.heap.size
  blk : wc.heap[X]? = some (.cells #[.int .i64 x, .int .i64 y, .int .i64 z, .slice none 0 0] 37 (0, 0))
  ne : ¬ vl.ownBlock = some X
theorem xSt_new {w wr : World} {S0 : Array Value} {T0 : TypeId} {b d : Int} {vl : Value} {L : List (Pr × Value)} {x y z : Int} (h : IdSt w wr S0 T0 b d vl L) : XSt w (wr.alloc (.cells #[.int .i64 x, .int .i64 y, .int .i64 z, .slice none 0 0] 37)) S0 T0 b d vl L wr.heap.size x y z :=
  ⟨h.keep (belA _ _), by have := h.lt; omega, by simp, heap_alloc_new _ _, fun he => by have := (h.l.own.lt _ he).2; omega⟩
theorem XSt.keep {w wc w1 : World} {S0 : Array Value} {T0 : TypeId} {b d : Int} {vl : Value} {L : List (Pr × Value)} {X : Nat} {x y z : Int} (h : XSt w wc S0 T0 b d vl L X x y z) (hb : Below wc.heap.size wc w1) : XSt w w1 S0 T0 b d vl L X x y z :=
  ⟨h.st.keep hb, h.lo, Nat.lt_of_lt_of_le h.hi hb.size, (hb.block _ h.hi).trans h.blk, h.ne⟩
theorem XSt.put {w wc : World} {S0 : Array Value} {T0 : TypeId} {b d : Int} {vl : Value} {L : List (Pr × Value)} {X : Nat} {x y z : Int} (h : XSt w wc S0 T0 b d vl L X x y z) (x' y' z' : Int) : XSt w (set4 wc X 0 (.int .i64 x') (.int .i64 y') (.int .i64 z') (.slice none 0 0)) S0 T0 b d vl L X x' y' z' := by
  refine ⟨h.st.away (X := X) ((((Away.refl X wc).set 0 _).set 1 _).set 2 _ |>.set 3 _) h.lo ⟨_, h.blk⟩ h.ne, h.lo, by rw [set4_size]; exact h.hi, ?_, h.ne⟩
  exact heap_setCell_same _ _ 3 _ _ _ (heap_setCell_same _ _ 2 _ _ _ (heap_setCell_same _ _ 1 _ _ _ (heap_setCell_same _ _ 0 _ _ _ h.blk)))
theorem XSt.cells {w wc : World} {S0 : Array Value} {T0 : TypeId} {b d : Int} {vl : Value} {L : List (Pr × Value)} {X : Nat} {x y z : Int} (h : XSt w wc S0 T0 b d vl L X x y z) :
    wc.cell? ⟨X, 0, none⟩ = some (.int .i64 x) ∧ wc.cell? ⟨X, 1, none⟩ = some (.int .i64 y) ∧ wc.cell? ⟨X, 2, none⟩ = some (.int .i64 z) ∧ wc.cell? ⟨X, 3, none⟩ = some (.slice none 0 0) ∧ wc.frozen? ⟨X, 0, none⟩ = false ∧ wc.frozen? ⟨X, 1, none⟩ = false ∧ wc.frozen? ⟨X, 2, none⟩ = false ∧ wc.frozen? ⟨X, 3, none⟩ = false :=
  ⟨(cell_of_row wc _ _ _ _ _ h.blk).trans rfl, (cell_of_row wc _ _ _ _ _ h.blk).trans rfl, (cell_of_row wc _ _ _ _ _ h.blk).trans rfl, (cell_of_row wc _ _ _ _ _ h.blk).trans rfl, frozen_of_row wc _ _ _ _ h.blk, frozen_of_row wc _ _ _ _ h.blk, frozen_of_row wc _ _ _ _ h.blk, frozen_of_row wc _ _ _ _ h.blk⟩
end Go.Proofs.Ytgmdbihdnacpjaa
namespace Go.Proofs.Ytgmdbihdnacpjaa
open Go.RowKit
set_option linter.unusedVariables false
theorem ListP.lower {B B' : Nat} {w : World} {vl : Value} {L : List (Pr × Value)} (h : ListP B w vl L) (hb : B' ≤ B) : ListP B' w vl L :=
  ⟨Joins.ownsRow_le h.own hb, fun i hi => by
    obtain ⟨ab, cb, hv, hc, hm, ho⟩ := h.val i hi
    refine ⟨ab, cb, hv, hc, hm, ?_⟩
    rcases ho with ho | ⟨gb, ha, hl, os⟩
    · exact .inl ho
    · exact .inr ⟨gb, ha, hl, os.mono hb⟩, h.sep⟩
set_option maxHeartbeats 12800000 in
theorem lideal_any (b d : Int) (n : Nat) (a : Option Addr) (cap : Nat) (zs : List Int) (w : World) (R : Ring b d zs) (hr : RowAt w a zs) (hn : n ≤ 3) :
    Calls Try.prog 79 #[.agg #[.int .i64 b, .int .i64 d], .slice a zs.length cap, .int .i64 (n : Int)] w fun e w' => ∃ vl L, e = .returned (.agg #[.int .i64 b, .int .i64 d, vl]) ∧ L.map (·.1) = idealL b d zs n ∧ ListP w.heap.size w' vl L ∧ Below w.heap.size w w' := by
  obtain ⟨i0, hi, hz0, hz1, hz2⟩ := info_parts'
  obtain ⟨i1, hi1, hy0, hy1, hy2⟩ := info_peer'
  obtain ⟨hb1, hb2, hd1, hd2, _⟩ := gsB_true R.gs
  have l2 := R.l2
  have RR : Hid (Ring b d zs) := R
  have HR : Hid (RowAt w a zs) := hr
  clear R hr
  go_enter Try.func79, Try.ntmps79
  go_wp2_with fail
  go_loopw [17] (fun vi wr => ∃ (k : Nat) (vl : Value) (L : List (Pr × Value)), k ≤ zs.length ∧ vi = .int .i64 k ∧ Hid (IdSt w wr #[.int .i64 b, .int .i64 d] 25 b d vl L) ∧ Hid (L.map (·.1) = (zs.take k).map (idlP b d zs n))) (fun vi _ => zs.length - (intOf vi).toNat)
  case atStart => exact ⟨0, _, [], Nat.zero_le _, rfl, idSt0 w _ _ b d, by simp [Hid]⟩
  case round =>
    obtain ⟨k, vl, L, hk, rfl, ST, HL⟩ := hrel
    by_cases hlt : k < zs.length
    · obtain ⟨bk, off, rfl⟩ := rowAt_form HR.out (by omega)
      have hc1 := (rowAt_cell (HR.out.keep ST.out.bel) (by omega)).2 k hlt
      obtain ⟨x1, x2⟩ := RR.out.rng k hlt
      have HT : Hid ((zs.take (k + 1)).map (idlP b d zs n) = (zs.take k).map (idlP b d zs n) ++ [idlP b d zs n (zs.getD k 0)]) := by
        unfold Hid
        rw [List.take_succ_eq_append_getElem hlt, List.map_append]
        simp [List.getD_eq_getElem?_getD, hlt]
      generalize zs.getD k 0 = x at hc1 x1 x2 HT
      have HP : Hid (0 ≤ pntI b d zs x ∧ pntI b d zs x < sz b) := dwn_rng RR.out (shf_bd d x 0 hb1 hb2).1 (shf_bd d x 0 hb1 hb2).2
      go_upto_region 5 with (fail)
      go_cut [10] (fun v10 wc => ∃ X, v10 = .pointer (some ⟨X, 0, none⟩) ∧ Hid (XSt w wc #[.int .i64 b, .int .i64 d] 25 b d vl L X x (nxtI zs x) (pntI b d zs x)))
      case first =>
        have sta := ST.out.keep ((Below.refl _ _).drew)
        have xsa := (xSt_new (x := 0) (y := 0) (z := 0) ST.out).keep ((Below.refl _ _).drew)
        have staA := xsa.st
        have hsl := sta.lt
        go_region_held (fun w' => w'.cell? ⟨w.heap.size, 0, none⟩ = some (.int .i64 b) ∧ w'.cell? ⟨w.heap.size, 1, none⟩ = some (.int .i64 d)) (with_reducible (first | exact sta.qq | exact staA.qq | exact stb.qq | exact stb.qqA _ | exact stc.qq | exact stc.qqA _ | exact stc.qq4 (by omega) _ _ _ _)) (first
          | (go_at_call 72; refine (lnext_any b d _ cap zs x _ RR.out (HR.out.keep sta.bel) x1 x2).mono ?_; rintro e wa ⟨rfl, hwa⟩; have stb := sta.keep hwa; have hsb := stb.lt)
          | (go_at_call 72; refine (lnext_any b d _ cap zs x _ RR.out (HR.out.keep staA.bel) x1 x2).mono ?_; rintro e wa ⟨rfl, hwa⟩; have xsb := xsa.keep hwa; have stb := xsb.st; have hsb := stb.lt)
          | (go_at_call 85; have xsb' := xsb; refine (lpoint_any b d _ cap zs x _ RR.out (HR.out.keep stb.bel) x1 x2).mono ?_; rintro e wb ⟨rfl, hwb⟩; have xsc := xsb.keep hwb; have stc := xsc.st; obtain ⟨y0, y1, y2, y3, g0, g1, g2, g3⟩ := xsc.cells; have hlo := xsc.lo)
          | (go_at_call 85; refine (lpoint_any b d _ cap zs x _ RR.out (HR.out.keep stb.bel) x1 x2).mono ?_; rintro e wb ⟨rfl, hwb⟩; have stc := stb.keep hwb)
          | (go_at_call 85; refine (lpoint_any b d _ cap zs x _ RR.out (HR.out.keep (stb.keep (belA _ _)).bel) x1 x2).mono ?_; rintro e wb ⟨rfl, hwb⟩; have xsc := (xSt_new (x := 0) (y := 0) (z := 0) stb).keep hwb; have stc := xsc.st; obtain ⟨y0, y1, y2, y3, g0, g1, g2, g3⟩ := xsc.cells; have hlo := xsc.lo))
        all_goals (go_wp2_with fail; go_meet; first | exact ⟨_, rfl, xSt_new stc⟩ | exact ⟨_, rfl, xsc.put _ _ _⟩)
      case rest =>
        obtain ⟨X, rfl, XS⟩ := hcut
        obtain ⟨al, cl, rfl, hcl⟩ := XS.out.st.l.form
        obtain ⟨y0, y1, y2, y3, g0, g1, g2, g3⟩ := XS.out.cells
        have hX1 := XS.out.lo
        have hX2 := XS.out.hi
        have hLk : L.length = k := by have := congrArg List.length HL.out; simp at this; omega
        have HLK : Hid (L.length = k) := hLk
        clear ST hc1 hLk hcl
        go_wp2_with fail
        go_loopw [11, 12] (fun v11 v12 wi => ∃ (j : Nat) (ab : Option Addr) (cb : Nat), j ≤ n ∧ v12 = .int .i64 j ∧ v11 = .int .i64 (prvN zs (pntI b d zs x) j) ∧ Hid (Away X wc wi) ∧ Hid (wi.heap[X]? = some (.cells #[.int .i64 x, .int .i64 (nxtI zs x), .int .i64 (pntI b d zs x), .slice ab j cb] 37 (0, 0))) ∧ Hid (wi.ownsRow wc.heap.size 3 1 (.slice ab j cb) j ((bckL zs (pntI b d zs x) j).map (Value.int .i64)))) (fun _ v12 _ => n - (intOf v12).toNat)
        case atStart => exact ⟨0, none, 0, Nat.zero_le _, rfl, rfl, Away.refl _ _, XS.out.blk, World.ownsRow_nil _ _ _ _⟩
        case round =>
          obtain ⟨j, ab, cb, hj, rfl, rfl, HA, HX, HO⟩ := hrel
          clear y0 y1 y2 y3 g0 g1 g2 g3
          have HI : Hid (IdSt w wr #[.int .i64 b, .int .i64 d] 25 b d (.slice al L.length cl) L) := XS.out.st.away HA.out hX1 ⟨_, XS.out.blk⟩ XS.out.ne
          have hsz : wc.heap.size ≤ wr.heap.size := HA.out.size
          by_cases hjn : j < n
          · obtain ⟨q0, q1⟩ := HI.out.qq
            obtain ⟨p1, p2⟩ := prvN_rng RR.out HP.out.1 HP.out.2 j
            have HBS : Hid (bckL zs (pntI b d zs x) (j + 1) = bckL zs (pntI b d zs x) j ++ [prvI zs (prvN zs (pntI b d zs x) j)]) := bckL_succ _ _ _
            have HPS : Hid (prvI zs (prvN zs (pntI b d zs x) j) = prvN zs (pntI b d zs x) (j + 1)) := rfl
            have CP := lprev_any b d (some ⟨bk, off, none⟩) cap zs (prvN zs (pntI b d zs x) j) wr RR.out (HR.out.keep HI.out.bel) p1 p2
            go_wp2_with fail
            refine CP.mono ?_
            rintro e w2 ⟨rfl, hw2⟩
            have HA2 : Hid (Away X wc w2) := HA.out.keep hw2
            have HX2 : Hid (w2.heap[X]? = some (.cells #[.int .i64 x, .int .i64 (nxtI zs x), .int .i64 (pntI b d zs x), .slice ab j cb] 37 (0, 0))) := (hw2.block X (by omega)).trans HX.out
            have HO2 : Hid (w2.ownsRow wc.heap.size 3 1 (.slice ab j cb) j ((bckL zs (pntI b d zs x) j).map (Value.int .i64))) := own_blocks HO.out (fun k hk => hw2.block k (HO.out.lt k hk).2)
            have hs2 : wc.heap.size ≤ w2.heap.size := HA2.out.size
            have x3 : w2.cell? ⟨X, 3, none⟩ = some (.slice ab j cb) := (cell_of_row w2 _ _ _ _ _ HX2.out).trans rfl
            clear CP q0 q1 hw2 HI HA HX HO
            generalize prvI zs (prvN zs (pntI b d zs x) j) = pv at HBS HPS
            go_wp2_with (at_builtin; refine wpList_append_own _ rfl (.tmp 43) (.tmp 45) 29 rfl wc.heap.size 3 i0 (.int .i64 0) 1 8 Try.underlying29 hi hz0 hz1 hz2 rfl (by decide) _ _ _ rfl (HO2.out.alloc _) ⟨w2.heap.size, 0, none⟩ 1 1 [.int .i64 pv] rfl rfl (cell_one_new _ _ _) (by simp [Value.oneCell']) (by unfold maxLen; omega) (by omega) (by simp; omega) ?_; intro v5 w5 hown5 hgrow5 _; obtain ⟨g5, cp5, rfl⟩ := Joins.ownsRow_form hown5 (by omega); have HA5 : Hid (Away X wc w5) := (HA2.out.keep (belA _ _)).grown hgrow5 (fun k hk => (HO2.out.lt k hk).1); have HX5 : Hid (w5.heap[X]? = some (.cells #[.int .i64 x, .int .i64 (nxtI zs x), .int .i64 (pntI b d zs x), .slice ab j cb] 37 (0, 0))) := (hgrow5.block X (by simp; omega) (fun he => by have := (HO2.out.lt X he.symm).1; omega)).trans ((heap_alloc_old _ _ (by omega)).trans HX2.out); have x35 : w5.cell? ⟨X, 3, none⟩ = some (.slice ab j cb) := (cell_of_row w5 _ _ _ _ _ HX5.out).trans rfl; have f35 : w5.frozen? ⟨X, 3, none⟩ = false := frozen_of_row w5 _ _ _ _ HX5.out; have HO5 : Hid (w5.ownsRow wc.heap.size 3 1 (.slice (some ⟨g5, 0, none⟩) (j + 1) cp5) (j + 1) ((bckL zs (pntI b d zs x) (j + 1)).map (Value.int .i64))) := (by rw [HBS.out, List.map_append]; exact hown5); clear hown5 hgrow5)
            go_roundw
            case rel => exact ⟨j + 1, _, _, by omega, by go_num, by rw [HPS.out], HA5.out.set 3 _, heap_setCell_same _ _ 3 _ _ _ HX5.out, own_blocks HO5.out (fun k hk => heap_setCell_other _ _ _ _ (by have := (HO5.out.lt k hk).1; simp; omega))⟩
            case measure => simp [intOf]; omega
          · obtain rfl : j = n := by omega
            have x0 : wr.cell? ⟨X, 0, none⟩ = some (.int .i64 x) := (cell_of_row wr _ _ _ _ _ HX.out).trans rfl
            have x1' : wr.cell? ⟨X, 1, none⟩ = some (.int .i64 (nxtI zs x)) := (cell_of_row wr _ _ _ _ _ HX.out).trans rfl
            have x2' : wr.cell? ⟨X, 2, none⟩ = some (.int .i64 (pntI b d zs x)) := (cell_of_row wr _ _ _ _ _ HX.out).trans rfl
            have x3 : wr.cell? ⟨X, 3, none⟩ = some (.slice ab j cb) := (cell_of_row wr _ _ _ _ _ HX.out).trans rfl
            have p2 : wr.cell? ⟨w.heap.size + 1 + 1, 2, none⟩ = some (.slice al L.length cl) := (cell_of_row wr _ _ _ _ _ HI.out.p).trans rfl
            have hsw : w.heap.size + 3 ≤ wr.heap.size := HI.out.lt
            have hLl : L.length ≤ 16 := by have := HLK.out; omega
            have HV : Hid (ValOk wc.heap.size (wr.heap.size + 1) (wr.alloc (.cells #[.int .i64 x, .int .i64 (nxtI zs x), .int .i64 (pntI b d zs x), .slice ab j cb] 37)) (idlP b d zs j x, .slice ab j cb)) := by
              have hl := bckL_len zs (pntI b d zs x) j
              by_cases hj0 : j = 0
              · refine ⟨ab, cb, by show _ = Value.slice ab (bckL zs (pntI b d zs x) j).length cb; rw [hl], ⟨?_, ?_⟩, by show (bckL zs (pntI b d zs x) j).length ≤ _; omega, .inl (List.eq_nil_of_length_eq_zero (by show (bckL zs (pntI b d zs x) j).length = 0; omega))⟩
                · show (bckL zs (pntI b d zs x) j).length ≤ cb
                  omega
                · intro h
                  subst h
                  rcases Joins.ownsRow_forms HO.out with ⟨h1, _⟩ | ⟨g, c, h1⟩
                  · simp at h1; exact h1.2
                  · simp at h1
              · obtain ⟨gb, cb', hvv⟩ := Joins.ownsRow_form HO.out (by omega)
                simp at hvv
                obtain ⟨rfl, rfl⟩ := hvv
                obtain ⟨os, _, hcb⟩ := OwnS.of_owns HO.out
                refine ⟨_, cb, by show _ = Value.slice _ (bckL zs (pntI b d zs x) j).length cb; rw [hl], ⟨by show (bckL zs (pntI b d zs x) j).length ≤ cb; omega, fun h => by cases h⟩, by show (bckL zs (pntI b d zs x) j).length ≤ _; omega, .inr ⟨gb, rfl, by have := os.lt; omega, os.keep (belA _ _)⟩⟩
            have HOW : Hid ((wr.alloc (.cells #[.int .i64 x, .int .i64 (nxtI zs x), .int .i64 (pntI b d zs x), .slice ab j cb] 37)).ownsRow (w.heap.size + 3) 37 4 (.slice al L.length cl) L.length (flatP L)) := HI.out.l.own.alloc _
            go_wp2_with (at_builtin; refine wpList_append_own _ rfl (.tmp 49) (.tmp 51) 26 rfl (w.heap.size + 3) 37 i1 _ 4 48 Try.underlying26 hi1 hy0 hy1 hy2 rfl (by decide) _ _ _ rfl HOW.out ⟨wr.heap.size, 0, none⟩ 1 1 [.int .i64 x, .int .i64 (nxtI zs x), .int .i64 (pntI b d zs x), .slice ab j cb] rfl rfl (cell_four_new _ _ _ _ _ _) (by simp [Value.oneCell']) (by unfold maxLen; omega) (by omega) (by simp; omega) ?_; intro v6 w6 hown6 hgrow6 _; obtain ⟨g6, cp6, rfl⟩ := Joins.ownsRow_form hown6 (by omega); have ST6 : Hid (IdSt w (w6.setCell ⟨w.heap.size + 1 + 1, 2, none⟩ (.slice (some ⟨g6, 0, none⟩) (L.length + 1) cp6)) #[.int .i64 b, .int .i64 d] 25 b d (.slice (some ⟨g6, 0, none⟩) (L.length + 1) cp6) (L ++ [(idlP b d zs j x, .slice ab j cb)])) := IdSt.grow2 (e := (idlP b d zs j x, .slice ab j cb)) XS.out.st (HI.out.keep (belA _ _)) hgrow6 hown6 (HV.out.wide (by simp)); have HP6 : Hid (w6.heap[w.heap.size + 1 + 1]? = some (.cells #[.int .i64 b, .int .i64 d, .slice al L.length cl] 28 (0, 0))) := (hgrow6.block _ (by simp; omega) (fun he => by have := (HOW.out.lt _ he.symm).1; omega)).trans ((heap_alloc_old _ _ (by omega)).trans HI.out.p); have p26 : w6.cell? ⟨w.heap.size + 1 + 1, 2, none⟩ = some (.slice al L.length cl) := (cell_of_row w6 _ _ _ _ _ HP6.out).trans rfl; have f26 : w6.frozen? ⟨w.heap.size + 1 + 1, 2, none⟩ = false := frozen_of_row w6 _ _ _ _ HP6.out; clear hown6 hgrow6)
            go_roundw
            case rel => exact ⟨k + 1, _, _, by omega, by go_num, ST6, by unfold Hid; rw [List.map_append, HL.out, HT.out]; rfl⟩
            case measure => simp [intOf]; omega
    · obtain ⟨al, cl, rfl, _⟩ := ST.out.l.form
      have p0 : wr.cell? ⟨w.heap.size + 1 + 1, 0, none⟩ = some (.int .i64 b) := (cell_of_row wr _ _ _ _ _ ST.out.p).trans rfl
      have p1 : wr.cell? ⟨w.heap.size + 1 + 1, 1, none⟩ = some (.int .i64 d) := (cell_of_row wr _ _ _ _ _ ST.out.p).trans rfl
      have p2 : wr.cell? ⟨w.heap.size + 1 + 1, 2, none⟩ = some (.slice al L.length cl) := (cell_of_row wr _ _ _ _ _ ST.out.p).trans rfl
      have r0 : wr.cell? ⟨w.heap.size + 1, 0, none⟩ = some (.int .i64 0) := (cell_of_row wr _ _ _ _ _ ST.out.r).trans rfl
      have r1 : wr.cell? ⟨w.heap.size + 1, 1, none⟩ = some (.int .i64 0) := (cell_of_row wr _ _ _ _ _ ST.out.r).trans rfl
      have r2 : wr.cell? ⟨w.heap.size + 1, 2, none⟩ = some (.slice none 0 0) := (cell_of_row wr _ _ _ _ _ ST.out.r).trans rfl
      have q0 : wr.frozen? ⟨w.heap.size + 1, 0, none⟩ = false := frozen_of_row wr _ _ _ _ ST.out.r
      have q1 : wr.frozen? ⟨w.heap.size + 1, 1, none⟩ = false := frozen_of_row wr _ _ _ _ ST.out.r
      have q2 : wr.frozen? ⟨w.heap.size + 1, 2, none⟩ = false := frozen_of_row wr _ _ _ _ ST.out.r
      go_wp2
      have HE : ∀ v : Value, Hid ((((wr.setCell ⟨w.heap.size + 1, 0, none⟩ (.int .i64 b)).setCell ⟨w.heap.size + 1, 1, none⟩ (.int .i64 d)).setCell ⟨w.heap.size + 1, 2, none⟩ v).heap[w.heap.size + 1]? = some (.cells #[.int .i64 b, .int .i64 d, v] 28 (0, 0))) := fun v =>
        heap_setCell_same _ _ 2 _ _ _ (heap_setCell_same _ _ 1 _ _ _ (heap_setCell_same _ _ 0 _ _ _ ST.out.r))
      refine bodyPost_ret (results_cell_row Try.results79 _ _ (w.heap.size + 1) _ _ _ _ rfl (HE _).out Try.underlying28 rfl (by kernel_rfl)) rfl ⟨_, L, rfl, ?_, ?_, ?_⟩
      · have := HL.out
        rwa [List.take_of_length_le (by omega)] at this
      · refine (ListP.lower (B' := w.heap.size) (ST.out.l.blocks (w1 := (((wr.setCell ⟨w.heap.size + 1, 0, none⟩ (.int .i64 b)).setCell ⟨w.heap.size + 1, 1, none⟩ (.int .i64 d)).setCell ⟨w.heap.size + 1, 2, none⟩ (.slice al L.length cl))) (by simp [World.setCell]) (fun k hk _ => ?_)) (by omega))
        rw [heap_setCell_other _ _ _ _ (by simp; omega), heap_setCell_other _ _ _ _ (by simp; omega), heap_setCell_other _ _ _ _ (by simp; omega)]
      · exact ((ST.out.bel.setCell (p := ⟨w.heap.size + 1, 0, none⟩) (by simp) _).setCell (p := ⟨w.heap.size + 1, 1, none⟩) (by simp) _).setCell (p := ⟨w.heap.size + 1, 2, none⟩) (by simp) _
end Go.Proofs.Ytgmdbihdnacpjaa
namespace Go.Proofs.Ytgmdbihdnacpjaa
open Go.RowKit
set_option linter.unusedVariables false
set_option maxHeartbeats 800000 in
theorem lsame1_any (a a' : Option Addr) (cap cap' : Nat) (xs ys : List Int) (w : World) (hm : xs.length ≤ maxLen) (hx : RowAt w a xs) (hy : RowAt w a' ys) :
    Calls Try.prog 109 #[.slice a xs.length cap, .slice a' ys.length cap'] w fun e w' => e = .returned (.bool (sameB xs ys)) ∧ Below w.heap.size w w' := by
  unfold maxLen at hm
  have HX : Hid (RowAt w a xs) := hx
  have HY : Hid (RowAt w a' ys) := hy
  clear hx hy
  by_cases hl : xs.length = ys.length
  · have HL : Hid (xs.length = ys.length) := hl
    have hle : ((xs.length : Int) != (ys.length : Int)) = false := by simp [hl]
    clear hl
    go_enter Try.func109, Try.ntmps109
    go_wp2_with fail
    go_loopw [13] (fun vi wr => ∃ k : Nat, k ≤ xs.length ∧ vi = .int .i64 k ∧ xs.take k = ys.take k ∧ ∃ n, wr = w.drewN n) (fun vi _ => xs.length - (intOf vi).toNat)
    case atStart => exact ⟨0, Nat.zero_le _, rfl, rfl, 0, rfl⟩
    case round =>
      obtain ⟨k, hk, rfl, hs, n, rfl⟩ := hrel
      have HS : Hid (xs.take k = ys.take k) := hs
      clear hs
      by_cases hlt : k < xs.length
      · have hlt2 : k < ys.length := by have := HL.out; omega
        obtain ⟨bk, off, rfl⟩ := rowAt_form HX.out (by omega)
        obtain ⟨bk2, off2, rfl⟩ := rowAt_form HY.out (by omega)
        have hc1 := (rowAt_cell HX.out (by omega)).2 k hlt
        have hc2 := (rowAt_cell HY.out (by omega)).2 k hlt2
        by_cases he : xs.getD k 0 = ys.getD k 0
        · have ht : Hid (xs.take (k + 1) = ys.take (k + 1)) := same_take hlt hlt2 HS.out he
          have he' : (xs.getD k 0 != ys.getD k 0) = false := by rw [he]; simp
          generalize xs.getD k 0 = x at hc1 he'
          generalize ys.getD k 0 = y at hc2 he'
          clear he
          go_wp2
          go_quiet (fail)
          go_wp2
          go_roundw
          case rel => exact ⟨k + 1, by omega, by go_num, ht.out, _, rfl⟩
          case measure => simp [intOf]; omega
        · have hv : Hid (sameB xs ys = false) := sameB_no he
          have he' : (xs.getD k 0 != ys.getD k 0) = true := by simpa using he
          generalize xs.getD k 0 = x at hc1 he'
          generalize ys.getD k 0 = y at hc2 he'
          clear he
          go_wp2
          go_quiet (fail)
          go_wp2
          go_ret
          exact ⟨ret_bool hv.out.symm, by first | exact below_drewN (below_drewN (Below.refl _ _) _) _ | exact below_drewN (Below.refl _ _) _⟩
      · have hv : Hid (sameB xs ys = true) := sameB_yes HL.out hlt HS.out
        go_wp2
        go_ret
        exact ⟨ret_bool hv.out.symm, below_drewN (Below.refl _ _) _⟩
  · have hv : sameB xs ys = false := decide_eq_false (fun h => hl (by rw [h]))
    rw [hv]
    have hle : ((xs.length : Int) != (ys.length : Int)) = true := by simp; omega
    clear hl hv
    go_enter Try.func109, Try.ntmps109
    go_wp2
    go_ret
    exact ⟨rfl, Below.refl _ _⟩


def smP (p q : Pr) : Bool := decide (p.id = q.id ∧ p.succ = q.succ ∧ p.point = q.point) && sameB p.backs q.backs
def sameP (ps qs : List Pr) : Bool := decide (ps.length = qs.length) && decide (∀ i, i < ps.length → smP (ps.getD i pr0) (qs.getD i pr0) = true)
theorem smP_parts {p q : Pr} : smP p q = true ↔ p.id = q.id ∧ p.succ = q.succ ∧ p.point = q.point ∧ sameB p.backs q.backs = true := by
  unfold smP
  simp only [Bool.and_eq_true, decide_eq_true_eq, and_assoc]
theorem sameP_no {ps qs : List Pr} {k : Nat} (hk : k < ps.length) (h : ¬ smP (ps.getD k pr0) (qs.getD k pr0) = true) : sameP ps qs = false := by
  unfold sameP
  rw [decide_eq_false (p := ∀ i, i < ps.length → smP (ps.getD i pr0) (qs.getD i pr0) = true) (fun hh => h (hh k hk)), Bool.and_false]
theorem sameP_yes {ps qs : List Pr} (hl : ps.length = qs.length) (h : ∀ i, i < ps.length → smP (ps.getD i pr0) (qs.getD i pr0) = true) : sameP ps qs = true := by
  unfold sameP
  rw [decide_eq_true hl, decide_eq_true h]; rfl
set_option maxHeartbeats 6400000 in
theorem lsameP_any (b d : Int) (a a' : Option Addr) (cap cap' : Nat) (ps qs : List Pr) (w : World) (hm : ps.length ≤ maxLen) (hx : PeersAt w a ps) (hy : PeersAt w a' qs) :
    Calls Try.prog 87 #[.agg #[.int .i64 b, .int .i64 d, .slice a ps.length cap], .agg #[.int .i64 b, .int .i64 d, .slice a' qs.length cap']] w fun e w' => e = .returned (.bool (sameP ps qs)) ∧ Below w.heap.size w w' := by
  unfold maxLen at hm
  have HX : Hid (PeersAt w a ps) := hx
  have HY : Hid (PeersAt w a' qs) := hy
  clear hx hy
  by_cases hl : ps.length = qs.length
  · have HL : Hid (ps.length = qs.length) := hl
    have hle : ((ps.length : Int) != (qs.length : Int)) = false := by simp [hl]
    clear hl
    have HB0 : Hid (Below w.heap.size w ((w.alloc (.cells #[.int .i64 b, .int .i64 d, .slice a ps.length cap] 28)).alloc (.cells #[.int .i64 b, .int .i64 d, .slice a' qs.length cap'] 28))) := (((Below.refl _ _).alloc (Nat.le_refl _) _).alloc (by simp) _)
    have HC0 : Hid (((w.alloc (.cells #[.int .i64 b, .int .i64 d, .slice a ps.length cap] 28)).alloc (.cells #[.int .i64 b, .int .i64 d, .slice a' qs.length cap'] 28)).cell? ⟨w.heap.size + 1, 2, none⟩ = some (.slice a' qs.length cap')) := by unfold Hid; go_simp
    go_enter Try.func87, Try.ntmps87
    go_wp2_with fail
    go_loopw [25] (fun vi wr => ∃ k : Nat, k ≤ ps.length ∧ vi = .int .i64 k ∧ Hid (Below w.heap.size w wr) ∧ w.heap.size + 1 < wr.heap.size ∧ Hid (wr.cell? ⟨w.heap.size + 1, 2, none⟩ = some (.slice a' qs.length cap')) ∧ Hid (∀ i, i < k → smP (ps.getD i pr0) (qs.getD i pr0) = true)) (fun vi _ => ps.length - (intOf vi).toNat)
    case atStart => exact ⟨0, Nat.zero_le _, rfl, HB0, by simp, HC0, fun i hi => by omega⟩
    case round =>
      obtain ⟨k, hk, rfl, HB, hsz, HC, HS⟩ := hrel
      clear HB0 HC0
      by_cases hlt : k < ps.length
      · have hlt2 : k < qs.length := by have := HL.out; omega
        obtain ⟨bk, off, rfl⟩ := peersAt_form HX.out (by omega)
        obtain ⟨bk2, off2, rfl⟩ := peersAt_form HY.out (by omega)
        have fx := peersAt_cell (HX.out.keep HB.out) (by omega)
        have fy := peersAt_cell (HY.out.keep HB.out) (by omega)
        have fx1 := fx.1
        have fy1 := fy.1
        obtain ⟨c0, c1, c2, ab, cb, c3, hrx, hnx, _⟩ := fx.2 k hlt
        obtain ⟨e0, e1, e2, ab2, cb2, e3, hry, hny, _⟩ := fy.2 k hlt2
        clear fx fy
        have hN := sameP_no (qs := qs) hlt
        have hY : smP (ps.getD k pr0) (qs.getD k pr0) = true → ∀ i, i < k + 1 → smP (ps.getD i pr0) (qs.getD i pr0) = true := fun hp i hi => by
          by_cases he : i = k
          · subst he; exact hp
          · exact HS.out i (by omega)
        rw [smP_parts] at hN hY
        have HN : Hid _ := hN
        have HYY : Hid _ := hY
        clear hN hY HS
        generalize (ps.getD k pr0).id = x0 at c0 HN HYY
        generalize (ps.getD k pr0).succ = x1 at c1 HN HYY
        generalize (ps.getD k pr0).point = x2 at c2 HN HYY
        generalize (ps.getD k pr0).backs = xs at c3 hrx hnx HN HYY
        generalize (qs.getD k pr0).id = y0 at e0 HN HYY
        generalize (qs.getD k pr0).succ = y1 at e1 HN HYY
        generalize (qs.getD k pr0).point = y2 at e2 HN HYY
        generalize (qs.getD k pr0).backs = ys at e3 hry hny HN HYY
        have hc2 : wr.cell? ⟨w.heap.size + 1, 2, none⟩ = some (.slice (some ⟨bk2, off2, none⟩) qs.length cap') := HC.out
        have HW : Hid (Below wr.heap.size wr ((wr.alloc (.cells #[.int .i64 x0, .int .i64 x1, .int .i64 x2, .slice ab xs.length cb] 37)).alloc (.cells #[.int .i64 y0, .int .i64 y1, .int .i64 y2, .slice ab2 ys.length cb2] 37))) := ((Below.refl _ _).alloc (Nat.le_refl _) _).alloc (by simp) _
        have HB2 : Hid (Below w.heap.size w ((wr.alloc (.cells #[.int .i64 x0, .int .i64 x1, .int .i64 x2, .slice ab xs.length cb] 37)).alloc (.cells #[.int .i64 y0, .int .i64 y1, .int .i64 y2, .slice ab2 ys.length cb2] 37))) := belt HB.out HW.out
        have CS := lsame1_any ab ab2 cb cb2 xs ys _ hnx (hrx.keep HW.out) (hry.keep HW.out)
        clear hrx hry
        by_cases h0 : x0 = y0
        · have d0' : (x0 != y0) = false := by rw [h0]; simp
          by_cases h1 : x1 = y1
          · have d1' : (x1 != y1) = false := by rw [h1]; simp
            by_cases h2 : x2 = y2
            · have d2' : (x2 != y2) = false := by rw [h2]; simp
              cases h3 : sameB xs ys
              · have hv : Hid (sameP ps qs = false) := HN.out (fun ⟨_, _, _, hh⟩ => by rw [h3] at hh; cases hh)
                rw [h3] at CS
                clear h0 h1 h2
                go_wp2_with fail
                refine CS.mono ?_
                rintro e w5 ⟨rfl, hw5⟩
                go_wp2
                go_ret
                exact ⟨ret_bool hv.out.symm, belt HB2.out hw5⟩
              · have HS2 : Hid (∀ i, i < k + 1 → smP (ps.getD i pr0) (qs.getD i pr0) = true) := HYY.out ⟨h0, h1, h2, h3⟩
                rw [h3] at CS
                clear h0 h1 h2
                go_wp2_with fail
                refine CS.mono ?_
                rintro e w5 ⟨rfl, hw5⟩
                have HW5 : Hid (Below wr.heap.size wr w5) := belt HW.out hw5
                go_wp2_with fail
                go_roundw
                case rel => exact ⟨k + 1, by omega, by go_num, belt HB.out HW5.out, Nat.lt_of_lt_of_le hsz HW5.out.size, (HW5.out.cell (p := ⟨w.heap.size + 1, 2, none⟩) hsz).trans hc2, HS2⟩
                case measure => simp [intOf]; omega
            · have d2' : (x2 != y2) = true := by simpa using h2
              have hv : Hid (sameP ps qs = false) := HN.out (fun ⟨_, _, hh, _⟩ => h2 hh)
              clear h0 h1 h2
              go_wp2
              go_ret
              exact ⟨ret_bool hv.out.symm, HB2.out⟩
          · have d1' : (x1 != y1) = true := by simpa using h1
            have hv : Hid (sameP ps qs = false) := HN.out (fun ⟨_, hh, _⟩ => h1 hh)
            clear h0 h1
            go_wp2
            go_ret
            exact ⟨ret_bool hv.out.symm, HB2.out⟩
        · have d0' : (x0 != y0) = true := by simpa using h0
          have hv : Hid (sameP ps qs = false) := HN.out (fun ⟨hh, _⟩ => h0 hh)
          clear h0
          go_wp2
          go_ret
          exact ⟨ret_bool hv.out.symm, HB2.out⟩
      · have hv : Hid (sameP ps qs = true) := sameP_yes HL.out (fun i hi => HS.out i (by omega))
        go_wp2
        go_ret
        exact ⟨ret_bool hv.out.symm, HB.out⟩
  · have hv : Hid (sameP ps qs = false) := by unfold Hid sameP; rw [decide_eq_false hl]; rfl
    have hle : ((ps.length : Int) != (qs.length : Int)) = true := by simp; omega
    clear hl
    go_enter Try.func87, Try.ntmps87
    go_wp2
    go_ret
    exact ⟨ret_bool hv.out.symm, (((Below.refl _ _).alloc (Nat.le_refl _) _).alloc (by simp) _)⟩
end Go.Proofs.Ytgmdbihdnacpjaa
namespace Go.Proofs.Ytgmdbihdnacpjaa
open Go.RowKit
set_option linter.unusedVariables false
theorem goodP_true {b d : Int} {ps : List Pr} (h : goodP b d ps = true) : Ring b d (idsP ps) ∧ ∀ i, i < ps.length → prB (idsP ps) (ps.getD i pr0) = true := by
  unfold goodP at h
  rw [Bool.and_eq_true] at h
  exact ⟨ringB_true h.1, of_decide_eq_true h.2⟩
def idlB (b d : Int) (ps : List Pr) : Bool := goodP b d ps && sameP ps (idealL b d (idsP ps) (ps.getD 0 pr0).backs.length)
structure ISt (w wr : World) (b d : Int) (bk off n cap : Nat) (v : Value) : Prop where
  bx : BxP w wr b d (.slice (some ⟨bk, off, none⟩) n cap)
  lt : bk < wr.heap.size
  c3 : wr.cell? ⟨bk, off + 3, none⟩ = some v
theorem ISt.keep {w wr w1 : World} {b d : Int} {bk off n cap : Nat} {v : Value} (h : ISt w wr b d bk off n cap v) (hb : Below wr.heap.size wr w1) : ISt w w1 b d bk off n cap v :=
  ⟨h.bx.keep hb, Nat.lt_of_lt_of_le h.lt hb.size, (hb.cell (p := ⟨bk, off + 3, none⟩) h.lt).trans h.c3⟩
theorem ISt.qq {w wr : World} {b d : Int} {bk off n cap : Nat} {v : Value} (h : ISt w wr b d bk off n cap v) : wr.cell? ⟨w.heap.size, 0, none⟩ = some (.int .i64 b) ∧ wr.cell? ⟨w.heap.size, 1, none⟩ = some (.int .i64 d) ∧ wr.cell? ⟨w.heap.size, 2, none⟩ = some (.slice (some ⟨bk, off, none⟩) n cap) ∧ wr.cell? ⟨bk, off + 3, none⟩ = some v := ⟨h.bx.c0, h.bx.c1, h.bx.c2, h.c3⟩
set_option maxHeartbeats 6400000 in
theorem lIsIdeal_any (b d : Int) (a : Option Addr) (cap : Nat) (ps : List Pr) (w : World) (hm : ps.length ≤ 1048576) (hr : PeersAt w a ps) :
    Calls Try.prog 35 #[.agg #[.int .i64 b, .int .i64 d, .slice a ps.length cap]] w fun e w' => e = .returned (.tuple #[.bool (idlB b d ps), .bool (goodP b d ps)]) ∧ Below w.heap.size w w' := by
  have hr1 := hr.alloc (.cells #[.int .i64 b, .int .i64 d, .slice a ps.length cap] 28)
  have CG := lgood_any b d a cap ps _ hm hr1
  have HR : Hid (PeersAt w a ps) := hr
  clear hr hr1
  unfold idlB
  cases hg : goodP b d ps
  · rw [hg] at CG
    go_enter Try.func35, Try.ntmps35
    go_wp2_with fail
    refine CG.mono ?_
    rintro e w1 ⟨rfl, hw1⟩
    go_wp2
    go_ret2
    exact ⟨rfl, bel1 hw1 (by simp)⟩
  · rw [hg] at CG
    obtain ⟨R, hp⟩ := goodP_true hg
    have hl1 : 1 ≤ ps.length := by have := R.l1; rwa [idsP_len] at this
    have hmm : ps.length ≤ maxLen := by unfold maxLen; omega
    have hn3 := (prB_parts.1 (hp 0 (by omega))).2.2.1
    have RR : Hid (Ring b d (idsP ps)) := R
    clear R hp
    obtain ⟨bk, off, rfl⟩ := peersAt_form HR.out (by omega)
    obtain ⟨_, _, _, ab, cb, c3, _, _, _⟩ := (peersAt_cell HR.out (by omega)).2 0 (by omega)
    have hbk := (peersAt_cell HR.out (by omega)).1
    have HC3 : Hid (w.cell? ⟨bk, off + 3, none⟩ = some (.slice ab (ps.getD 0 pr0).backs.length cb)) := by unfold Hid; simpa using c3
    clear c3
    generalize (ps.getD 0 pr0).backs.length = nb at HC3 hn3
    go_enter Try.func35, Try.ntmps35
    go_wp2_with fail
    refine CG.mono ?_
    rintro e w1 ⟨rfl, hw1⟩
    have hbel := bel1 hw1 (by simp)
    have ST : Hid (ISt w w1 b d bk off ps.length cap (.slice ab nb cb)) := ⟨bxP1 hw1 (by simp), Nat.lt_of_lt_of_le hbk hbel.size, (hbel.cell (p := ⟨bk, off + 3, none⟩) hbk).trans HC3.out⟩
    clear CG hw1 hbel HC3
    have hpos : 0 < ps.length := hl1
    have hposI : (0 : Int) < (ps.length : Int) := by omega
    go_wp2_with fail
    have sta := ST.out.keep ((Below.refl _ _).drew)
    go_region_held (fun w' => w'.cell? ⟨w.heap.size, 0, none⟩ = some (.int .i64 b) ∧ w'.cell? ⟨w.heap.size, 1, none⟩ = some (.int .i64 d) ∧ w'.cell? ⟨w.heap.size, 2, none⟩ = some (.slice (some ⟨bk, off, none⟩) ps.length cap) ∧ w'.cell? ⟨bk, off + 3, none⟩ = some (.slice ab nb cb)) (with_reducible (first | exact sta.qq | exact stb.qq | exact stc.qq | exact std.qq)) (first
      | (go_at_call 54; refine (lmembers_any b d _ cap ps _ hm (HR.out.keep sta.bx.bel)).mono ?_; rintro e wa ⟨va, rfl, owa, hwa⟩; obtain ⟨a1, cap1, rfl, hc1, hrow1⟩ := own_rowAt owa; have HROW : Hid (RowAt wa a1 (idsP ps)) := hrow1; have stb := sta.keep hwa; clear owa hrow1 hc1)
      | (go_at_call 79; refine (lideal_any b d nb a1 cap1 (idsP ps) _ RR.out HROW.out hn3).mono ?_; rintro e wb ⟨vl, L, rfl, hL, lp, hwb⟩; obtain ⟨al, cl, rfl, hcl⟩ := lp.form; have stc := stb.keep hwb; have CS := lsameP_any b d (some ⟨bk, off, none⟩) al cap cl ps (L.map (·.1)) wb hmm (HR.out.keep stc.bx.bel) lp.peersAt; rw [List.length_map, hL] at CS; clear lp hL hcl)
      | (go_at_call 87; refine CS.mono ?_; rintro e wd ⟨rfl, hwd⟩; have std := stc.keep hwd))
    all_goals (go_wp2; go_ret2; exact ⟨rfl, std.bx.bel⟩)
end Go.Proofs.Ytgmdbihdnacpjaa
