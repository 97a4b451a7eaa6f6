/- LeaveRing, in the program. The specification's lists: a copy, a number put to its place, a ring without a member. The specification's ring without a member, and its list of those that come next. What the laws over lists share: the box of the space, and what has been kept since. A number put to its place in a list that the call owns, also in none. Values of a program's types in memory, the types as data: what reads as what, what is owned in which blocks, what marks are laid. Peers in memory: how they are read; how much they hold; when two are the same. Two peers that read the same are told so; marks that were laid are found again. Peers copied whole, into memory of their own. A list of peers copied whole; peers copied whole. Peers that are owned are marked. Marks on a list of peers, and on peers. A law's argument of peers, opened. The specification's pointers: down, the point, the members of peers. The specification's list of the members of peers. -/
import Derived.Deep.RegionLaw
import Derived.Laws.MakeOwn
import Derived.Deep.Slices
import Derived.Test.YtdceimnapbblnaaGreatZ0
namespace Go.Proofs.YtdceimnapbblnaaGreat
open Go.RowKit
set_option linter.unusedVariables false

def leaveL (zs : List Int) (x : Int) : List Int := zs.take (blw zs x) ++ zs.drop (blw zs x + 1)
def okL (b d : Int) (zs : List Int) (x : Int) : Bool := ringB b d zs && memI zs x && !decide (zs.length = 1)
theorem make_room (n : Nat) (hn : n ≤ 1048576) (w : World) :
    (Instr.makeSlice 30 (.int .i64 0) (.int .i64 (n : Int))).run Tryz.prog w = .ok (.slice (some ⟨w.heap.size, 0, none⟩) 0 n) (w.alloc (.cells (zv (List.replicate n 0)) 3)) := by
  obtain ⟨i0, hi, hz0, hz1, hz2⟩ := info_parts'
  have := run_make (P := Tryz.prog) w 30 3 i0 (.int .i64 0) Tryz.underlying30 hi hz0 .i64 .i64 0 (n : Int) (by omega) (by omega) (by rw [hz2]; omega) (by omega)
  rw [hz1] at this
  rw [this, ← made_zv]
  simp
  rfl
theorem own_room (w : World) (n : Nat) (hn : n ≤ 1048576) : (w.alloc (.cells (zv (List.replicate n 0)) 3)).ownsRow w.heap.size 3 1 (.slice (some ⟨w.heap.size, 0, none⟩) 0 n) 0 [] :=
  ⟨rfl, .inr ⟨w.heap.size, n, _, rfl, Nat.le_refl _, heap_alloc_new _ _, Nat.zero_le _, by unfold maxLen; omega, by simp [zv], by simp⟩⟩

/-- an append that fits into a row of the call's own, as one step of a region that draws -/
theorem step_append_fits {P : Program} {ops : Array Oper} {o : Oper} {a : Act} {w : World} {K : Act → World → Prop} {Q : Exit → Act → World → Prop} {E : Prop}
    (hg : o.guard = none) (s x : Operand) (t : TypeId) (hop : o.op = Op.call { callee := Callee.builtin Builtin.append, args := #[s, x], argTypes := #[t, t] })
    (base : Nat) (e : TypeId) (i : TypeInfo) (size : Nat) (h1 : P.underlying t = some (.slice e)) (h2 : P.info? e = some i) (h4 : i.size = size)
    (g k cap : Nat) (xs : List Value) (hs : a.eval s = .slice (some ⟨g, 0, none⟩) k cap) (hown : w.ownsRow base e size (.slice (some ⟨g, 0, none⟩) k cap) k xs)
    (ad : Addr) (m c : Nat) (news : List Value) (hx : a.eval x = .slice (some ad) m c) (hn : news.length = m * size) (hc : ∀ j u, news[j]? = some u → w.cell? (ad.add j) = some u) (h1c : ∀ u ∈ news, u.oneCell' = true) (b1 : k + m ≤ cap)
    (hK : ∀ w', w'.ownsRow base e size (.slice (some ⟨g, 0, none⟩) (k + m) cap) (k + m) (xs ++ news) → w.grownBy w' (some g) → K (a.put o.dst (.slice (some ⟨g, 0, none⟩) (k + m) cap)) w') :
    if Region.wanted o (yielded ops a.tmps) = true then Oper.wp P o a w K Q else E := by
  have hw : Region.wanted o (yielded ops a.tmps) = true := by simp [Region.wanted, hg]
  rw [if_pos hw]
  obtain ⟨w', hrun, r1, r2⟩ := run_append_fits (P := P) w base t o.type e i size h1 h2 h4 g k cap xs hown ad m c news hn hc h1c b1
  unfold Oper.wp
  simp [execOp, hop, resolve, invoke, builtin, hs, hx, hrun, Result.andThen]
  exact hK w' r1 r2

theorem below_drew' {n : Nat} {w w1 : World} (h : Below n w w1) : Below n w w1.drew := h.drew

end Go.Proofs.YtdceimnapbblnaaGreat
namespace Go.Proofs.YtdceimnapbblnaaGreat
open Go.RowKit
set_option linter.unusedVariables false

theorem own_form {w : World} {B n : Nat} {v : Value} {xs : List Value} (h : w.ownsRow B 3 1 v n xs) (hn : ¬ v = .slice none 0 0) : ∃ g cap, v = .slice (some ⟨g, 0, none⟩) n cap := by
  rcases Joins.ownsRow_forms h with ⟨h1, _⟩ | h1
  · exact absurd h1 hn
  · exact h1
theorem own_lit0 (w : World) : (w.alloc (.cells #[] 3)).ownsRow w.heap.size 3 1 (.slice (some ⟨w.heap.size, 0, none⟩) 0 0) 0 [] :=
  World.ownsRow_lit w #[] 0 (Nat.le_refl _) (Nat.zero_le _) rfl

set_option maxHeartbeats 800000 in
theorem lown_any (bk off cap : Nat) (zs : List Int) (w : World) (h1 : 1 ≤ zs.length) (h2 : zs.length ≤ 16) (hr : RowAt w (some ⟨bk, off, none⟩) zs) :
    Calls Tryz.prog 156 #[.slice (some ⟨bk, off, none⟩) zs.length cap] w fun e w' => ∃ g cp, e = .returned (.slice (some ⟨g, 0, none⟩) zs.length cp) ∧ zs.length ≤ cp ∧ OwnS w.heap.size w' g zs ∧ Below w.heap.size w w' := by
  obtain ⟨i0, hi, hz0, hz1, hz2⟩ := info_parts'
  have own0 : Hid ((w.alloc (.cells #[] 3)).ownsRow w.heap.size 3 1 (.slice (some ⟨w.heap.size, 0, none⟩) 0 0) 0 []) := own_lit0 w
  have s1 : Hid ((zs.map (Value.int .i64)).length = zs.length * 1) := by simp [Hid]
  have c1 : Hid (∀ (j : Nat) (u : Value), (zs.map (Value.int .i64))[j]? = some u → (w.alloc (.cells #[] 3)).cell? ((⟨bk, off, none⟩ : Addr).add j) = some u) := by
    have := olds_cells (hr.alloc (.cells #[] 3)) zs.length _ rfl
    rwa [List.take_length] at this
  go_enter Tryz.func156, Tryz.ntmps156
  go_wp2_with (at_builtin; refine wpList_append_own _ rfl (.tmp 3) (.tmp 4) 30 rfl w.heap.size 3 i0 (.int .i64 0) 1 8 Tryz.underlying30 hi hz0 hz1 hz2 rfl (by decide) _ _ _ rfl own0.out ⟨bk, off, none⟩ _ _ (zs.map (Value.int .i64)) rfl s1.out c1.out (ints_oneCell _ _) (by unfold maxLen; omega) (by omega) (by simp) ?_; intro v6 w6 hown6 hgrow6 _; rw [Nat.zero_add, List.nil_append] at hown6; obtain ⟨g6, cp6, rfl⟩ := Joins.ownsRow_form hown6 (by omega); obtain ⟨os6, len6, hcp6⟩ := OwnS.of_owns hown6; have HB6 : Hid (Below w.heap.size w w6) := grown_bel ((Below.refl _ _).alloc (Nat.le_refl _) _) hgrow6 (by simp) (fun k hk => (own0.out.lt k hk).1); clear hown6 hgrow6)
  go_ret
  exact ⟨g6, cp6, rfl, hcp6, os6, HB6.out⟩

set_option maxHeartbeats 3200000 in
theorem lput_any (bk off cap : Nat) (zs : List Int) (x : Int) (w : World) (h1 : 1 ≤ zs.length) (h2 : zs.length ≤ 16) (hcap : zs.length ≤ cap) (hr : RowAt w (some ⟨bk, off, none⟩) zs) :
    Calls Tryz.prog 86 #[.slice (some ⟨bk, off, none⟩) zs.length cap, .int .i64 x] w fun e w' => (memI zs x = true ∧ e = .returned (.slice (some ⟨bk, off, none⟩) zs.length cap) ∧ w' = w) ∨
      (memI zs x = false ∧ ∃ g cp, e = .returned (.slice (some ⟨g, 0, none⟩) (zs.length + 1) cp) ∧ zs.length + 1 ≤ cp ∧ OwnS w.heap.size w' g (joinL zs x) ∧ Below w.heap.size w w') := by
  obtain ⟨i0, hi, hz0, hz1, hz2⟩ := info_parts'
  have own0 : Hid ((w.alloc (.cells #[] 3)).ownsRow w.heap.size 3 1 (.slice (some ⟨w.heap.size, 0, none⟩) 0 0) 0 []) := own_lit0 w
  have HR : Hid (RowAt w (some ⟨bk, off, none⟩) zs) := hr
  clear hr
  go_enter Tryz.func86, Tryz.ntmps86
  go_wp2_with fail
  go_loop [5] (fun v => ∃ k : Nat, k ≤ zs.length ∧ v = .int .i64 k ∧ Hid (∀ i, i < k → zs.getD i 0 < x)) (fun v => zs.length - (intOf v).toNat)
  case atStart => exact ⟨0, Nat.zero_le _, rfl, fun i hi => by omega⟩
  case round =>
    obtain ⟨k, hk, rfl, hs⟩ := hrel
    by_cases hlt : k < zs.length
    · have hc1 := (rowAt_cell HR.out (by omega)).2 k hlt
      by_cases hx : zs.getD k 0 < x
      · have hn : Hid (∀ i, i < k + 1 → zs.getD i 0 < x) := fun i hi => by
          by_cases he : i = k
          · subst he; exact hx
          · exact hs.out i (by omega)
        generalize zs.getD k 0 = z at hc1 hx
        go_wp2_with fail
        go_round
        case rel => exact ⟨k + 1, by omega, by go_num, hn⟩
        case measure => simp [intOf]; omega
      · have hv : Hid (k = blw zs x) := (blw_eq (by omega) hs.out (fun _ => hx)).symm
        by_cases he : zs.getD k 0 = x
        · have HM : Hid (memI zs x = true) := decide_eq_true (by rw [← hv.out]; exact ⟨hlt, he⟩)
          have he' : (zs.getD k 0 == x) = true := beq_iff_eq.2 he
          clear he
          generalize zs.getD k 0 = z at hc1 hx he'
          go_wp2
          go_ret
          exact .inl ⟨HM.out, rfl, rfl⟩
        · have HM : Hid (memI zs x = false) := decide_eq_false (fun g => he (by rw [← hv.out] at g; exact g.2))
          have he' : (zs.getD k 0 == x) = false := by simp only [beq_eq_false_iff_ne, ne_eq]; exact he
          clear he
          generalize zs.getD k 0 = z at hc1 hx he'
          have s1 : Hid (((zs.take k).map (Value.int .i64)).length = k * 1) := by simp [Hid]; omega
          have s2 : Hid (((zs.drop k).map (Value.int .i64)).length = (zs.length - k) * 1) := by simp [Hid]
          have s3 : Hid ((zs.take k).map (Value.int .i64) ++ [Value.int .i64 x] ++ (zs.drop k).map (Value.int .i64) = (joinL zs x).map (Value.int .i64)) := by unfold joinL; rw [← hv.out]; simp [Hid]
          have hN : k + 1 + (zs.length - k) = zs.length + 1 := by omega
          have hkc : k ≤ cap := by omega
          have c1 : Hid (∀ (j : Nat) (u : Value), ((zs.take k).map (Value.int .i64))[j]? = some u → (w.alloc (.cells #[] 3)).cell? ((⟨bk, off, none⟩ : Addr).add j) = some u) := olds_cells (HR.out.alloc _) k _ rfl
          go_wp2_with (first | (at_builtin; refine wpList_append_own _ rfl (.tmp 34) (.tmp 37) 30 rfl w.heap.size 3 i0 (.int .i64 0) 1 8 Tryz.underlying30 hi hz0 hz1 hz2 rfl (by decide) _ _ _ rfl own0.out ⟨bk, off, none⟩ _ _ ((zs.take k).map (Value.int .i64)) rfl s1.out c1.out (ints_oneCell _ _) (by unfold maxLen; omega) (by omega) (by simp) ?_; intro v4 w4 hown4 hgrow4 hnil4; rw [Nat.zero_add, List.nil_append] at hown4; obtain ⟨g4, cp4, rfl⟩ := own_form hown4 (fun h => by have := (hnil4.1 h).1; cases this); have HB4 : Hid (Below w.heap.size w w4) := grown_bel ((Below.refl _ _).alloc (Nat.le_refl _) _) hgrow4 (by simp) (fun k hk => (own0.out.lt k hk).1); have own4 : Hid (w4.ownsRow w.heap.size 3 1 (.slice (some ⟨g4, 0, none⟩) k cp4) k ((zs.take k).map (Value.int .i64))) := hown4; clear hown4 hgrow4 hnil4 c1) | (at_builtin; refine wpList_append_own _ rfl (.tmp 39) (.tmp 41) 30 rfl w.heap.size 3 i0 (.int .i64 0) 1 8 Tryz.underlying30 hi hz0 hz1 hz2 rfl (by decide) _ _ _ rfl (own4.out.alloc _) ⟨w4.heap.size, 0, none⟩ 1 1 [.int .i64 x] rfl rfl (cell_one_new _ _ _) (by simp [Value.oneCell']) (by unfold maxLen; omega) (by omega) (alloc_size HB4.out) ?_; intro v5 w5 hown5 hgrow5 _; obtain ⟨g5, cp5, rfl⟩ := Joins.ownsRow_form hown5 (Nat.succ_pos _); have HB5 : Hid (Below w.heap.size w w5) := grown_bel (HB4.out.alloc HB4.out.size _) hgrow5 (alloc_size HB4.out) (fun k hk => (own4.out.lt k hk).1); have own5 : Hid (w5.ownsRow w.heap.size 3 1 (.slice (some ⟨g5, 0, none⟩) (k + 1) cp5) (k + 1) ((zs.take k).map (Value.int .i64) ++ [Value.int .i64 x])) := hown5; have c2 : Hid (∀ (j : Nat) (u : Value), ((zs.drop k).map (Value.int .i64))[j]? = some u → w5.cell? ((⟨bk, off + k, none⟩ : Addr).add j) = some u) := tail_cells (HR.out.keep HB5.out) k; clear hown5 hgrow5) | (at_builtin; refine wpList_append_own _ rfl (.tmp 43) (.tmp 46) 30 rfl w.heap.size 3 i0 (.int .i64 0) 1 8 Tryz.underlying30 hi hz0 hz1 hz2 rfl (by decide) _ _ _ rfl own5.out _ _ _ ((zs.drop k).map (Value.int .i64)) rfl s2.out c2.out (ints_oneCell _ _) (by unfold maxLen; omega) (by omega) HB5.out.size ?_; intro v6 w6 hown6 hgrow6 _; rw [hN, s3.out] at hown6; obtain ⟨g6, cp6, rfl⟩ := Joins.ownsRow_form hown6 (Nat.succ_pos _); obtain ⟨os6, len6, hcp6⟩ := OwnS.of_owns hown6; have HB6 : Hid (Below w.heap.size w w6) := grown_bel HB5.out hgrow6 HB5.out.size (fun k hk => (own5.out.lt k hk).1); clear hown6 hgrow6))
          go_ret
          exact .inr ⟨HM.out, g6, cp6, rfl, hcp6, os6, HB6.out⟩
    · have hv : Hid (k = blw zs x) := (blw_eq hk hs.out (fun h => absurd h hlt)).symm
      have HM : Hid (memI zs x = false) := decide_eq_false (fun g => by rw [← hv.out] at g; exact hlt g.1)
      have s1 : Hid (((zs.take k).map (Value.int .i64)).length = k * 1) := by simp [Hid]; omega
      have s2 : Hid (((zs.drop k).map (Value.int .i64)).length = (zs.length - k) * 1) := by simp [Hid]
      have s3 : Hid ((zs.take k).map (Value.int .i64) ++ [Value.int .i64 x] ++ (zs.drop k).map (Value.int .i64) = (joinL zs x).map (Value.int .i64)) := by unfold joinL; rw [← hv.out]; simp [Hid]
      have hN : k + 1 + (zs.length - k) = zs.length + 1 := by omega
      have hkc : k ≤ cap := by omega
      obtain ⟨A, hA, hAc⟩ : ∃ A : Addr, (if cap = k then some (⟨bk, off, none⟩ : Addr) else some ⟨bk, off + k, none⟩) = some A ∧ (¬ cap = k → A = ⟨bk, off + k, none⟩) := by
        by_cases hpc : cap = k
        · exact ⟨_, if_pos hpc, fun h => absurd hpc h⟩
        · exact ⟨_, if_neg hpc, fun _ => rfl⟩
      clear hAc
      have HA : Hid ((if cap = k then some (⟨bk, off, none⟩ : Addr) else some ⟨bk, off + k, none⟩) = some A) := hA
      have c1 : Hid (∀ (j : Nat) (u : Value), ((zs.take k).map (Value.int .i64))[j]? = some u → (w.alloc (.cells #[] 3)).cell? ((⟨bk, off, none⟩ : Addr).add j) = some u) := olds_cells (HR.out.alloc _) k _ rfl
      go_wp2_with (first | (at_builtin; refine wpList_append_own _ rfl (.tmp 34) (.tmp 37) 30 rfl w.heap.size 3 i0 (.int .i64 0) 1 8 Tryz.underlying30 hi hz0 hz1 hz2 rfl (by decide) _ _ _ rfl own0.out ⟨bk, off, none⟩ _ _ ((zs.take k).map (Value.int .i64)) rfl s1.out c1.out (ints_oneCell _ _) (by unfold maxLen; omega) (by omega) (by simp) ?_; intro v4 w4 hown4 hgrow4 hnil4; rw [Nat.zero_add, List.nil_append] at hown4; obtain ⟨g4, cp4, rfl⟩ := own_form hown4 (fun h => by have := (hnil4.1 h).1; cases this); have HB4 : Hid (Below w.heap.size w w4) := grown_bel ((Below.refl _ _).alloc (Nat.le_refl _) _) hgrow4 (by simp) (fun k hk => (own0.out.lt k hk).1); have own4 : Hid (w4.ownsRow w.heap.size 3 1 (.slice (some ⟨g4, 0, none⟩) k cp4) k ((zs.take k).map (Value.int .i64))) := hown4; clear hown4 hgrow4 hnil4 c1) | (at_builtin; refine wpList_append_own _ rfl (.tmp 39) (.tmp 41) 30 rfl w.heap.size 3 i0 (.int .i64 0) 1 8 Tryz.underlying30 hi hz0 hz1 hz2 rfl (by decide) _ _ _ rfl (own4.out.alloc _) ⟨w4.heap.size, 0, none⟩ 1 1 [.int .i64 x] rfl rfl (cell_one_new _ _ _) (by simp [Value.oneCell']) (by unfold maxLen; omega) (by omega) (alloc_size HB4.out) ?_; intro v5 w5 hown5 hgrow5 _; obtain ⟨g5, cp5, rfl⟩ := Joins.ownsRow_form hown5 (Nat.succ_pos _); have HB5 : Hid (Below w.heap.size w w5) := grown_bel (HB4.out.alloc HB4.out.size _) hgrow5 (alloc_size HB4.out) (fun k hk => (own4.out.lt k hk).1); have own5 : Hid (w5.ownsRow w.heap.size 3 1 (.slice (some ⟨g5, 0, none⟩) (k + 1) cp5) (k + 1) ((zs.take k).map (Value.int .i64) ++ [Value.int .i64 x])) := hown5; have c2 : Hid (∀ (j : Nat) (u : Value), ((zs.drop k).map (Value.int .i64))[j]? = some u → w5.cell? (A.add j) = some u) := tail_if HA.out (HR.out.keep HB5.out) hcap hk; clear hown5 hgrow5) | (at_builtin; refine wpList_append_own _ rfl (.tmp 43) (.tmp 46) 30 rfl w.heap.size 3 i0 (.int .i64 0) 1 8 Tryz.underlying30 hi hz0 hz1 hz2 rfl (by decide) _ _ _ rfl own5.out _ _ _ ((zs.drop k).map (Value.int .i64)) rfl s2.out c2.out (ints_oneCell _ _) (by unfold maxLen; omega) (by omega) HB5.out.size ?_; intro v6 w6 hown6 hgrow6 _; rw [hN, s3.out] at hown6; obtain ⟨g6, cp6, rfl⟩ := Joins.ownsRow_form hown6 (Nat.succ_pos _); obtain ⟨os6, len6, hcp6⟩ := OwnS.of_owns hown6; have HB6 : Hid (Below w.heap.size w w6) := grown_bel HB5.out hgrow6 HB5.out.size (fun k hk => (own5.out.lt k hk).1); clear hown6 hgrow6))
      go_ret
      exact .inr ⟨HM.out, g6, cp6, rfl, hcp6, os6, HB6.out⟩

end Go.Proofs.YtdceimnapbblnaaGreat
namespace Go.Proofs.YtdceimnapbblnaaGreat
open Go.RowKit
set_option linter.unusedVariables false

def dropX (zs : List Int) (x : Int) : List Int := zs.filter (fun y => !decide (y = x))
theorem dropX_take {zs : List Int} {x : Int} {k : Nat} (hk : k < zs.length) : dropX (zs.take (k + 1)) x = dropX (zs.take k) x ++ (if zs.getD k 0 = x then [] else [zs.getD k 0]) := by
  unfold dropX
  rw [List.take_succ_eq_append_getElem hk, List.filter_append]
  congr 1
  have e : zs.getD k 0 = zs[k] := by simp [List.getD_eq_getElem?_getD, List.getElem?_eq_getElem hk]
  rw [e]
  by_cases h : zs[k] = x
  · simp [h]
  · simp [h]
theorem dropX_le (zs : List Int) (x : Int) (k : Nat) : (dropX (zs.take k) x).length ≤ zs.length := by
  unfold dropX
  refine Nat.le_trans (List.length_filter_le _ _) ?_
  simp; omega
theorem dropX_none {l : List Int} {x : Int} (h : ∀ i, i < l.length → ¬ l.getD i 0 = x) : dropX l x = l := by
  unfold dropX
  rw [List.filter_eq_self]
  intro y hy
  obtain ⟨i, hi, rfl⟩ := List.mem_iff_getElem.1 hy
  have := h i hi
  rw [List.getD_eq_getElem?_getD, List.getElem?_eq_getElem hi] at this
  simpa using this
theorem dropX_leave {b d : Int} {zs : List Int} (R : Ring b d zs) {x : Int} (h : memI zs x = true) : dropX zs x = leaveL zs x := by
  have hm := of_decide_eq_true h
  obtain ⟨hlt, he⟩ := hm
  unfold leaveL
  obtain ⟨p, hp⟩ : ∃ p, p = blw zs x := ⟨_, rfl⟩
  rw [← hp] at hlt he ⊢
  have e : zs = zs.take p ++ (zs.getD p 0 :: zs.drop (p + 1)) := by
    conv => lhs; rw [← List.take_append_drop p zs]
    rw [List.drop_eq_getElem_cons hlt, List.getD_eq_getElem?_getD, List.getElem?_eq_getElem hlt]
    rfl
  conv => lhs; rw [e]
  unfold dropX
  rw [List.filter_append, List.filter_cons_of_neg (by rw [he]; simp)]
  have h1 : dropX (zs.take p) x = zs.take p := dropX_none (fun i hi hc => by
    rw [List.length_take] at hi
    have hip : i < p := by omega
    have := R.ris i p hip hlt
    rw [List.getD_eq_getElem?_getD, List.getElem?_take_of_lt hip, ← List.getD_eq_getElem?_getD] at hc
    omega)
  have h2 : dropX (zs.drop (p + 1)) x = zs.drop (p + 1) := dropX_none (fun i hi hc => by
    rw [List.length_drop] at hi
    have := R.ris p (p + 1 + i) (by omega) (by omega)
    rw [List.getD_eq_getElem?_getD, List.getElem?_drop, ← List.getD_eq_getElem?_getD] at hc
    omega)
  unfold dropX at h1 h2
  rw [h1, h2]
theorem leaveL_len {zs : List Int} {x : Int} (h : memI zs x = true) : (leaveL zs x).length = zs.length - 1 := by
  have hm := (of_decide_eq_true h).1
  unfold leaveL
  simp; omega

theorem own_snoc {w : World} {B n : Nat} {v : Value} {l l' : List Int} {z : Int} (e : l' = l ++ [z]) (h : w.ownsRow B n 1 v (l.length + 1) (l.map (Value.int .i64) ++ [Value.int .i64 z])) : w.ownsRow B n 1 v l'.length (l'.map (Value.int .i64)) := by
  rw [e, List.length_append, List.map_append]; exact h

def lstL (zs : List Int) (x : Int) (k : Nat) : List Int := (List.range k).map (fun i => zs.getD ((uptI zs x + i) % zs.length) 0)
theorem lstL_len (zs : List Int) (x : Int) (k : Nat) : (lstL zs x k).length = k := by simp [lstL]
theorem lstL_succ (zs : List Int) (x : Int) (k : Nat) : lstL zs x (k + 1) = lstL zs x k ++ [zs.getD ((uptI zs x + k) % zs.length) 0] := by
  unfold lstL; rw [List.range_succ, List.map_append]; rfl
theorem nxt_go {b d : Int} {zs : List Int} (R : Ring b d zs) (u i : Nat) : nxtI zs (zs.getD ((u + i) % zs.length) 0) = zs.getD ((u + (i + 1)) % zs.length) 0 := by
  have hl := R.l1
  rw [nxt_at R (Nat.mod_lt _ (by omega)), Nat.mod_add_mod, Nat.add_assoc]
end Go.Proofs.YtdceimnapbblnaaGreat
namespace Go.Proofs.YtdceimnapbblnaaGreat
open Go.RowKit
set_option linter.unusedVariables false

/-- the boxed space, and all that lay below it, are as they were -/
structure Bx (w : World) (b d : Int) (wk : World) : Prop where
  bel : Below (w.heap.size + 1) (w.alloc (.cells #[.int .i64 b, .int .i64 d] 64)) wk
theorem Bx.at {w wk : World} {b d : Int} (h : Bx w b d wk) : wk.cell? ⟨w.heap.size, 0, none⟩ = some (.int .i64 b) ∧ wk.cell? ⟨w.heap.size, 1, none⟩ = some (.int .i64 d) ∧ w.heap.size < wk.heap.size :=
  ⟨(h.bel.cell (p := ⟨w.heap.size, 0, none⟩) (by simp)).trans (by simp), (h.bel.cell (p := ⟨w.heap.size, 1, none⟩) (by simp)).trans (by simp), by have := h.bel.size; simp at this; omega⟩
theorem Bx.old {w wk : World} {b d : Int} (h : Bx w b d wk) : Below w.heap.size w wk := bel1 h.bel (by omega)
theorem Bx.step {w wk w' : World} {b d : Int} (h : Bx w b d wk) (hw : Below wk.heap.size wk w') : Bx w b d w' :=
  ⟨h.bel.trans (hw.mono (by have := h.at.2.2; omega))⟩
theorem Bx.first {w w1 : World} {b d : Int} (h : Below (w.alloc (.cells #[.int .i64 b, .int .i64 d] 64)).heap.size (w.alloc (.cells #[.int .i64 b, .int .i64 d] 64)) w1) : Bx w b d w1 := ⟨h.mono (by simp)⟩
theorem Bx.only {w wk w' : World} {b d : Int} {g : Nat} (h : Bx w b d wk) (ho : Only g wk w') (hg : w.heap.size < g) : Bx w b d w' :=
  ⟨h.bel.trans ⟨ho.os, ho.tape, ho.output, by rw [ho.size]; exact Nat.le_refl _, fun k hk => ho.block k (by omega)⟩⟩
theorem mrk_at' {k0 : Int} {zs : List Int} {n : Nat} (h : zs.length = n) : (mrk k0 zs n).length = n ∧ ∀ i, i < (mrk k0 zs n).length → (mrk k0 zs n).getD i 0 = k0 + (i : Int) := by
  subst h
  exact ⟨mrk_len (Nat.le_refl _), fun i hi => mrk_get (by rwa [mrk_len (Nat.le_refl _)] at hi)⟩
end Go.Proofs.YtdceimnapbblnaaGreat
namespace Go.Proofs.YtdceimnapbblnaaGreat
open Go.RowKit
set_option linter.unusedVariables false

set_option maxHeartbeats 3200000 in
theorem lputO_any (bk off cap : Nat) (zs : List Int) (x : Int) (w : World) (h1 : 1 ≤ zs.length) (h2 : zs.length ≤ 16) (hcap : zs.length ≤ cap) (hr : RowAt w (some ⟨bk, off, none⟩) zs) :
    Calls Tryz.prog 86 #[.slice (some ⟨bk, off, none⟩) zs.length cap, .int .i64 x] w fun e w' => (memI zs x = true ∧ e = .returned (.slice (some ⟨bk, off, none⟩) zs.length cap) ∧ w' = w) ∨
      (memI zs x = false ∧ ∃ g cp, e = .returned (.slice (some ⟨g, 0, none⟩) (zs.length + 1) cp) ∧ w'.ownsRow w.heap.size 3 1 (.slice (some ⟨g, 0, none⟩) (zs.length + 1) cp) (zs.length + 1) ((joinL zs x).map (Value.int .i64)) ∧ Below w.heap.size w w') := by
  obtain ⟨i0, hi, hz0, hz1, hz2⟩ := info_parts'
  have own0 : Hid ((w.alloc (.cells #[] 3)).ownsRow w.heap.size 3 1 (.slice (some ⟨w.heap.size, 0, none⟩) 0 0) 0 []) := own_lit0 w
  have HR : Hid (RowAt w (some ⟨bk, off, none⟩) zs) := hr
  clear hr
  go_enter Tryz.func86, Tryz.ntmps86
  go_wp2_with fail
  go_loop [5] (fun v => ∃ k : Nat, k ≤ zs.length ∧ v = .int .i64 k ∧ Hid (∀ i, i < k → zs.getD i 0 < x)) (fun v => zs.length - (intOf v).toNat)
  case atStart => exact ⟨0, Nat.zero_le _, rfl, fun i hi => by omega⟩
  case round =>
    obtain ⟨k, hk, rfl, hs⟩ := hrel
    by_cases hlt : k < zs.length
    · have hc1 := (rowAt_cell HR.out (by omega)).2 k hlt
      by_cases hx : zs.getD k 0 < x
      · have hn : Hid (∀ i, i < k + 1 → zs.getD i 0 < x) := fun i hi => by
          by_cases he : i = k
          · subst he; exact hx
          · exact hs.out i (by omega)
        generalize zs.getD k 0 = z at hc1 hx
        go_wp2_with fail
        go_round
        case rel => exact ⟨k + 1, by omega, by go_num, hn⟩
        case measure => simp [intOf]; omega
      · have hv : Hid (k = blw zs x) := (blw_eq (by omega) hs.out (fun _ => hx)).symm
        by_cases he : zs.getD k 0 = x
        · have HM : Hid (memI zs x = true) := decide_eq_true (by rw [← hv.out]; exact ⟨hlt, he⟩)
          have he' : (zs.getD k 0 == x) = true := beq_iff_eq.2 he
          clear he
          generalize zs.getD k 0 = z at hc1 hx he'
          go_wp2
          go_ret
          exact .inl ⟨HM.out, rfl, rfl⟩
        · have HM : Hid (memI zs x = false) := decide_eq_false (fun g => he (by rw [← hv.out] at g; exact g.2))
          have he' : (zs.getD k 0 == x) = false := by simp only [beq_eq_false_iff_ne, ne_eq]; exact he
          clear he
          generalize zs.getD k 0 = z at hc1 hx he'
          have s1 : Hid (((zs.take k).map (Value.int .i64)).length = k * 1) := by simp [Hid]; omega
          have s2 : Hid (((zs.drop k).map (Value.int .i64)).length = (zs.length - k) * 1) := by simp [Hid]
          have s3 : Hid ((zs.take k).map (Value.int .i64) ++ [Value.int .i64 x] ++ (zs.drop k).map (Value.int .i64) = (joinL zs x).map (Value.int .i64)) := by unfold joinL; rw [← hv.out]; simp [Hid]
          have hN : k + 1 + (zs.length - k) = zs.length + 1 := by omega
          have hkc : k ≤ cap := by omega
          have c1 : Hid (∀ (j : Nat) (u : Value), ((zs.take k).map (Value.int .i64))[j]? = some u → (w.alloc (.cells #[] 3)).cell? ((⟨bk, off, none⟩ : Addr).add j) = some u) := olds_cells (HR.out.alloc _) k _ rfl
          go_wp2_with (first | (at_builtin; refine wpList_append_own _ rfl (.tmp 34) (.tmp 37) 30 rfl w.heap.size 3 i0 (.int .i64 0) 1 8 Tryz.underlying30 hi hz0 hz1 hz2 rfl (by decide) _ _ _ rfl own0.out ⟨bk, off, none⟩ _ _ ((zs.take k).map (Value.int .i64)) rfl s1.out c1.out (ints_oneCell _ _) (by unfold maxLen; omega) (by omega) (by simp) ?_; intro v4 w4 hown4 hgrow4 hnil4; rw [Nat.zero_add, List.nil_append] at hown4; obtain ⟨g4, cp4, rfl⟩ := own_form hown4 (fun h => by have := (hnil4.1 h).1; cases this); have HB4 : Hid (Below w.heap.size w w4) := grown_bel ((Below.refl _ _).alloc (Nat.le_refl _) _) hgrow4 (by simp) (fun k hk => (own0.out.lt k hk).1); have own4 : Hid (w4.ownsRow w.heap.size 3 1 (.slice (some ⟨g4, 0, none⟩) k cp4) k ((zs.take k).map (Value.int .i64))) := hown4; clear hown4 hgrow4 hnil4 c1) | (at_builtin; refine wpList_append_own _ rfl (.tmp 39) (.tmp 41) 30 rfl w.heap.size 3 i0 (.int .i64 0) 1 8 Tryz.underlying30 hi hz0 hz1 hz2 rfl (by decide) _ _ _ rfl (own4.out.alloc _) ⟨w4.heap.size, 0, none⟩ 1 1 [.int .i64 x] rfl rfl (cell_one_new _ _ _) (by simp [Value.oneCell']) (by unfold maxLen; omega) (by omega) (alloc_size HB4.out) ?_; intro v5 w5 hown5 hgrow5 _; obtain ⟨g5, cp5, rfl⟩ := Joins.ownsRow_form hown5 (Nat.succ_pos _); have HB5 : Hid (Below w.heap.size w w5) := grown_bel (HB4.out.alloc HB4.out.size _) hgrow5 (alloc_size HB4.out) (fun k hk => (own4.out.lt k hk).1); have own5 : Hid (w5.ownsRow w.heap.size 3 1 (.slice (some ⟨g5, 0, none⟩) (k + 1) cp5) (k + 1) ((zs.take k).map (Value.int .i64) ++ [Value.int .i64 x])) := hown5; have c2 : Hid (∀ (j : Nat) (u : Value), ((zs.drop k).map (Value.int .i64))[j]? = some u → w5.cell? ((⟨bk, off + k, none⟩ : Addr).add j) = some u) := tail_cells (HR.out.keep HB5.out) k; clear hown5 hgrow5) | (at_builtin; refine wpList_append_own _ rfl (.tmp 43) (.tmp 46) 30 rfl w.heap.size 3 i0 (.int .i64 0) 1 8 Tryz.underlying30 hi hz0 hz1 hz2 rfl (by decide) _ _ _ rfl own5.out _ _ _ ((zs.drop k).map (Value.int .i64)) rfl s2.out c2.out (ints_oneCell _ _) (by unfold maxLen; omega) (by omega) HB5.out.size ?_; intro v6 w6 hown6 hgrow6 _; rw [hN, s3.out] at hown6; obtain ⟨g6, cp6, rfl⟩ := Joins.ownsRow_form hown6 (Nat.succ_pos _); have own6 : Hid (w6.ownsRow w.heap.size 3 1 (.slice (some ⟨g6, 0, none⟩) (zs.length + 1) cp6) (zs.length + 1) ((joinL zs x).map (Value.int .i64))) := hown6; have HB6 : Hid (Below w.heap.size w w6) := grown_bel HB5.out hgrow6 HB5.out.size (fun k hk => (own5.out.lt k hk).1); clear hown6 hgrow6))
          go_ret
          exact .inr ⟨HM.out, g6, cp6, rfl, own6.out, HB6.out⟩
    · have hv : Hid (k = blw zs x) := (blw_eq hk hs.out (fun h => absurd h hlt)).symm
      have HM : Hid (memI zs x = false) := decide_eq_false (fun g => by rw [← hv.out] at g; exact hlt g.1)
      have s1 : Hid (((zs.take k).map (Value.int .i64)).length = k * 1) := by simp [Hid]; omega
      have s2 : Hid (((zs.drop k).map (Value.int .i64)).length = (zs.length - k) * 1) := by simp [Hid]
      have s3 : Hid ((zs.take k).map (Value.int .i64) ++ [Value.int .i64 x] ++ (zs.drop k).map (Value.int .i64) = (joinL zs x).map (Value.int .i64)) := by unfold joinL; rw [← hv.out]; simp [Hid]
      have hN : k + 1 + (zs.length - k) = zs.length + 1 := by omega
      have hkc : k ≤ cap := by omega
      obtain ⟨A, hA, hAc⟩ : ∃ A : Addr, (if cap = k then some (⟨bk, off, none⟩ : Addr) else some ⟨bk, off + k, none⟩) = some A ∧ (¬ cap = k → A = ⟨bk, off + k, none⟩) := by
        by_cases hpc : cap = k
        · exact ⟨_, if_pos hpc, fun h => absurd hpc h⟩
        · exact ⟨_, if_neg hpc, fun _ => rfl⟩
      clear hAc
      have HA : Hid ((if cap = k then some (⟨bk, off, none⟩ : Addr) else some ⟨bk, off + k, none⟩) = some A) := hA
      have c1 : Hid (∀ (j : Nat) (u : Value), ((zs.take k).map (Value.int .i64))[j]? = some u → (w.alloc (.cells #[] 3)).cell? ((⟨bk, off, none⟩ : Addr).add j) = some u) := olds_cells (HR.out.alloc _) k _ rfl
      go_wp2_with (first | (at_builtin; refine wpList_append_own _ rfl (.tmp 34) (.tmp 37) 30 rfl w.heap.size 3 i0 (.int .i64 0) 1 8 Tryz.underlying30 hi hz0 hz1 hz2 rfl (by decide) _ _ _ rfl own0.out ⟨bk, off, none⟩ _ _ ((zs.take k).map (Value.int .i64)) rfl s1.out c1.out (ints_oneCell _ _) (by unfold maxLen; omega) (by omega) (by simp) ?_; intro v4 w4 hown4 hgrow4 hnil4; rw [Nat.zero_add, List.nil_append] at hown4; obtain ⟨g4, cp4, rfl⟩ := own_form hown4 (fun h => by have := (hnil4.1 h).1; cases this); have HB4 : Hid (Below w.heap.size w w4) := grown_bel ((Below.refl _ _).alloc (Nat.le_refl _) _) hgrow4 (by simp) (fun k hk => (own0.out.lt k hk).1); have own4 : Hid (w4.ownsRow w.heap.size 3 1 (.slice (some ⟨g4, 0, none⟩) k cp4) k ((zs.take k).map (Value.int .i64))) := hown4; clear hown4 hgrow4 hnil4 c1) | (at_builtin; refine wpList_append_own _ rfl (.tmp 39) (.tmp 41) 30 rfl w.heap.size 3 i0 (.int .i64 0) 1 8 Tryz.underlying30 hi hz0 hz1 hz2 rfl (by decide) _ _ _ rfl (own4.out.alloc _) ⟨w4.heap.size, 0, none⟩ 1 1 [.int .i64 x] rfl rfl (cell_one_new _ _ _) (by simp [Value.oneCell']) (by unfold maxLen; omega) (by omega) (alloc_size HB4.out) ?_; intro v5 w5 hown5 hgrow5 _; obtain ⟨g5, cp5, rfl⟩ := Joins.ownsRow_form hown5 (Nat.succ_pos _); have HB5 : Hid (Below w.heap.size w w5) := grown_bel (HB4.out.alloc HB4.out.size _) hgrow5 (alloc_size HB4.out) (fun k hk => (own4.out.lt k hk).1); have own5 : Hid (w5.ownsRow w.heap.size 3 1 (.slice (some ⟨g5, 0, none⟩) (k + 1) cp5) (k + 1) ((zs.take k).map (Value.int .i64) ++ [Value.int .i64 x])) := hown5; have c2 : Hid (∀ (j : Nat) (u : Value), ((zs.drop k).map (Value.int .i64))[j]? = some u → w5.cell? (A.add j) = some u) := tail_if HA.out (HR.out.keep HB5.out) hcap hk; clear hown5 hgrow5) | (at_builtin; refine wpList_append_own _ rfl (.tmp 43) (.tmp 46) 30 rfl w.heap.size 3 i0 (.int .i64 0) 1 8 Tryz.underlying30 hi hz0 hz1 hz2 rfl (by decide) _ _ _ rfl own5.out _ _ _ ((zs.drop k).map (Value.int .i64)) rfl s2.out c2.out (ints_oneCell _ _) (by unfold maxLen; omega) (by omega) HB5.out.size ?_; intro v6 w6 hown6 hgrow6 _; rw [hN, s3.out] at hown6; obtain ⟨g6, cp6, rfl⟩ := Joins.ownsRow_form hown6 (Nat.succ_pos _); have own6 : Hid (w6.ownsRow w.heap.size 3 1 (.slice (some ⟨g6, 0, none⟩) (zs.length + 1) cp6) (zs.length + 1) ((joinL zs x).map (Value.int .i64))) := hown6; have HB6 : Hid (Below w.heap.size w w6) := grown_bel HB5.out hgrow6 HB5.out.size (fun k hk => (own5.out.lt k hk).1); clear hown6 hgrow6))
      go_ret
      exact .inr ⟨HM.out, g6, cp6, rfl, own6.out, HB6.out⟩


/-- a list of ints that is owned from block B on, or nil -/
def OwnM (B : Nat) (w : World) (v : Value) (l : List Int) : Prop := w.ownsRow B 3 1 v l.length (l.map (Value.int .i64))
theorem OwnM.keep {B : Nat} {w w1 : World} {v : Value} {l : List Int} (h : OwnM B w v l) (hb : Below w.heap.size w w1) : OwnM B w1 v l := by
  obtain ⟨hl, h2⟩ := h
  refine ⟨hl, ?_⟩
  rcases h2 with h2 | ⟨g, cap, cur, hv, hg, hc, rest⟩
  · exact .inl h2
  · exact .inr ⟨g, cap, cur, hv, hg, (hb.block _ (Array.getElem?_eq_some_iff.1 hc).1).trans hc, rest⟩
theorem OwnM.block {B : Nat} {w w1 : World} {v : Value} {l : List Int} (h : OwnM B w v l) (hb : ∀ k, k < w.heap.size → B ≤ k → w1.heap[k]? = w.heap[k]?) : OwnM B w1 v l := by
  obtain ⟨hl, h2⟩ := h
  refine ⟨hl, ?_⟩
  rcases h2 with h2 | ⟨g, cap, cur, hv, hg, hc, rest⟩
  · exact .inl h2
  · exact .inr ⟨g, cap, cur, hv, hg, (hb _ (Array.getElem?_eq_some_iff.1 hc).1 hg).trans hc, rest⟩
theorem OwnM.form {B : Nat} {w : World} {v : Value} {l : List Int} (h : OwnM B w v l) : (v = .slice none 0 0 ∧ l = []) ∨ ∃ g cap, v = .slice (some ⟨g, 0, none⟩) l.length cap ∧ l.length ≤ cap ∧ OwnS B w g l := by
  rcases Joins.ownsRow_forms h with ⟨h1, h2⟩ | ⟨g, cap, rfl⟩
  · exact .inl ⟨h1, List.length_eq_zero_iff.1 h2⟩
  · obtain ⟨os, hl, hc⟩ := OwnS.of_owns h
    exact .inr ⟨g, cap, rfl, hc, os⟩
theorem OwnM.mono {B B' : Nat} {w : World} {v : Value} {l : List Int} (h : OwnM B w v l) (hb : B' ≤ B) : OwnM B' w v l := Joins.ownsRow_le h hb

set_option maxHeartbeats 1600000 in
theorem lput_nil (x : Int) (w : World) :
    Calls Tryz.prog 86 #[.slice none 0 0, .int .i64 x] w fun e w' => ∃ v, e = .returned v ∧ OwnM w.heap.size w' v [x] ∧ Below w.heap.size w w' := by
  obtain ⟨i0, hi, hz0, hz1, hz2⟩ := info_parts'
  have own0 : Hid ((w.alloc (.cells #[] 3)).ownsRow w.heap.size 3 1 (.slice (some ⟨w.heap.size, 0, none⟩) 0 0) 0 []) := own_lit0 w
  have HB0 : Hid (Below w.heap.size w (w.alloc (.cells #[] 3))) := (Below.refl _ _).alloc (Nat.le_refl _) _
  go_enter Tryz.func86, Tryz.ntmps86
  go_wp2_with fail
  go_loop [5] (fun v => v = .int .i64 0) (fun v => 0)
  case atStart => rfl
  case round =>
    subst hrel
    go_wp2_with (first | (at_builtin; refine wpList_append_own_none rfl (.tmp 34) (.tmp 37) 30 rfl w.heap.size 3 i0 1 Tryz.underlying30 hi _ _ _ rfl own0.out rfl ?_) | (at_builtin; refine wpList_append_own _ rfl (.tmp 39) (.tmp 41) 30 rfl w.heap.size 3 i0 (.int .i64 0) 1 8 Tryz.underlying30 hi hz0 hz1 hz2 rfl (by decide) _ _ _ rfl (own0.out.alloc _) ⟨w.heap.size + 1, 0, none⟩ 1 1 [.int .i64 x] rfl rfl (by have := cell_one_new (w.alloc (.cells #[] 3)) (.int .i64 x) 3; simpa using this) (by simp [Value.oneCell']) (by unfold maxLen; omega) (by omega) (alloc_size HB0.out) ?_; intro v5 w5 hown5 hgrow5 _; rw [Nat.zero_add, List.nil_append] at hown5; obtain ⟨g5, cp5, rfl⟩ := Joins.ownsRow_form hown5 (Nat.succ_pos _); have HB5 : Hid (Below w.heap.size w w5) := grown_bel (HB0.out.alloc HB0.out.size _) hgrow5 (alloc_size HB0.out) (fun k hk => (own0.out.lt k hk).1); have own5 : Hid (w5.ownsRow w.heap.size 3 1 (.slice (some ⟨g5, 0, none⟩) 1 cp5) 1 [Value.int .i64 x]) := hown5; clear hown5 hgrow5) | (at_builtin; refine wpList_append_own_none rfl (.tmp 43) (.tmp 46) 30 rfl w.heap.size 3 i0 1 Tryz.underlying30 hi _ _ _ rfl own5.out rfl ?_))
    go_ret
    exact ⟨_, rfl, own5.out, HB5.out⟩

theorem lputM_any (B : Nat) (v : Value) (ms : List Int) (x : Int) (w : World) (hS : OwnM B w v ms) (hN : ms = [] → v = .slice none 0 0) (hl : ms.length ≤ 16) (hB : B ≤ w.heap.size) :
    Calls Tryz.prog 86 #[v, .int .i64 x] w fun e w' => ∃ (v' : Value) (ms' : List Int), e = .returned v' ∧ OwnM B w' v' ms' ∧ 1 ≤ ms'.length ∧ ms'.length ≤ ms.length + 1 ∧ Below w.heap.size w w' := by
  rcases hS.form with ⟨rfl, rfl⟩ | ⟨g, cap, rfl, hc, os⟩
  · refine (lput_nil x w).mono ?_
    rintro e w1 ⟨v', he, ho, hb⟩
    exact ⟨v', [x], he, ho.mono hB, Nat.le_refl _, Nat.le_refl _, hb⟩
  · by_cases h0 : ms.length = 0
    · have : ms = [] := List.length_eq_zero_iff.1 h0
      exact absurd (hN this) (by simp)
    · refine (lputO_any g 0 cap ms x w (by omega) hl hc os.rowAt).mono ?_
      rintro e w1 (⟨hm, he, hw⟩ | ⟨hm, g2, cp2, he, ho, hb⟩)
      · subst hw
        exact ⟨_, ms, he, hS, by omega, by omega, Below.refl _ _⟩
      · refine ⟨_, joinL ms x, he, ?_, by rw [joinL_len]; omega, by rw [joinL_len]; exact Nat.le_refl _, hb⟩
        unfold OwnM
        rw [joinL_len]
        exact Joins.ownsRow_le ho hB
end Go.Proofs.YtdceimnapbblnaaGreat
namespace Go.Proofs.YtdceimnapbblnaaGreat
open Go.RowKit
set_option linter.unusedVariables false
/-- these cells lie from a place on -/
def CellsAt (w : World) (bk off : Nat) (cs : List Value) : Prop := ∀ j v, cs[j]? = some v → w.cell? ⟨bk, off + j, none⟩ = some v
theorem CellsAt.block {w w1 : World} {bk off : Nat} {cs : List Value} (h : CellsAt w bk off cs) (hb : w1.heap[bk]? = w.heap[bk]?) : CellsAt w1 bk off cs :=
  fun j v hj => (World.cell?_of_block (a := ⟨bk, off + j, none⟩) hb).trans (h j v hj)
/-- a type: its values, how many cells they take, when cells read as a value, when they own it (the blocks are listed, and lie from B to T), its marks, how many there are, how many elements its slices have -/
structure TyI where
  den : Type
  wide : Nat
  dflt : den
  rep : World → List Value → den → Prop
  own : Nat → Nat → World → List Value → den → List Nat → Prop
  mrk : Int → den → den × Int
  cnt : den → Nat
  tot : den → Nat
  leaf : Nat
  rep_len : ∀ {w : World} {cs : List Value} {m : den}, rep w cs m → cs.length = wide
  rep_keep : ∀ {w w1 : World} {cs : List Value} {m : den}, rep w cs m → Below w.heap.size w w1 → rep w1 cs m
  own_len : ∀ {B T : Nat} {w : World} {cs : List Value} {m : den} {F : List Nat}, own B T w cs m F → cs.length = wide
  own_blocks : ∀ {B T : Nat} {w w1 : World} {cs : List Value} {m : den} {F : List Nat}, own B T w cs m F → (∀ k ∈ F, w1.heap[k]? = w.heap[k]?) → own B T w1 cs m F
  own_bd : ∀ {B T : Nat} {w : World} {cs : List Value} {m : den} {F : List Nat}, own B T w cs m F → ∀ k ∈ F, B ≤ k ∧ k < T ∧ k < w.heap.size
  own_wide : ∀ {B T B' T' : Nat} {w : World} {cs : List Value} {m : den} {F : List Nat}, own B T w cs m F → B' ≤ B → T ≤ T' → own B' T' w cs m F
  own_rep : ∀ {B T : Nat} {w : World} {cs : List Value} {m : den} {F : List Nat}, own B T w cs m F → rep w cs m
  mrk_end : ∀ (k : Int) (m : den), (mrk k m).2 = k + (cnt m : Int)
  cnt_tot : ∀ m : den, cnt m ≤ leaf * (tot m + 1)
theorem TyI.own_keep (t : TyI) {B T : Nat} {w w1 : World} {cs : List Value} {m : t.den} {F : List Nat} (h : t.own B T w cs m F) (hb : Below w.heap.size w w1) : t.own B T w1 cs m F :=
  t.own_blocks h (fun k hk => hb.block k (t.own_bd h k hk).2.2)
def tyInt : TyI where
  den := Int
  wide := 1
  dflt := 0
  rep := fun _ cs m => cs = [.int .i64 m]
  own := fun _ _ _ cs m F => cs = [.int .i64 m] ∧ F = []
  mrk := fun k _ => (k, k + 1)
  cnt := fun _ => 1
  tot := fun _ => 0
  leaf := 1
  rep_len := fun h => by rw [h]; rfl
  rep_keep := fun h _ => h
  own_len := fun h => by rw [h.1]; rfl
  own_blocks := fun h _ => h
  own_bd := fun h k hk => by rw [h.2] at hk; simp at hk
  own_wide := fun h _ _ => h
  own_rep := fun h => h.1
  mrk_end := fun _ _ => rfl
  cnt_tot := fun _ => by simp
def tyBool : TyI where
  den := Bool
  wide := 1
  dflt := false
  rep := fun _ cs m => cs = [.bool m]
  own := fun _ _ _ cs m F => cs = [.bool m] ∧ F = []
  mrk := fun k _ => (decide (k % 3 = 0), k + 1)
  cnt := fun _ => 1
  tot := fun _ => 0
  leaf := 1
  rep_len := fun h => by rw [h]; rfl
  rep_keep := fun h _ => h
  own_len := fun h => by rw [h.1]; rfl
  own_blocks := fun h _ => h
  own_bd := fun h k hk => by rw [h.2] at hk; simp at hk
  own_wide := fun h _ _ => h
  own_rep := fun h => h.1
  mrk_end := fun _ _ => rfl
  cnt_tot := fun _ => by simp
def tyNil : TyI where
  den := Unit
  wide := 0
  dflt := ()
  rep := fun _ cs _ => cs = []
  own := fun _ _ _ cs _ F => cs = [] ∧ F = []
  mrk := fun k _ => ((), k)
  cnt := fun _ => 0
  tot := fun _ => 0
  leaf := 0
  rep_len := fun h => by rw [h]; rfl
  rep_keep := fun h _ => h
  own_len := fun h => by rw [h.1]; rfl
  own_blocks := fun h _ => h
  own_bd := fun h k hk => by rw [h.2] at hk; simp at hk
  own_wide := fun h _ _ => h
  own_rep := fun h => h.1
  mrk_end := fun k _ => by show k = k + ((0 : Nat) : Int); omega
  cnt_tot := fun _ => by simp
def tyPair (a b : TyI) : TyI where
  den := a.den × b.den
  wide := a.wide + b.wide
  dflt := (a.dflt, b.dflt)
  rep := fun w cs m => ∃ c d, cs = c ++ d ∧ a.rep w c m.1 ∧ b.rep w d m.2
  own := fun B T w cs m F => ∃ c d F1 F2, cs = c ++ d ∧ F = F1 ++ F2 ∧ a.own B T w c m.1 F1 ∧ b.own B T w d m.2 F2
  mrk := fun k m => (((a.mrk k m.1).1, (b.mrk (a.mrk k m.1).2 m.2).1), (b.mrk (a.mrk k m.1).2 m.2).2)
  cnt := fun m => a.cnt m.1 + b.cnt m.2
  tot := fun m => a.tot m.1 + b.tot m.2
  leaf := a.leaf + b.leaf
  rep_len := fun h => by
    obtain ⟨c, d, rfl, h1, h2⟩ := h
    rw [List.length_append, a.rep_len h1, b.rep_len h2]
  rep_keep := fun h hb => by
    obtain ⟨c, d, e, h1, h2⟩ := h
    exact ⟨c, d, e, a.rep_keep h1 hb, b.rep_keep h2 hb⟩
  own_len := fun h => by
    obtain ⟨c, d, F1, F2, rfl, _, h1, h2⟩ := h
    rw [List.length_append, a.own_len h1, b.own_len h2]
  own_blocks := fun h hb => by
    obtain ⟨c, d, F1, F2, e1, e2, h1, h2⟩ := h
    subst e2
    exact ⟨c, d, F1, F2, e1, rfl, a.own_blocks h1 (fun k hk => hb k (List.mem_append_left _ hk)), b.own_blocks h2 (fun k hk => hb k (List.mem_append_right _ hk))⟩
  own_bd := fun h k hk => by
    obtain ⟨c, d, F1, F2, e1, e2, h1, h2⟩ := h
    rw [e2] at hk
    rcases List.mem_append.1 hk with hk | hk
    · exact a.own_bd h1 k hk
    · exact b.own_bd h2 k hk
  own_wide := fun h h1 h2 => by
    obtain ⟨c, d, F1, F2, e1, e2, k1, k2⟩ := h
    exact ⟨c, d, F1, F2, e1, e2, a.own_wide k1 h1 h2, b.own_wide k2 h1 h2⟩
  own_rep := fun h => by
    obtain ⟨c, d, F1, F2, e1, e2, h1, h2⟩ := h
    exact ⟨c, d, e1, a.own_rep h1, b.own_rep h2⟩
  mrk_end := fun k m => by
    show (b.mrk (a.mrk k m.1).2 m.2).2 = k + ((a.cnt m.1 + b.cnt m.2 : Nat) : Int)
    rw [b.mrk_end, a.mrk_end]
    omega
  cnt_tot := fun m => by
    have h1 := a.cnt_tot m.1
    have h2 := b.cnt_tot m.2
    have e1 : a.leaf * (a.tot m.1 + 1) ≤ a.leaf * (a.tot m.1 + b.tot m.2 + 1) := Nat.mul_le_mul_left _ (by omega)
    have e2 : b.leaf * (b.tot m.2 + 1) ≤ b.leaf * (a.tot m.1 + b.tot m.2 + 1) := Nat.mul_le_mul_left _ (by omega)
    rw [Nat.add_mul]
    omega
theorem flat_mem {Fs : List (List Nat)} {i k : Nat} (hi : i < Fs.length) (h : k ∈ Fs.getD i []) : k ∈ Fs.flatten := by
  rw [List.getD_eq_getElem?_getD, List.getElem?_eq_getElem hi] at h
  exact List.mem_flatten.2 ⟨_, List.getElem_mem hi, h⟩
def mrkL {α : Type} (f : Int → α → α × Int) : Int → List α → List α × Int
  | k, [] => ([], k)
  | k, x :: xs => ((f k x).1 :: (mrkL f (f k x).2 xs).1, (mrkL f (f k x).2 xs).2)
def sumL {α : Type} (f : α → Nat) : List α → Nat
  | [] => 0
  | x :: xs => f x + sumL f xs
theorem mrkL_end {α : Type} {f : Int → α → α × Int} {c : α → Nat} (h : ∀ k x, (f k x).2 = k + (c x : Int)) : ∀ (k : Int) (l : List α), (mrkL f k l).2 = k + (sumL c l : Int)
  | k, [] => by simp [mrkL, sumL]
  | k, x :: xs => by
    simp only [mrkL, sumL]
    rw [mrkL_end h, h]
    omega
theorem mrkL_len {α : Type} (f : Int → α → α × Int) : ∀ (k : Int) (l : List α), (mrkL f k l).1.length = l.length
  | _, [] => rfl
  | k, x :: xs => by simp [mrkL, mrkL_len f]
theorem sumL_take {α : Type} (c : α → Nat) (x0 : α) : ∀ {l : List α} {i : Nat}, i < l.length → sumL c (l.take (i + 1)) = sumL c (l.take i) + c (l.getD i x0)
  | [], i, h => by simp at h
  | x :: xs, 0, h => by simp [sumL]
  | x :: xs, i + 1, h => by
    have := sumL_take c x0 (l := xs) (i := i) (by simpa using h)
    simp only [List.take_succ_cons, sumL, List.getD_cons_succ]
    omega
theorem sumL_le {α : Type} (c : α → Nat) : ∀ (l : List α) (i : Nat), sumL c (l.take i) ≤ sumL c l
  | [], i => by simp [sumL]
  | x :: xs, 0 => by simp [sumL]
  | x :: xs, i + 1 => by
    have := sumL_le c xs i
    simp only [List.take_succ_cons, sumL]
    omega
theorem sumL_mem {α : Type} (c : α → Nat) (x0 : α) : ∀ {l : List α} {i : Nat}, i < l.length → c (l.getD i x0) ≤ sumL c l
  | [], i, h => by simp at h
  | x :: xs, 0, h => by simp [sumL]
  | x :: xs, i + 1, h => by
    have := sumL_mem c x0 (l := xs) (i := i) (by simpa using h)
    simp only [sumL, List.getD_cons_succ]
    omega
theorem mul_sum {α : Type} {c f : α → Nat} {q : Nat} (h : ∀ x, c x ≤ q * (f x + 1)) : ∀ l : List α, sumL c l ≤ q * (l.length + sumL f l)
  | [] => by simp [sumL]
  | x :: xs => by
    have h1 := h x
    have h2 := mul_sum h xs
    simp only [sumL, List.length_cons]
    have e : q * (xs.length + 1 + (f x + sumL f xs)) = q * (f x + 1) + q * (xs.length + sumL f xs) := by rw [← Nat.mul_add]; congr 1; omega
    omega
def tySlice (t : TypeId) (e : TyI) : TyI where
  den := List e.den
  wide := 1
  dflt := []
  rep := fun w cs m => ∃ ad cap, cs = [.slice ad m.length cap] ∧ m.length ≤ maxLen ∧ m.length ≤ cap ∧ (ad = none → cap = 0) ∧
    (m = [] ∨ ∃ bk off, ad = some ⟨bk, off, none⟩ ∧ bk < w.heap.size ∧ ∀ i, i < m.length → ∃ ci, CellsAt w bk (off + i * e.wide) ci ∧ e.rep w ci (m.getD i e.dflt))
  own := fun B T w cs m F => ∃ ad cap, cs = [.slice ad m.length cap] ∧ m.length ≤ 1048576 ∧ m.length ≤ cap ∧ (ad = none → cap = 0) ∧
    ((m = [] ∧ F = []) ∨ ∃ (g : Nat) (cur : Array Value) (Fs : List (List Nat)), ad = some ⟨g, 0, none⟩ ∧ B ≤ g ∧ g < T ∧ w.heap[g]? = some (.cells cur t (0, 0)) ∧ Fs.length = m.length ∧ F = g :: Fs.flatten ∧
      ∀ i, i < m.length → ∃ ci, CellsAt w g (i * e.wide) ci ∧ e.own B T w ci (m.getD i e.dflt) (Fs.getD i []))
  mrk := fun k m => mrkL e.mrk k m
  cnt := fun m => sumL e.cnt m
  tot := fun m => m.length + sumL e.tot m
  leaf := e.leaf
  rep_len := fun h => by
    obtain ⟨ad, cap, rfl, _⟩ := h
    rfl
  rep_keep := fun h hb => by
    obtain ⟨ad, cap, h0, h1, h2, h3, h4⟩ := h
    refine ⟨ad, cap, h0, h1, h2, h3, ?_⟩
    rcases h4 with h4 | ⟨bk, off, ha, hl, hc⟩
    · exact .inl h4
    · refine .inr ⟨bk, off, ha, Nat.lt_of_lt_of_le hl hb.size, fun i hi => ?_⟩
      obtain ⟨ci, c1, c2⟩ := hc i hi
      exact ⟨ci, c1.block (hb.block bk hl), e.rep_keep c2 hb⟩
  own_len := fun h => by
    obtain ⟨ad, cap, rfl, _⟩ := h
    rfl
  own_blocks := fun h hb => by
    obtain ⟨ad, cap, h0, h1, h2, h3, h4⟩ := h
    refine ⟨ad, cap, h0, h1, h2, h3, ?_⟩
    rcases h4 with h4 | ⟨g, cur, Fs, ha, hB, hT, hg, hl, hF, hc⟩
    · exact .inl h4
    · subst hF
      refine .inr ⟨g, cur, Fs, ha, hB, hT, (hb g (by simp)).trans hg, hl, rfl, fun i hi => ?_⟩
      obtain ⟨ci, c1, c2⟩ := hc i hi
      exact ⟨ci, c1.block (hb g (by simp)), e.own_blocks c2 (fun k hk => hb k (List.mem_cons_of_mem _ (flat_mem (by omega) hk)))⟩
  own_bd := fun h k hk => by
    obtain ⟨ad, cap, h0, h1, h2, h3, h4⟩ := h
    rcases h4 with ⟨_, hF⟩ | ⟨g, cur, Fs, ha, hB, hT, hg, hl, hF, hc⟩
    · rw [hF] at hk; simp at hk
    · rw [hF] at hk
      rcases List.mem_cons.1 hk with rfl | hk
      · exact ⟨hB, hT, (Array.getElem?_eq_some_iff.1 hg).1⟩
      · obtain ⟨l, hl1, hl2⟩ := List.mem_flatten.1 hk
        obtain ⟨i, hi, rfl⟩ := List.getElem_of_mem hl1
        obtain ⟨ci, _, c2⟩ := hc i (by omega)
        exact e.own_bd c2 k (by rw [List.getD_eq_getElem?_getD, List.getElem?_eq_getElem hi]; exact hl2)
  own_wide := fun h b1 b2 => by
    obtain ⟨ad, cap, h0, h1, h2, h3, h4⟩ := h
    refine ⟨ad, cap, h0, h1, h2, h3, ?_⟩
    rcases h4 with h4 | ⟨g, cur, Fs, ha, hB, hT, hg, hl, hF, hc⟩
    · exact .inl h4
    · refine .inr ⟨g, cur, Fs, ha, by omega, by omega, hg, hl, hF, fun i hi => ?_⟩
      obtain ⟨ci, c1, c2⟩ := hc i hi
      exact ⟨ci, c1, e.own_wide c2 b1 b2⟩
  own_rep := fun h => by
    obtain ⟨ad, cap, h0, h1, h2, h3, h4⟩ := h
    refine ⟨ad, cap, h0, by unfold maxLen; omega, h2, h3, ?_⟩
    rcases h4 with ⟨h4, _⟩ | ⟨g, cur, Fs, ha, hB, hT, hg, hl, hF, hc⟩
    · exact .inl h4
    · refine .inr ⟨g, 0, ha, (Array.getElem?_eq_some_iff.1 hg).1, fun i hi => ?_⟩
      obtain ⟨ci, c1, c2⟩ := hc i hi
      exact ⟨ci, by rw [Nat.zero_add]; exact c1, e.own_rep c2⟩
  mrk_end := fun k m => mrkL_end e.mrk_end k m
  cnt_tot := fun m => by
    have h := mul_sum e.cnt_tot m
    have : e.leaf * (m.length + sumL e.tot m) ≤ e.leaf * (m.length + sumL e.tot m + 1) := Nat.mul_le_mul_left _ (by omega)
    omega
/-- where the marks of element i begin -/
def kAtT (e : TyI) (k : Int) (m : List e.den) (i : Nat) : Int := k + (sumL e.cnt (m.take i) : Int)
theorem kAtT_succ {e : TyI} {k : Int} {m : List e.den} {i : Nat} (hi : i < m.length) : kAtT e k m (i + 1) = kAtT e k m i + (e.cnt (m.getD i e.dflt) : Int) := by
  unfold kAtT
  rw [sumL_take e.cnt e.dflt hi]
  omega
theorem kAtT_bd {e : TyI} (k : Int) (m : List e.den) (i : Nat) : k ≤ kAtT e k m i ∧ kAtT e k m i ≤ k + (sumL e.cnt m : Int) := by
  have := sumL_le e.cnt m i
  unfold kAtT
  omega
theorem mrkL_get {e : TyI} : ∀ (k : Int) (m : List e.den) (i : Nat), i < m.length → (mrkL e.mrk k m).1.getD i e.dflt = (e.mrk (kAtT e k m i) (m.getD i e.dflt)).1
  | k, [], i, h => by simp at h
  | k, x :: xs, 0, h => by simp [mrkL, kAtT, sumL]
  | k, x :: xs, i + 1, h => by
    have := mrkL_get (e.mrk k x).2 xs i (by simpa using h)
    simp only [mrkL, List.getD_cons_succ]
    rw [this]
    congr 2
    unfold kAtT
    simp only [List.take_succ_cons, sumL]
    rw [e.mrk_end]
    omega
/-- one element of an owned slice: taken out, and put back when it has turned -/
theorem own_focus {t : TypeId} {e : TyI} {B T : Nat} {w : World} {g cap : Nat} {m : List e.den} {F : List Nat} (h : (tySlice t e).own B T w [.slice (some ⟨g, 0, none⟩) m.length cap] m F) (hn : F.Nodup) {i : Nat} (hi : i < m.length) :
    ∃ ci Fi, CellsAt w g (i * e.wide) ci ∧ e.own B T w ci (m.getD i e.dflt) Fi ∧ Fi.Nodup ∧ ¬ g ∈ Fi ∧ g ∈ F ∧ (∀ k ∈ Fi, k ∈ F) ∧ (∃ cur, w.heap[g]? = some (.cells cur t (0, 0))) ∧
      ∀ (w1 : World) (c1 : List Value) (m1 : e.den) (cur1 : Array Value), w1.heap[g]? = some (.cells cur1 t (0, 0)) → (∀ k ∈ F, ¬ k = g → ¬ k ∈ Fi → w1.heap[k]? = w.heap[k]?) →
        CellsAt w1 g (i * e.wide) c1 → (∀ j v, (j < i * e.wide ∨ (i + 1) * e.wide ≤ j) → w.cell? ⟨g, j, none⟩ = some v → w1.cell? ⟨g, j, none⟩ = some v) → e.own B T w1 c1 m1 Fi →
        (tySlice t e).own B T w1 [.slice (some ⟨g, 0, none⟩) m.length cap] (List.set m i m1) F := by
  obtain ⟨ad, cap', h0, h1, h2, h3, h4⟩ := h
  simp at h0
  obtain ⟨rfl, rfl⟩ := h0
  rcases h4 with ⟨h4, _⟩ | ⟨g', cur, Fs, ha, hB, hT, hg, hl, hF, hc⟩
  · rw [h4] at hi; simp at hi
  · simp at ha
    subst ha
    subst hF
    obtain ⟨ci, c1, c2⟩ := hc i hi
    have hiF : i < Fs.length := by omega
    have hnd := List.nodup_cons.1 hn
    have hFi : Fs.getD i [] = Fs[i] := by rw [List.getD_eq_getElem?_getD, List.getElem?_eq_getElem hiF]; rfl
    have hpw := List.pairwise_flatten.1 hnd.2
    refine ⟨ci, Fs.getD i [], c1, c2, by rw [hFi]; exact hpw.1 _ (List.getElem_mem hiF), fun hh => hnd.1 (flat_mem hiF hh), by simp, fun k hk => List.mem_cons_of_mem _ (flat_mem hiF hk), ⟨cur, hg⟩, ?_⟩
    intro w1 d1 m1 cur1 hg1 hk hd ho hw
    have hsl : (List.set m i m1).length = m.length := List.length_set
    refine ⟨_, cap, by rw [hsl], by rw [hsl]; exact h1, by rw [hsl]; exact h2, h3, .inr ⟨g, cur1, Fs, rfl, hB, hT, hg1, by rw [hsl]; exact hl, rfl, fun j hj => ?_⟩⟩
    rw [hsl] at hj
    by_cases hij : i = j
    · subst hij
      refine ⟨d1, hd, ?_⟩
      have e1 : List.getD (List.set m i m1) i e.dflt = m1 := by simp [List.getD_eq_getElem?_getD, hi]
      rw [e1]
      exact hw
    · obtain ⟨cj, q1, q2⟩ := hc j hj
      have e1 : List.getD (List.set m i m1) j e.dflt = List.getD m j e.dflt := by
        rw [List.getD_eq_getElem?_getD, List.getD_eq_getElem?_getD, List.getElem?_set, if_neg hij]
      have hjF : j < Fs.length := by omega
      refine ⟨cj, fun r v hr => ?_, ?_⟩
      · have hlen := e.own_len q2
        have hrl : r < e.wide := by have := (List.getElem?_eq_some_iff.1 hr).1; omega
        refine ho _ v ?_ (q1 r v hr)
        by_cases hlt : j < i
        · left
          have : (j + 1) * e.wide ≤ i * e.wide := Nat.mul_le_mul_right _ hlt
          rw [Nat.add_mul, Nat.one_mul] at this
          omega
        · right
          have : (i + 1) * e.wide ≤ j * e.wide := Nat.mul_le_mul_right _ (by omega)
          omega
      · rw [e1]
        refine e.own_blocks q2 (fun k hkj => ?_)
        refine hk k (List.mem_cons_of_mem _ (flat_mem hjF hkj)) (fun he => hnd.1 (by rw [← he]; exact flat_mem hjF hkj)) (fun hki => ?_)
        have hFj : Fs.getD j [] = Fs[j] := by rw [List.getD_eq_getElem?_getD, List.getElem?_eq_getElem hjF]; rfl
        rw [hFj] at hkj
        rw [hFi] at hki
        have hdis := List.pairwise_iff_getElem.1 hpw.2
        by_cases hlt : i < j
        · exact hdis i j hiF hjF hlt k hki k hkj rfl
        · exact hdis j i hjF hiF (by omega) k hkj k hki rfl
end Go.Proofs.YtdceimnapbblnaaGreat
namespace Go.Proofs.YtdceimnapbblnaaGreat
open Go.RowKit
set_option linter.unusedVariables false

structure Pr where
  id : Int
  succ : Int
  point : Int
  backs : List Int
def pr0 : Pr := ⟨0, 0, 0, []⟩
/-- one peer, from a cell on -/
structure PeerAt (w : World) (b o : Nat) (p : Pr) : Prop where
  c0 : w.cell? ⟨b, o, none⟩ = some (.int .i64 p.id)
  c1 : w.cell? ⟨b, o + 1, none⟩ = some (.int .i64 p.succ)
  c2 : w.cell? ⟨b, o + 2, none⟩ = some (.int .i64 p.point)
  c3 : ∃ ab cb, w.cell? ⟨b, o + 3, none⟩ = some (.slice ab p.backs.length cb) ∧ RowAt w ab p.backs ∧ p.backs.length ≤ maxLen ∧ p.backs.length ≤ cb ∧ (ab = none → cb = 0)
/-- a slice of peers that reads as ps -/
def PeersAt (w : World) (a : Option Addr) (ps : List Pr) : Prop :=
  ps = [] ∨ ∃ b off, a = some ⟨b, off, none⟩ ∧ b < w.heap.size ∧ ∀ i, i < ps.length → PeerAt w b (off + i * 4) (ps.getD i pr0)
theorem PeerAt.keep {w w1 : World} {b o : Nat} {p : Pr} (h : PeerAt w b o p) (hb : Below w.heap.size w w1) (hl : b < w.heap.size) : PeerAt w1 b o p := by
  obtain ⟨c0, c1, c2, ab, cb, c3, hr, hm, hc⟩ := h
  exact ⟨(hb.cell (p := ⟨b, o, none⟩) hl).trans c0, (hb.cell (p := ⟨b, o + 1, none⟩) hl).trans c1, (hb.cell (p := ⟨b, o + 2, none⟩) hl).trans c2, ab, cb, (hb.cell (p := ⟨b, o + 3, none⟩) hl).trans c3, hr.keep hb, hm, hc⟩
theorem PeersAt.keep {w w1 : World} {a : Option Addr} {ps : List Pr} (h : PeersAt w a ps) (hb : Below w.heap.size w w1) : PeersAt w1 a ps := by
  rcases h with h | ⟨b, off, ha, hl, hc⟩
  · exact .inl h
  · exact .inr ⟨b, off, ha, Nat.lt_of_lt_of_le hl hb.size, fun i hi => (hc i hi).keep hb hl⟩
theorem PeersAt.keepB {w w1 : World} {a : Option Addr} {ps : List Pr} {B : Nat} (h : PeersAt w a ps) (hb : Below B w w1) (hB : w.heap.size ≤ B) : PeersAt w1 a ps := h.keep (hb.mono hB)
theorem PeersAt.alloc {w : World} {a : Option Addr} {ps : List Pr} (h : PeersAt w a ps) (o : Obj) : PeersAt (w.alloc o) a ps := h.keep ((Below.refl _ _).alloc (Nat.le_refl _) _)
theorem peersAt_form {w : World} {a : Option Addr} {ps : List Pr} (h : PeersAt w a ps) (hz : 0 < ps.length) : ∃ bk off, a = some ⟨bk, off, none⟩ := by
  rcases h with rfl | ⟨b', o', h, _⟩
  · simp at hz
  · exact ⟨b', o', h⟩
theorem peersAt_cell {w : World} {bk off : Nat} {ps : List Pr} (h : PeersAt w (some ⟨bk, off, none⟩) ps) (hz : 0 < ps.length) : bk < w.heap.size ∧ ∀ i, i < ps.length → PeerAt w bk (off + i * 4) (ps.getD i pr0) := by
  rcases h with rfl | ⟨b', o', h, hl, hc⟩
  · simp at hz
  · simp at h; obtain ⟨rfl, rfl⟩ := h; exact ⟨hl, hc⟩
/-- how many numbers the first k peers have as backs -/
def bsum : List Pr → Nat
  | [] => 0
  | p :: ps => p.backs.length + bsum ps
theorem bsum_take {ps : List Pr} : ∀ {k : Nat}, k < ps.length → bsum (ps.take (k + 1)) = bsum (ps.take k) + (ps.getD k pr0).backs.length := by
  induction ps with
  | nil => intro k hk; simp at hk
  | cons p ps ih =>
    intro k hk
    cases k with
    | zero => simp [bsum]
    | succ k =>
      have := ih (k := k) (by simpa using hk)
      simp only [List.take_succ_cons, bsum]
      rw [this]
      simp only [List.getD_cons_succ]
      omega
theorem bsum_mem {ps : List Pr} : ∀ {k : Nat}, k < ps.length → (ps.getD k pr0).backs.length ≤ bsum ps := by
  induction ps with
  | nil => intro k hk; simp at hk
  | cons p ps ih =>
    intro k hk
    cases k with
    | zero => simp [bsum]
    | succ k =>
      have := ih (k := k) (by simpa using hk)
      simp only [bsum, List.getD_cons_succ]
      omega

theorem szIntS_any (a : Option Addr) (n cap : Nat) (l : Int) (w : World) (hn : n ≤ maxLen) (l1 : 0 ≤ l) (l2 : l ≤ 1048576) :
    Calls Tryz.prog 104 #[.slice a n cap, .int .i64 l] w fun e w' => e = .returned (.int .i64 (if l - (n : Int) < 0 then -1 else l - (n : Int))) ∧ w' = w := by
  unfold maxLen at hn
  by_cases h : l - (n : Int) < 0
  · rw [if_pos h]
    go_enter Tryz.func104, Tryz.ntmps104
    go_wp2
    go_ret
    exact ⟨rfl, rfl⟩
  · rw [if_neg h]
    go_enter Tryz.func104, Tryz.ntmps104
    go_wp2
    go_ret
    exact ⟨rfl, rfl⟩
theorem szPeer_any (x y z : Int) (a : Option Addr) (n cap : Nat) (l : Int) (w : World) (hn : n ≤ maxLen) (l1 : 0 ≤ l) (l2 : l ≤ 1048576) :
    Calls Tryz.prog 167 #[.agg #[.int .i64 x, .int .i64 y, .int .i64 z, .slice a n cap], .int .i64 l] w fun e w' => e = .returned (.int .i64 (if l - (n : Int) < 0 then -1 else l - (n : Int))) ∧ Below w.heap.size w w' := by
  by_cases h : l - (n : Int) < 0
  · have C := szIntS_any a n cap l (w.alloc (.cells #[.int .i64 x, .int .i64 y, .int .i64 z, .slice a n cap] 206)) hn l1 l2
    rw [if_pos h] at C ⊢
    go_enter Tryz.func167, Tryz.ntmps167
    go_wp2_with fail
    refine C.mono ?_
    rintro e w1 ⟨rfl, rfl⟩
    go_wp2
    go_ret
    exact ⟨rfl, (Below.refl _ _).alloc (Nat.le_refl _) _⟩
  · have C := szIntS_any a n cap l (w.alloc (.cells #[.int .i64 x, .int .i64 y, .int .i64 z, .slice a n cap] 206)) hn l1 l2
    rw [if_neg h] at C ⊢
    go_enter Tryz.func167, Tryz.ntmps167
    go_wp2_with fail
    refine C.mono ?_
    rintro e w1 ⟨rfl, rfl⟩
    go_wp2
    go_ret
    exact ⟨rfl, (Below.refl _ _).alloc (Nat.le_refl _) _⟩

set_option maxHeartbeats 1600000 in
theorem szPeerS_any (a : Option Addr) (cap : Nat) (ps : List Pr) (w : World) (hm : ps.length ≤ maxLen) (hr : PeersAt w a ps) :
    Calls Tryz.prog 115 #[.slice a ps.length cap, .int .i64 1048576] w fun e w' => ∃ v : Int, e = .returned (.int .i64 v) ∧ (v < 0 ∨ (0 ≤ v ∧ ps.length + bsum ps ≤ 1048576)) ∧ -1 ≤ v ∧ v ≤ 1048576 ∧ Below w.heap.size w w' := by
  unfold maxLen at hm
  have HR : Hid (PeersAt w a ps) := hr
  clear hr
  by_cases hbig : 1048576 < ps.length
  · go_enter Tryz.func115, Tryz.ntmps115
    go_wp2
    go_ret
    exact ⟨-1, rfl, .inl (by omega), by omega, by omega, Below.refl _ _⟩
  · have hz : ps.length ≤ 1048576 := by omega
    go_enter Tryz.func115, Tryz.ntmps115
    go_wp2_with fail
    go_loopw [1, 5] (fun vl vi wr => ∃ (k : Nat) (l : Int), k ≤ ps.length ∧ vi = .int .i64 k ∧ vl = .int .i64 l ∧ 0 ≤ l ∧ l = 1048576 - (ps.length : Int) - (bsum (ps.take k) : Int) ∧ Below w.heap.size w wr) (fun _ vi _ => ps.length - (intOf vi).toNat)
    case atStart => exact ⟨0, _, Nat.zero_le _, rfl, rfl, by omega, by simp [bsum], Below.refl _ _⟩
    case round =>
      obtain ⟨k, l, hk, rfl, rfl, l1, hl, hbel⟩ := hrel
      have HL : Hid (l = 1048576 - (ps.length : Int) - (bsum (ps.take k) : Int)) := hl
      have l2 : l ≤ 1048576 := by omega
      clear hl
      by_cases hlt : k < ps.length
      · obtain ⟨bk, off, rfl⟩ := peersAt_form HR.out (by omega)
        obtain ⟨c0, c1, c2, ab, cb, c3, _, hn, _⟩ := (peersAt_cell (HR.out.keep hbel) (by omega)).2 k hlt
        have hbt := bsum_take hlt
        have HBT : Hid (bsum (ps.take (k + 1)) = bsum (ps.take k) + (ps.getD k pr0).backs.length) := hbt
        clear hbt
        obtain ⟨nb, hnb⟩ : ∃ nb, nb = (ps.getD k pr0).backs.length := ⟨_, rfl⟩
        rw [← hnb] at c3 hn HBT
        clear hnb
        generalize (ps.getD k pr0).id = x0 at c0
        generalize (ps.getD k pr0).succ = x1 at c1
        generalize (ps.getD k pr0).point = x2 at c2
        have C := szPeer_any x0 x1 x2 ab nb cb l wr hn l1 l2
        by_cases hneg : l - (nb : Int) < 0
        · rw [if_pos hneg] at C
          go_wp2_with fail
          refine C.mono ?_
          rintro e w1 ⟨rfl, hw1⟩
          go_wp2
          go_ret
          exact ⟨-1, rfl, .inl (by omega), by omega, by omega, belt hbel hw1⟩
        · rw [if_neg hneg] at C
          go_wp2_with fail
          refine C.mono ?_
          rintro e w1 ⟨rfl, hw1⟩
          have hbel1 := belt hbel hw1
          go_wp2_with fail
          go_roundw
          case rel => exact ⟨k + 1, _, by omega, by go_num, rfl, by omega, by rw [HBT.out]; have := HL.out; omega, hbel1⟩
          case measure => simp [intOf]; omega
      · have hh := HL.out
        rw [List.take_of_length_le (by omega)] at hh
        have HH : Hid (ps.length + bsum ps ≤ 1048576) := by unfold Hid; omega
        clear hh
        go_wp2
        go_ret
        exact ⟨l, rfl, .inr ⟨l1, HH.out⟩, by omega, by omega, hbel⟩

theorem szPeers_any (b d : Int) (a : Option Addr) (cap : Nat) (ps : List Pr) (w : World) (hm : ps.length ≤ maxLen) (hr : PeersAt w a ps) :
    Calls Tryz.prog 43 #[.agg #[.int .i64 b, .int .i64 d, .slice a ps.length cap], .int .i64 1048576] w fun e w' => ∃ v : Int, e = .returned (.int .i64 v) ∧ (v < 0 ∨ (0 ≤ v ∧ ps.length + bsum ps ≤ 1048576)) ∧ Below w.heap.size w w' := by
  have hr1 := hr.alloc (.cells #[.int .i64 b, .int .i64 d, .slice a ps.length cap] 67)
  go_enter Tryz.func43, Tryz.ntmps43
  go_wp2_with fail
  refine (szPeerS_any a cap ps _ hm hr1).mono ?_
  rintro e w1 ⟨v, rfl, hv, v1, v2, hw1⟩
  by_cases hn : v < 0
  · go_wp2
    go_ret
    exact ⟨-1, rfl, .inl (by omega), bel1 hw1 (by simp)⟩
  · go_wp2
    go_ret
    exact ⟨v, rfl, hv, bel1 hw1 (by simp)⟩
end Go.Proofs.YtdceimnapbblnaaGreat
namespace Go.Proofs.YtdceimnapbblnaaGreat
open Go.RowKit
set_option linter.unusedVariables false

theorem bne_same (x : Int) : (x != x) = false := by simp
set_option maxHeartbeats 800000 in
theorem eqSpace_same (b d : Int) (w : World) :
    Calls Tryz.prog 118 #[.agg #[.int .i64 b, .int .i64 d], .agg #[.int .i64 b, .int .i64 d]] w fun e w' => e = .returned (.bool true) ∧ Below w.heap.size w w' := by
  go_enter Tryz.func118, Tryz.ntmps118
  go_wp2
  go_ret
  exact ⟨rfl, ((Below.refl _ _).alloc (Nat.le_refl _) _).alloc (by simp) _⟩
set_option maxHeartbeats 1600000 in
theorem eqPeer_same (x y z : Int) (a a' : Option Addr) (cap cap' : Nat) (l : List Int) (w : World) (hm : l.length ≤ maxLen) (hr : RowAt w a l) (hr' : RowAt w a' l) :
    Calls Tryz.prog 169 #[.agg #[.int .i64 x, .int .i64 y, .int .i64 z, .slice a l.length cap], .agg #[.int .i64 x, .int .i64 y, .int .i64 z, .slice a' l.length cap']] w fun e w' => e = .returned (.bool true) ∧ Below w.heap.size w w' := by
  have hb2 : Below w.heap.size w ((w.alloc (.cells #[.int .i64 x, .int .i64 y, .int .i64 z, .slice a l.length cap] 130)).alloc (.cells #[.int .i64 x, .int .i64 y, .int .i64 z, .slice a' l.length cap'] 130)) := ((Below.refl _ _).alloc (Nat.le_refl _) _).alloc (by simp) _
  have C := eqIntS_any a a' cap cap' l l _ hm (hr.keep hb2) (hr'.keep hb2)
  have hs : sameB l l = true := decide_eq_true rfl
  rw [hs] at C
  have HB2 : Hid _ := hb2
  clear hr hr' hs hb2
  go_enter Tryz.func169, Tryz.ntmps169
  go_wp2_with fail
  refine C.mono ?_
  rintro e w1 ⟨rfl, hw1⟩
  go_wp2
  go_ret
  exact ⟨rfl, HB2.out.trans (hw1.mono HB2.out.size)⟩

set_option maxRecDepth 100000 in
set_option maxHeartbeats 3200000 in
theorem eqPeerS_same (a a' : Option Addr) (cap cap' : Nat) (ps : List Pr) (w : World) (hm : ps.length ≤ 1048576) (hx : PeersAt w a ps) (hy : PeersAt w a' ps) :
    Calls Tryz.prog 119 #[.slice a ps.length cap, .slice a' ps.length cap'] w fun e w' => e = .returned (.bool true) ∧ Below w.heap.size w w' := by
  have HX : Hid (PeersAt w a ps) := hx
  have HY : Hid (PeersAt w a' ps) := hy
  clear hx hy
  go_enter Tryz.func119, Tryz.ntmps119
  go_wp2_with fail
  go_loopw [5] (fun vi wr => ∃ k : Nat, k ≤ ps.length ∧ vi = .int .i64 k ∧ Below w.heap.size w wr) (fun vi _ => ps.length - (intOf vi).toNat)
  case atStart => exact ⟨0, Nat.zero_le _, rfl, Below.refl _ _⟩
  case round =>
    obtain ⟨k, hk, rfl, hbel⟩ := hrel
    by_cases hlt : k < ps.length
    · obtain ⟨bk, off, rfl⟩ := peersAt_form HX.out (by omega)
      obtain ⟨bk2, off2, rfl⟩ := peersAt_form HY.out (by omega)
      obtain ⟨hb1, hp1⟩ := peersAt_cell (HX.out.keep hbel) (by omega)
      obtain ⟨hb2, hp2⟩ := peersAt_cell (HY.out.keep hbel) (by omega)
      obtain ⟨c0, c1, c2, ab, cb, c3, hr, hn, hcb⟩ := hp1 k hlt
      obtain ⟨d0, d1, d2, ab2, cb2, d3, hr2, hn2, hcb2⟩ := hp2 k hlt
      clear hp1 hp2 hcb hcb2 hn2
      generalize ps.getD k pr0 = p at *
      obtain ⟨x, y, z, l⟩ := p
      have g0 : ∀ q : Kin wr.heap.size wr, q.v.cell? ⟨bk, off + k * 4, none⟩ = some (.int .i64 x) := kin_cell hb1 c0
      have g1 : ∀ q : Kin wr.heap.size wr, q.v.cell? ⟨bk, off + k * 4 + 1, none⟩ = some (.int .i64 y) := kin_cell hb1 c1
      have g2 : ∀ q : Kin wr.heap.size wr, q.v.cell? ⟨bk, off + k * 4 + 2, none⟩ = some (.int .i64 z) := kin_cell hb1 c2
      have g3 : ∀ q : Kin wr.heap.size wr, q.v.cell? ⟨bk, off + k * 4 + 3, none⟩ = some (.slice ab l.length cb) := kin_cell hb1 c3
      have f0 : ∀ q : Kin wr.heap.size wr, q.v.cell? ⟨bk2, off2 + k * 4, none⟩ = some (.int .i64 x) := kin_cell hb2 d0
      have f1 : ∀ q : Kin wr.heap.size wr, q.v.cell? ⟨bk2, off2 + k * 4 + 1, none⟩ = some (.int .i64 y) := kin_cell hb2 d1
      have f2 : ∀ q : Kin wr.heap.size wr, q.v.cell? ⟨bk2, off2 + k * 4 + 2, none⟩ = some (.int .i64 z) := kin_cell hb2 d2
      have f3 : ∀ q : Kin wr.heap.size wr, q.v.cell? ⟨bk2, off2 + k * 4 + 3, none⟩ = some (.slice ab2 l.length cb2) := kin_cell hb2 d3
      have HRA : Hid (RowAt wr ab l) := hr
      have HRB : Hid (RowAt wr ab2 l) := hr2
      have HN : Hid (l.length ≤ maxLen) := hn
      clear c0 c1 c2 c3 d0 d1 d2 d3 hr hr2 hn
      go_wp2
      refine region_kin wr.heap.size (by kernel_rfl) (by kernel_rfl) (fun hne => ?_)
      repeat (go_big_quiet_step ((go_at_call 169; exact kin_of (Nat.le_refl _) (eqPeer_same x y z ab ab2 cb cb2 l _ HN.out (HRA.out.keepB (Kin.bel _) (Nat.le_refl _)) (HRB.out.keepB (Kin.bel _) (Nat.le_refl _))))))
      refine wpQuiet_nil ?_
      intro xw hw'
      obtain ⟨⟨w1, hw1⟩, hw1'⟩ := hw'
      have hw1'' : w1 = xw := hw1'.symm
      subst hw1''
      clear g0 g1 g2 g3 f0 f1 f2 f3 hne
      have hbel1 := belt hbel hw1
      have hkw : IntKind.i64.wrap ((k : Int) + 1) = (k : Int) + 1 := by rw [IntKind.wrap_i64]; omega
      go_wp2
      go_roundw
      case rel => exact ⟨k + 1, by omega, by go_num, hbel1⟩
      case measure => simp [intOf]; omega
    · go_wp2
      go_ret
      exact ⟨rfl, hbel⟩

set_option maxHeartbeats 1600000 in
theorem eqPeers_same (b d : Int) (a a' : Option Addr) (cap cap' : Nat) (ps : List Pr) (w : World) (hm : ps.length ≤ 1048576) (hx : PeersAt w a ps) (hy : PeersAt w a' ps) :
    Calls Tryz.prog 48 #[.agg #[.int .i64 b, .int .i64 d, .slice a ps.length cap], .agg #[.int .i64 b, .int .i64 d, .slice a' ps.length cap']] w fun e w' => e = .returned (.bool true) ∧ Below w.heap.size w w' := by
  have HX : Hid (PeersAt w a ps) := hx
  have HY : Hid (PeersAt w a' ps) := hy
  clear hx hy
  go_enter Tryz.func48, Tryz.ntmps48
  go_wp2_with fail
  refine (eqSpace_same b d _).mono ?_
  rintro e w1 ⟨rfl, hw1⟩
  have HB1 : Hid (Below w.heap.size w w1) := bel2 hw1 (by simp; omega)
  have q0 := (hw1.cell (p := ⟨w.heap.size, 2, none⟩) (by simp; omega))
  have q1 := (hw1.cell (p := ⟨w.heap.size + 1, 2, none⟩) (by simp))
  simp at q0 q1
  go_wp2_with fail
  refine (eqPeerS_same a a' cap cap' ps _ hm (HX.out.keep HB1.out) (HY.out.keep HB1.out)).mono ?_
  rintro e w2 ⟨rfl, hw2⟩
  go_wp2
  go_ret
  exact ⟨rfl, belt HB1.out hw2⟩

/-- the marks that are laid from k on -/
def mrkP : Int → List Pr → List Pr
  | _, [] => []
  | k, p :: ps => ⟨k, k + 1, k + 2, (List.range p.backs.length).map (fun j : Nat => k + 3 + (j : Int))⟩ :: mrkP (k + 3 + (p.backs.length : Int)) ps
/-- where the marks of peer i begin -/
def kAt (k : Int) (ps : List Pr) (i : Nat) : Int := k + 3 * (i : Int) + (bsum (ps.take i) : Int)
theorem mrkP_len : ∀ (ps : List Pr) (k : Int), (mrkP k ps).length = ps.length
  | [], _ => rfl
  | p :: ps, k => by simp [mrkP, mrkP_len ps]
theorem mrkP_get : ∀ (ps : List Pr) (k : Int) (i : Nat), i < ps.length → (mrkP k ps).getD i pr0 = ⟨kAt k ps i, kAt k ps i + 1, kAt k ps i + 2, (List.range (ps.getD i pr0).backs.length).map (fun j : Nat => kAt k ps i + 3 + (j : Int))⟩
  | [], _, i, h => by simp at h
  | p :: ps, k, 0, _ => by simp [mrkP, kAt, bsum]
  | p :: ps, k, i + 1, h => by
    have ih := mrkP_get ps (k + 3 + (p.backs.length : Int)) i (by simpa using h)
    have e : kAt (k + 3 + (p.backs.length : Int)) ps i = kAt k (p :: ps) (i + 1) := by
      unfold kAt
      simp only [List.take_succ_cons, bsum]
      omega
    simp only [mrkP, List.getD_cons_succ]
    rw [ih, e]
theorem kAt_succ {k : Int} {ps : List Pr} {i : Nat} (hi : i < ps.length) : kAt k ps (i + 1) = kAt k ps i + 3 + ((ps.getD i pr0).backs.length : Int) := by
  unfold kAt; rw [bsum_take hi]; omega
theorem kAt_bd {k : Int} {ps : List Pr} {i : Nat} (hi : i ≤ ps.length) (hb : ps.length + bsum ps ≤ 1048576) : k ≤ kAt k ps i ∧ kAt k ps i ≤ k + 4194304 := by
  have : bsum (ps.take i) ≤ bsum ps := by
    clear hb
    revert i
    induction ps with
    | nil => intro i _; simp
    | cons p ps ih =>
      intro i hi
      cases i with
      | zero => simp [bsum]
      | succ i => simp only [List.take_succ_cons, bsum]; have := ih (i := i) (by simpa using hi); omega
  unfold kAt; omega

set_option maxHeartbeats 3200000 in
theorem heldPeerS_any (a : Option Addr) (cap : Nat) (ps : List Pr) (k0 : Int) (w : World) (hb : ps.length + bsum ps ≤ 1048576) (k1 : 0 ≤ k0) (k2 : k0 ≤ 1000000000000) (hr : PeersAt w a (mrkP k0 ps)) :
    Calls Tryz.prog 166 #[.slice a ps.length cap, .int .i64 k0] w fun e w' => e = .returned (.int .i64 (kAt k0 ps ps.length)) ∧ w' = w := by
  have HR : Hid (PeersAt w a (mrkP k0 ps)) := hr
  clear hr
  have hl := mrkP_len ps k0
  have HL : Hid ((mrkP k0 ps).length = ps.length) := hl
  clear hl
  have hz : ps.length ≤ 1048576 := by omega
  go_enter Tryz.func166, Tryz.ntmps166
  go_wp2_with fail
  go_loop [1, 5] (fun vk vi => ∃ i : Nat, i ≤ ps.length ∧ vi = .int .i64 i ∧ vk = .int .i64 (kAt k0 ps i)) (fun _ vi => ps.length - (intOf vi).toNat)
  case atStart => exact ⟨0, Nat.zero_le _, rfl, by simp [kAt, bsum]⟩
  case round =>
    obtain ⟨i, hi, rfl, rfl⟩ := hrel
    by_cases hlt : i < ps.length
    · obtain ⟨bk, off, rfl⟩ := peersAt_form HR.out (by rw [HL.out]; omega)
      obtain ⟨hb1, hp1⟩ := peersAt_cell HR.out (by rw [HL.out]; omega)
      have hp := hp1 i (by rw [HL.out]; exact hlt)
      rw [mrkP_get ps k0 i hlt] at hp
      obtain ⟨c0, c1, c2, ab, cb, c3, hr, _, _⟩ := hp
      have hs := kAt_succ (k := k0) hlt
      have hbd := kAt_bd (k := k0) hi hb
      have hnb := bsum_mem hlt
      have HS : Hid (kAt k0 ps (i + 1) = kAt k0 ps i + 3 + ((ps.getD i pr0).backs.length : Int)) := hs
      clear hs hp1
      obtain ⟨nb, hnbe⟩ : ∃ nb, nb = (ps.getD i pr0).backs.length := ⟨_, rfl⟩
      rw [← hnbe] at c3 hr HS hnb
      clear hnbe
      simp only [List.length_map, List.length_range] at c3
      obtain ⟨u1, u2⟩ := hbd
      generalize kAt k0 ps i = K at *
      have C := heldIntS_any ab cb ((List.range nb).map (fun j : Nat => K + 3 + (j : Int))) (K + 3) w (by simp; omega) (by omega) (by omega) hr (fun j hj => by simp at hj; simp [List.getD_eq_getElem?_getD, hj])
      simp only [List.length_map, List.length_range] at C
      have e3 : K + 2 + 1 = K + 3 := by omega
      have e2 : K + 1 + 1 = K + 2 := by omega
      clear hr
      go_wp2_with fail
      try rw [e3]
      refine C.mono ?_
      rintro e w1 ⟨rfl, he1⟩
      have he1 := he1.symm
      subst he1
      go_wp2
      go_round
      case rel => exact ⟨i + 1, by omega, by go_num, by rw [HS.out]⟩
      case measure => simp [intOf]; omega
    · have hkl : i = ps.length := by omega
      subst hkl
      go_wp2
      go_ret
      exact ⟨rfl, rfl⟩

theorem heldPeers_any (b d : Int) (a : Option Addr) (cap : Nat) (ps : List Pr) (k0 : Int) (w : World) (hb : ps.length + bsum ps ≤ 1048576) (k1 : 0 ≤ k0) (k2 : k0 ≤ 1000000000000) (hr : PeersAt w a (mrkP k0 ps)) :
    Calls Tryz.prog 112 #[.agg #[.int .i64 b, .int .i64 d, .slice a ps.length cap], .int .i64 k0] w fun e w' => e = .returned (.int .i64 (kAt k0 ps ps.length)) ∧ Below w.heap.size w w' := by
  have hr1 := hr.alloc (.cells #[.int .i64 b, .int .i64 d, .slice a ps.length cap] 28)
  have hbd := kAt_bd (k := k0) (Nat.le_refl ps.length) hb
  obtain ⟨u1, u2⟩ := hbd
  have C := heldPeerS_any a cap ps k0 _ hb k1 k2 hr1
  generalize kAt k0 ps ps.length = K at *
  go_enter Tryz.func112, Tryz.ntmps112
  go_wp2_with fail
  refine C.mono ?_
  rintro e w1 ⟨rfl, rfl⟩
  go_wp2
  go_ret
  exact ⟨rfl, (Below.refl _ _).alloc (Nat.le_refl _) _⟩
end Go.Proofs.YtdceimnapbblnaaGreat
namespace Go.Proofs.YtdceimnapbblnaaGreat
open Go.RowKit
set_option linter.unusedVariables false

theorem cell_set {w : World} {q i j : Nat} {u v : Value} (h : w.cell? ⟨q, i, none⟩ = some u) : (w.setCell ⟨q, j, none⟩ v).cell? ⟨q, i, none⟩ = some (if i = j then v else u) := by
  by_cases e : i = j
  · subst e; rw [if_pos rfl]; exact World.cell?_setCell_same _ _ _ h
  · rw [if_neg e]
    rw [World.cell?_setCell_other]; exact h
    simp; try exact e
theorem cell_far {w : World} {q r i j : Nat} {v : Value} (h : ¬ r = q) : (w.setCell ⟨q, j, none⟩ v).cell? ⟨r, i, none⟩ = w.cell? ⟨r, i, none⟩ :=
  World.cell?_of_block (w := w) (a := ⟨r, i, none⟩) (heap_setCell_other _ _ _ _ (by simpa using h))

/-- four cells of one block that are written one behind the other -/
def set4 (w : World) (q o : Nat) (a b c d : Value) : World := (((w.setCell ⟨q, o, none⟩ a).setCell ⟨q, o + 1, none⟩ b).setCell ⟨q, o + 2, none⟩ c).setCell ⟨q, o + 3, none⟩ d
theorem set4_in {w : World} {q o : Nat} {a b c d u0 u1 u2 u3 : Value} (h0 : w.cell? ⟨q, o, none⟩ = some u0) (h1 : w.cell? ⟨q, o + 1, none⟩ = some u1) (h2 : w.cell? ⟨q, o + 2, none⟩ = some u2) (h3 : w.cell? ⟨q, o + 3, none⟩ = some u3) :
    (set4 w q o a b c d).cell? ⟨q, o, none⟩ = some a ∧ (set4 w q o a b c d).cell? ⟨q, o + 1, none⟩ = some b ∧ (set4 w q o a b c d).cell? ⟨q, o + 2, none⟩ = some c ∧ (set4 w q o a b c d).cell? ⟨q, o + 3, none⟩ = some d := by
  unfold set4
  refine ⟨?_, ?_, ?_, ?_⟩
  · have := cell_set (j := o + 3) (v := d) (cell_set (j := o + 2) (v := c) (cell_set (j := o + 1) (v := b) (cell_set (j := o) (v := a) h0))); simpa using this
  · have := cell_set (j := o + 3) (v := d) (cell_set (j := o + 2) (v := c) (cell_set (j := o + 1) (v := b) (cell_set (j := o) (v := a) h1))); simpa using this
  · have := cell_set (j := o + 3) (v := d) (cell_set (j := o + 2) (v := c) (cell_set (j := o + 1) (v := b) (cell_set (j := o) (v := a) h2))); simpa using this
  · have := cell_set (j := o + 3) (v := d) (cell_set (j := o + 2) (v := c) (cell_set (j := o + 1) (v := b) (cell_set (j := o) (v := a) h3))); simpa using this
theorem set4_out {w : World} {q o i : Nat} {a b c d u : Value} (hi : i < o ∨ o + 4 ≤ i) (h : w.cell? ⟨q, i, none⟩ = some u) : (set4 w q o a b c d).cell? ⟨q, i, none⟩ = some u := by
  unfold set4
  have := cell_set (j := o + 3) (v := d) (cell_set (j := o + 2) (v := c) (cell_set (j := o + 1) (v := b) (cell_set (j := o) (v := a) h)))
  rw [if_neg (by omega), if_neg (by omega), if_neg (by omega), if_neg (by omega)] at this
  exact this
theorem set4_block {w : World} {q o k : Nat} {a b c d : Value} (h : ¬ k = q) : (set4 w q o a b c d).heap[k]? = w.heap[k]? := by
  unfold set4
  rw [heap_setCell_other _ _ _ _ (by simpa using h), heap_setCell_other _ _ _ _ (by simpa using h), heap_setCell_other _ _ _ _ (by simpa using h), heap_setCell_other _ _ _ _ (by simpa using h)]
theorem set4_row {w : World} {q o : Nat} {a b c d : Value} {cur : Array Value} {t : TypeId} (h : w.heap[q]? = some (.cells cur t (0, 0))) : ∃ cur', (set4 w q o a b c d).heap[q]? = some (.cells cur' t (0, 0)) :=
  ⟨_, heap_setCell_same _ _ _ _ _ _ (heap_setCell_same _ _ _ _ _ _ (heap_setCell_same _ _ _ _ _ _ (heap_setCell_same _ _ _ _ _ _ h)))⟩
theorem set4_below {n : Nat} {w0 w : World} {q o : Nat} {a b c d : Value} (h : Below n w0 w) (hq : n ≤ q) : Below n w0 (set4 w q o a b c d) := (((h.setCell (p := ⟨q, o, none⟩) hq a).setCell (p := ⟨q, o + 1, none⟩) hq b).setCell (p := ⟨q, o + 2, none⟩) hq c).setCell (p := ⟨q, o + 3, none⟩) hq d
theorem set4_size {w : World} {q o : Nat} {a b c d : Value} : (set4 w q o a b c d).heap.size = w.heap.size := by simp [set4, World.setCell]

set_option maxHeartbeats 3200000 in
theorem toPeer_any (x y z : Int) (a : Option Addr) (cap : Nat) (l : List Int) (w : World) (hm : l.length ≤ 1048576) (hr : RowAt w a l) :
    Calls Tryz.prog 168 #[.agg #[.int .i64 x, .int .i64 y, .int .i64 z, .slice a l.length cap]] w fun e w' => ∃ g, e = .returned (.agg #[.int .i64 x, .int .i64 y, .int .i64 z, .slice (some ⟨g, 0, none⟩) l.length l.length]) ∧ OwnS w.heap.size w' g l ∧ Below w.heap.size w w' := by
  have HR : Hid (RowAt w a l) := hr
  clear hr
  have HB3 : Hid (Below w.heap.size w (((w.alloc (.cells #[.int .i64 x, .int .i64 y, .int .i64 z, .slice a l.length cap] 206)).alloc (.cells #[.int .i64 0, .int .i64 0, .int .i64 0, .slice none 0 0] 130)).alloc (.cells #[.int .i64 x, .int .i64 y, .int .i64 z, .slice none 0 0] 130))) := (((Below.refl _ _).alloc (Nat.le_refl _) _).alloc (by simp) _).alloc (by simp; try omega) _
  go_enter Tryz.func168, Tryz.ntmps168
  go_wp2_with fail
  refine (toIntS_any _ _ l _ hm (HR.out.keep HB3.out)).mono ?_
  rintro e w1 ⟨rfl, ow1⟩
  have hw1 := ow1.bel
  have HB1 : Hid (Below w.heap.size w w1) := HB3.out.trans (hw1.mono HB3.out.size)
  have OW1 : Hid (OwnS (w.heap.size + 1 + 1 + 1) w1 (w.heap.size + 1 + 1 + 1) l) := by
    have := ow1.owns
    simp only [World.size_alloc] at this
    exact this
  have RO : Hid (w1.heap[w.heap.size + 1 + 1]? = some (.cells #[.int .i64 x, .int .i64 y, .int .i64 z, .slice none 0 0] 130 (0, 0))) := by
    refine (hw1.block _ (by simp; try omega)).trans ?_
    have := heap_alloc_new ((w.alloc (.cells #[.int .i64 x, .int .i64 y, .int .i64 z, .slice a l.length cap] 206)).alloc (.cells #[.int .i64 0, .int .i64 0, .int .i64 0, .slice none 0 0] 130)) (.cells #[.int .i64 x, .int .i64 y, .int .i64 z, .slice none 0 0] 130)
    simpa using this
  have RR : Hid (w1.heap[w.heap.size + 1]? = some (.cells #[.int .i64 0, .int .i64 0, .int .i64 0, .slice none 0 0] 130 (0, 0))) := by
    refine (hw1.block _ (by simp; try omega)).trans ?_
    rw [heap_alloc_old _ _ (by simp)]
    have := heap_alloc_new (w.alloc (.cells #[.int .i64 x, .int .i64 y, .int .i64 z, .slice a l.length cap] 206)) (.cells #[.int .i64 0, .int .i64 0, .int .i64 0, .slice none 0 0] 130)
    simpa using this
  have o0 : w1.cell? ⟨w.heap.size + 1 + 1, 0, none⟩ = some (.int .i64 x) := (cell_of_row w1 _ _ _ _ _ RO.out).trans rfl
  have o1 : w1.cell? ⟨w.heap.size + 1 + 1, 1, none⟩ = some (.int .i64 y) := (cell_of_row w1 _ _ _ _ _ RO.out).trans rfl
  have o2 : w1.cell? ⟨w.heap.size + 1 + 1, 2, none⟩ = some (.int .i64 z) := (cell_of_row w1 _ _ _ _ _ RO.out).trans rfl
  have o3 : w1.cell? ⟨w.heap.size + 1 + 1, 3, none⟩ = some (.slice none 0 0) := (cell_of_row w1 _ _ _ _ _ RO.out).trans rfl
  have p3 : w1.frozen? ⟨w.heap.size + 1 + 1, 3, none⟩ = false := frozen_of_row w1 _ _ _ _ RO.out
  have r0 : w1.cell? ⟨w.heap.size + 1, 0, none⟩ = some (.int .i64 0) := (cell_of_row w1 _ _ _ _ _ RR.out).trans rfl
  have r1 : w1.cell? ⟨w.heap.size + 1, 1, none⟩ = some (.int .i64 0) := (cell_of_row w1 _ _ _ _ _ RR.out).trans rfl
  have r2 : w1.cell? ⟨w.heap.size + 1, 2, none⟩ = some (.int .i64 0) := (cell_of_row w1 _ _ _ _ _ RR.out).trans rfl
  have r3 : w1.cell? ⟨w.heap.size + 1, 3, none⟩ = some (.slice none 0 0) := (cell_of_row w1 _ _ _ _ _ RR.out).trans rfl
  have q0 : w1.frozen? ⟨w.heap.size + 1, 0, none⟩ = false := frozen_of_row w1 _ _ _ _ RR.out
  have q1 : w1.frozen? ⟨w.heap.size + 1, 1, none⟩ = false := frozen_of_row w1 _ _ _ _ RR.out
  have q2 : w1.frozen? ⟨w.heap.size + 1, 2, none⟩ = false := frozen_of_row w1 _ _ _ _ RR.out
  have q3 : w1.frozen? ⟨w.heap.size + 1, 3, none⟩ = false := frozen_of_row w1 _ _ _ _ RR.out
  clear ow1 hw1
  go_wp2
  have HE : ∀ v : Value, Hid ((set4 (w1.setCell ⟨w.heap.size + 1 + 1, 3, none⟩ v) (w.heap.size + 1) 0 (.int .i64 x) (.int .i64 y) (.int .i64 z) v).heap[w.heap.size + 1]? = some (.cells #[.int .i64 x, .int .i64 y, .int .i64 z, v] 130 (0, 0))) := fun v => by
    have h0 : (w1.setCell ⟨w.heap.size + 1 + 1, 3, none⟩ v).heap[w.heap.size + 1]? = some (.cells #[.int .i64 0, .int .i64 0, .int .i64 0, .slice none 0 0] 130 (0, 0)) := (heap_setCell_other _ _ _ _ (by simp)).trans RR.out
    exact heap_setCell_same _ _ 3 _ _ _ (heap_setCell_same _ _ 2 _ _ _ (heap_setCell_same _ _ 1 _ _ _ (heap_setCell_same _ _ 0 _ _ _ h0)))
  refine bodyPost_ret (results_cell_row Tryz.results168 _ _ (w.heap.size + 1) _ _ _ _ rfl (HE _).out Tryz.underlying130 rfl (by kernel_rfl)) rfl ⟨w.heap.size + 1 + 1 + 1, rfl, ?_, ?_⟩
  · obtain ⟨hlo, cur, hc, ht⟩ := OW1.out
    refine ⟨by omega, cur, ?_, ht⟩
    refine (set4_block (by omega)).trans ((heap_setCell_other _ _ _ _ (by simp)).trans hc)
  · exact set4_below (HB1.out.setCell (p := ⟨w.heap.size + 1 + 1, 3, none⟩) (by simp; try omega) _) (by omega)

def d0 : Pr × Value := (pr0, .slice none 0 0)
/-- the four cells of peer i in a block -/
structure PCell (w : World) (g i : Nat) (e : Pr × Value) : Prop where
  c0 : w.cell? ⟨g, i * 4, none⟩ = some (.int .i64 e.1.id)
  c1 : w.cell? ⟨g, i * 4 + 1, none⟩ = some (.int .i64 e.1.succ)
  c2 : w.cell? ⟨g, i * 4 + 2, none⟩ = some (.int .i64 e.1.point)
  c3 : w.cell? ⟨g, i * 4 + 3, none⟩ = some e.2
/-- the value in the last cell owns the backs, among the blocks from B to T -/
def ValOk (B T : Nat) (w : World) (e : Pr × Value) : Prop :=
  ∃ ab cb, e.2 = .slice ab e.1.backs.length cb ∧ (e.1.backs.length ≤ cb ∧ (ab = none → cb = 0)) ∧ e.1.backs.length ≤ 1048576 ∧ (e.1.backs = [] ∨ ∃ gb, ab = some ⟨gb, 0, none⟩ ∧ gb < T ∧ OwnS B w gb e.1.backs)
structure OwnP (B T : Nat) (w : World) (g : Nat) (L : List (Pr × Value)) : Prop where
  lo : B ≤ g
  hi : g < T
  blk : ∃ cur, w.heap[g]? = some (.cells cur 130 (0, 0))
  cel : ∀ i, i < L.length → PCell w g i (L.getD i d0)
  val : ∀ i, i < L.length → ValOk B T w (L.getD i d0)
  sep : ∀ i j, i < j → j < L.length → ¬ (L.getD i d0).1.backs = [] → ¬ (L.getD j d0).1.backs = [] → ¬ (L.getD i d0).2.ownBlock = (L.getD j d0).2.ownBlock
theorem OwnP.lt {B T : Nat} {w : World} {g : Nat} {L : List (Pr × Value)} (h : OwnP B T w g L) : g < w.heap.size := by
  obtain ⟨cur, hc⟩ := h.blk
  exact (Array.getElem?_eq_some_iff.1 hc).1
theorem PCell.of_block {w w1 : World} {g i : Nat} {e : Pr × Value} (h : PCell w g i e) (hb : w1.heap[g]? = w.heap[g]?) : PCell w1 g i e :=
  ⟨(World.cell?_of_block (w := w) (a := ⟨g, i * 4, none⟩) hb).trans h.c0, (World.cell?_of_block (w := w) (a := ⟨g, i * 4 + 1, none⟩) hb).trans h.c1, (World.cell?_of_block (w := w) (a := ⟨g, i * 4 + 2, none⟩) hb).trans h.c2, (World.cell?_of_block (w := w) (a := ⟨g, i * 4 + 3, none⟩) hb).trans h.c3⟩
theorem OwnS.of_block {B : Nat} {w w1 : World} {g : Nat} {l : List Int} (h : OwnS B w g l) (hb : w1.heap[g]? = w.heap[g]?) : OwnS B w1 g l := by
  obtain ⟨cur, hc, ht⟩ := h.row
  exact ⟨h.lo, cur, hb.trans hc, ht⟩
theorem ValOk.blocks {B T : Nat} {w w1 : World} {e : Pr × Value} (h : ValOk B T w e) (hb : ∀ k, B ≤ k → k < T → k < w.heap.size → w1.heap[k]? = w.heap[k]?) : ValOk B T w1 e := by
  obtain ⟨ab, cb, hv, hc, hm, ho⟩ := h
  refine ⟨ab, cb, hv, hc, hm, ?_⟩
  rcases ho with ho | ⟨gb, ha, ht, os⟩
  · exact .inl ho
  · exact .inr ⟨gb, ha, ht, os.of_block (hb gb os.lo ht os.lt)⟩
theorem OwnP.blocks {B T : Nat} {w w1 : World} {g : Nat} {L : List (Pr × Value)} (h : OwnP B T w g L) (hb : ∀ k, B ≤ k → k < T → k < w.heap.size → w1.heap[k]? = w.heap[k]?) : OwnP B T w1 g L := by
  have hg := hb g h.lo h.hi h.lt
  obtain ⟨cur, hc⟩ := h.blk
  exact ⟨h.lo, h.hi, ⟨cur, hg.trans hc⟩, fun i hi => (h.cel i hi).of_block hg, fun i hi => (h.val i hi).blocks hb, h.sep⟩
theorem OwnP.keep {B T : Nat} {w w1 : World} {g : Nat} {L : List (Pr × Value)} (h : OwnP B T w g L) (hb : Below w.heap.size w w1) : OwnP B T w1 g L := h.blocks (fun k _ _ hk => hb.block k hk)
theorem ValOk.wide {B T T' : Nat} {w : World} {e : Pr × Value} (h : ValOk B T w e) (ht : T ≤ T') : ValOk B T' w e := by
  obtain ⟨ab, cb, hv, hc, hm, ho⟩ := h
  refine ⟨ab, cb, hv, hc, hm, ?_⟩
  rcases ho with ho | ⟨gb, ha, hl, os⟩
  · exact .inl ho
  · exact .inr ⟨gb, ha, by omega, os⟩
theorem OwnP.wide {B T T' : Nat} {w : World} {g : Nat} {L : List (Pr × Value)} (h : OwnP B T w g L) (ht : T ≤ T') : OwnP B T' w g L :=
  ⟨h.lo, by have := h.hi; omega, h.blk, h.cel, fun i hi => (h.val i hi).wide ht, h.sep⟩
theorem OwnP.peersAt {B T : Nat} {w : World} {g : Nat} {L : List (Pr × Value)} (h : OwnP B T w g L) : PeersAt w (some ⟨g, 0, none⟩) (L.map (·.1)) := by
  refine .inr ⟨g, 0, rfl, h.lt, fun i hi => ?_⟩
  rw [List.length_map] at hi
  have hc := h.cel i hi
  obtain ⟨ab, cb, hv, hcb, hm, ho⟩ := h.val i hi
  have e : (L.map (·.1)).getD i pr0 = (L.getD i d0).1 := by simp [List.getD_eq_getElem?_getD, List.getElem?_eq_getElem hi]
  rw [e, Nat.zero_add]
  refine ⟨hc.c0, hc.c1, hc.c2, ab, cb, by rw [hc.c3, hv], ?_, by unfold maxLen; omega, hcb⟩
  rcases ho with ho | ⟨gb, ha, _, os⟩
  · exact .inl ho
  · rw [ha]; exact os.rowAt
/-- a peer is stored, whose backs lie in a block that is new -/
theorem OwnP.store {B T : Nat} {w w1 : World} {g : Nat} {L : List (Pr × Value)} {i : Nat} {p : Pr} {gb cb : Nat} (h : OwnP B T w g L) (hT : T = w.heap.size) (hb : Below w.heap.size w w1) (hi : i < L.length) (hm : p.backs.length ≤ 1048576) (hcb : p.backs.length ≤ cb) (os : OwnS w.heap.size w1 gb p.backs) :
    OwnP B w1.heap.size (set4 w1 g (i * 4) (.int .i64 p.id) (.int .i64 p.succ) (.int .i64 p.point) (.slice (some ⟨gb, 0, none⟩) p.backs.length cb)) g (L.set i (p, .slice (some ⟨gb, 0, none⟩) p.backs.length cb)) := by
  have hlt := h.lt
  have hslo := os.lo
  have hne : ¬ gb = g := by omega
  have h1 := (h.keep hb).wide (T' := w1.heap.size) (by have := hb.size; omega)
  have hci := h1.cel i hi
  obtain ⟨cur, hc⟩ := h1.blk
  have hBw : B ≤ w.heap.size := by have := h.lo; omega
  have hb4 : ∀ k, ¬ k = g → (set4 w1 g (i * 4) (.int .i64 p.id) (.int .i64 p.succ) (.int .i64 p.point) (.slice (some ⟨gb, 0, none⟩) p.backs.length cb)).heap[k]? = w1.heap[k]? := fun k hk => set4_block hk
  have ex : ∀ j, j < L.length → ∀ e, (L.set i e).getD j d0 = if i = j then e else L.getD j d0 := fun j hj e => by
    rw [List.getD_eq_getElem?_getD, List.getElem?_set]
    by_cases hij : i = j
    · subst hij; simp [hj]
    · rw [if_neg hij, if_neg hij, List.getD_eq_getElem?_getD]
  refine ⟨h.lo, h1.hi, set4_row hc, fun j hj => ?_, fun j hj => ?_, fun j k hjk hk => ?_⟩
  · rw [List.length_set] at hj
    rw [ex j hj]
    by_cases hij : i = j
    · subst hij
      rw [if_pos rfl]
      obtain ⟨s0, s1, s2, s3⟩ := set4_in (a := .int .i64 p.id) (b := .int .i64 p.succ) (c := .int .i64 p.point) (d := .slice (some ⟨gb, 0, none⟩) p.backs.length cb) hci.c0 hci.c1 hci.c2 hci.c3
      exact ⟨s0, s1, s2, s3⟩
    · rw [if_neg hij]
      have hcj := h1.cel j hj
      exact ⟨set4_out (by omega) hcj.c0, set4_out (by omega) hcj.c1, set4_out (by omega) hcj.c2, set4_out (by omega) hcj.c3⟩
  · rw [List.length_set] at hj
    rw [ex j hj]
    by_cases hij : i = j
    · rw [if_pos hij]
      exact ⟨_, cb, rfl, ⟨hcb, fun h => by cases h⟩, hm, .inr ⟨gb, rfl, os.lt, (os.mono hBw).of_block (hb4 gb hne)⟩⟩
    · rw [if_neg hij]
      obtain ⟨ab, cb', hv, hc', hm', ho⟩ := h1.val j hj
      refine ⟨ab, cb', hv, hc', hm', ?_⟩
      rcases ho with ho | ⟨gj, ha, ht, osj⟩
      · exact .inl ho
      · refine .inr ⟨gj, ha, ht, osj.of_block (hb4 gj ?_)⟩
        intro he
        obtain ⟨cj, hcj, _⟩ := osj.row
        rw [he, hc] at hcj
        simp at hcj
  · rw [List.length_set] at hk
    rw [ex j (by omega), ex k hk]
    have old : ∀ q, q < L.length → ¬ (L.getD q d0).1.backs = [] → ¬ (L.getD q d0).2.ownBlock = some gb := fun q hq hn he => by
      obtain ⟨ab, cb', hv, _, _, ho⟩ := h.val q hq
      rcases ho with ho | ⟨gq, ha, ht, _⟩
      · exact hn ho
      · rw [hv, ha] at he
        simp [Value.ownBlock] at he
        omega
    by_cases hij : i = j
    · rw [if_pos hij, if_neg (by omega)]
      intro _ hn he
      exact old k hk hn (by rw [← he]; rfl)
    · rw [if_neg hij]
      by_cases hik : i = k
      · rw [if_pos hik]
        intro hn _ he
        exact old j (by omega) hn (by rw [he]; rfl)
      · rw [if_neg hik]
        exact h.sep j k hjk hk

theorem info_peer : (Tryz.prog.info? 130).map (fun i => (i.zero, i.size, i.bytes)) = some (some (.agg #[.int .i64 0, .int .i64 0, .int .i64 0, .slice none 0 0]), 4, 48) := by kernel_rfl
theorem make_peers (n : Nat) (hn : n ≤ 1048576) (w : World) :
    (Instr.makeSlice 26 (.int .i64 (n : Int)) (.int .i64 (n : Int))).run Tryz.prog w = .ok (.slice (some ⟨w.heap.size, 0, none⟩) n n) (w.alloc (.cells (madeCells #[.int .i64 0, .int .i64 0, .int .i64 0, .slice none 0 0] (n * 4)) 130)) := by
  obtain ⟨i0, hi, hz0, hz1, hz2⟩ := info_parts info_peer
  have := run_make (P := Tryz.prog) w 26 130 i0 _ Tryz.underlying26 hi hz0 .i64 .i64 (n : Int) (n : Int) (by omega) (by omega) (by rw [hz2]; omega) (by omega)
  rw [hz1] at this
  rw [this]
  simp
  rfl
theorem made_four (j n r : Nat) (hj : j < n) (hr : j % 4 = r) {v : Value} (hv : (#[Value.int .i64 0, .int .i64 0, .int .i64 0, .slice none 0 0] : Array Value)[r]! = v) : (madeCells #[.int .i64 0, .int .i64 0, .int .i64 0, .slice none 0 0] n)[j]? = some v := by
  have e : (madeCells #[.int .i64 0, .int .i64 0, .int .i64 0, .slice none 0 0] n)[j]? = some ((#[Value.int .i64 0, .int .i64 0, .int .i64 0, .slice none 0 0] : Array Value)[j % 4]!) := by
    unfold madeCells
    rw [Array.getElem?_map, Array.getElem?_range, if_pos hj]
    rfl
  rw [e, hr, hv]
theorem made_peers (w : World) (n : Nat) : OwnP w.heap.size (w.heap.size + 1) (w.alloc (.cells (madeCells #[.int .i64 0, .int .i64 0, .int .i64 0, .slice none 0 0] (n * 4)) 130)) w.heap.size (List.replicate n d0) := by
  have hrow := heap_alloc_new w (.cells (madeCells #[.int .i64 0, .int .i64 0, .int .i64 0, .slice none 0 0] (n * 4)) 130)
  have hg : ∀ i, i < n → (List.replicate n d0).getD i d0 = d0 := fun i hi => by simp [List.getD_eq_getElem?_getD, hi]
  refine ⟨Nat.le_refl _, by omega, ⟨_, hrow⟩, fun i hi => ?_, fun i hi => ?_, fun i j hij hj h1 => ?_⟩
  · rw [List.length_replicate] at hi
    rw [hg i hi]
    refine ⟨(cell_of_row _ _ _ _ _ _ hrow).trans ?_, (cell_of_row _ _ _ _ _ _ hrow).trans ?_, (cell_of_row _ _ _ _ _ _ hrow).trans ?_, (cell_of_row _ _ _ _ _ _ hrow).trans ?_⟩
    · exact made_four (i * 4) (n * 4) 0 (by omega) (by omega) rfl
    · exact made_four (i * 4 + 1) (n * 4) 1 (by omega) (by omega) rfl
    · exact made_four (i * 4 + 2) (n * 4) 2 (by omega) (by omega) rfl
    · exact made_four (i * 4 + 3) (n * 4) 3 (by omega) (by omega) rfl
  · rw [List.length_replicate] at hi
    rw [hg i hi]
    exact ⟨none, 0, rfl, ⟨Nat.le_refl _, fun _ => rfl⟩, by simp [d0, pr0], .inl rfl⟩
  · rw [List.length_replicate] at hj
    rw [hg i (by omega)] at h1
    exact absurd rfl h1
end Go.Proofs.YtdceimnapbblnaaGreat
namespace Go.Proofs.YtdceimnapbblnaaGreat
open Go.RowKit
set_option linter.unusedVariables false

theorem map_fst {L : List (Pr × Value)} {ps : List Pr} (hl : L.length = ps.length) (h : ∀ i, i < ps.length → (L.getD i d0).1 = ps.getD i pr0) : L.map (·.1) = ps := by
  refine List.ext_getElem (by simp [hl]) (fun i h1 h2 => ?_)
  have hi : i < L.length := by omega
  have := h i h2
  simp [List.getD_eq_getElem?_getD, List.getElem?_eq_getElem hi, List.getElem?_eq_getElem h2] at this
  simpa using this

set_option maxRecDepth 100000 in
set_option maxHeartbeats 3200000 in
theorem toPeerS_any (a : Option Addr) (cap : Nat) (ps : List Pr) (w : World) (hb : ps.length + bsum ps ≤ 1048576) (hr : PeersAt w a ps) :
    Calls Tryz.prog 117 #[.slice a ps.length cap] w fun e w' => e = .returned (.slice (some ⟨w.heap.size, 0, none⟩) ps.length ps.length) ∧ (∃ L, L.map (·.1) = ps ∧ OwnP w.heap.size w'.heap.size w' w.heap.size L) ∧ Below w.heap.size w w' := by
  have HR : Hid (PeersAt w a ps) := hr
  clear hr
  have hz : ps.length ≤ 1048576 := by omega
  have hmk := make_peers ps.length hz
  have OW0 : Hid (OwnP w.heap.size (w.heap.size + 1) (w.alloc (.cells (madeCells #[.int .i64 0, .int .i64 0, .int .i64 0, .slice none 0 0] (ps.length * 4)) 130)) w.heap.size (List.replicate ps.length d0)) := made_peers w ps.length
  go_enter Tryz.func117, Tryz.ntmps117
  go_wp2_with fail
  clear hmk
  go_loopw [4] (fun vi wr => ∃ (k : Nat) (L : List (Pr × Value)), k ≤ ps.length ∧ vi = .int .i64 k ∧ L.length = ps.length ∧ Hid (∀ i, i < k → (L.getD i d0).1 = ps.getD i pr0) ∧ OwnP w.heap.size wr.heap.size wr w.heap.size L ∧ Below w.heap.size w wr) (fun vi _ => ps.length - (intOf vi).toNat)
  case atStart => exact ⟨0, List.replicate ps.length d0, Nat.zero_le _, rfl, List.length_replicate, fun i hi => by omega, by have := OW0.out; simpa using this, (Below.refl _ _).alloc (Nat.le_refl _) _⟩
  case round =>
    obtain ⟨k, L, hk, rfl, hL, hs, ow, hbel⟩ := hrel
    have HOW : Hid (OwnP w.heap.size wr.heap.size wr w.heap.size L) := ow
    have HB : Hid (Below w.heap.size w wr) := hbel
    have HL : Hid (L.length = ps.length) := hL
    clear ow hbel hL OW0
    by_cases hlt : k < ps.length
    · obtain ⟨bk, off, rfl⟩ := peersAt_form HR.out (by omega)
      obtain ⟨hb1, hp1⟩ := peersAt_cell (HR.out.keep HB.out) (by omega)
      obtain ⟨c0, c1, c2, ab, cb, c3, hrb, hn, hcb⟩ := hp1 k hlt
      have hnb := bsum_mem hlt
      obtain ⟨p, hp⟩ : ∃ p, p = ps.getD k pr0 := ⟨_, rfl⟩
      have HP : Hid (p = ps.getD k pr0) := hp
      rw [← hp] at c0 c1 c2 c3 hrb hn hcb hnb
      clear hp hp1 hn hcb
      obtain ⟨x, y, z, l⟩ := p
      have hll : l.length ≤ 1048576 := by simp at hnb; omega
      have HRB : Hid (RowAt wr ab l) := hrb
      clear hrb hnb
      go_wp2_with fail
      refine (toPeer_any x y z ab cb l _ hll HRB.out).mono ?_
      rintro e w1 ⟨gb, rfl, os1, hw1⟩
      have hkL : k < L.length := by rw [HL.out]; exact hlt
      have ow1 := HOW.out.keep hw1
      obtain ⟨e0, e1, e2, e3⟩ := ow1.cel k hkL
      obtain ⟨cur, hcur⟩ := ow1.blk
      have f0 : w1.frozen? ⟨w.heap.size, k * 4, none⟩ = false := frozen_of_row w1 _ _ _ _ hcur
      have f1 : w1.frozen? ⟨w.heap.size, k * 4 + 1, none⟩ = false := frozen_of_row w1 _ _ _ _ hcur
      have f2 : w1.frozen? ⟨w.heap.size, k * 4 + 2, none⟩ = false := frozen_of_row w1 _ _ _ _ hcur
      have f3 : w1.frozen? ⟨w.heap.size, k * 4 + 3, none⟩ = false := frozen_of_row w1 _ _ _ _ hcur
      have OWN : Hid (OwnP w.heap.size w1.heap.size (set4 w1 w.heap.size (k * 4) (.int .i64 x) (.int .i64 y) (.int .i64 z) (.slice (some ⟨gb, 0, none⟩) l.length l.length)) w.heap.size (L.set k (⟨x, y, z, l⟩, .slice (some ⟨gb, 0, none⟩) l.length l.length))) :=
        HOW.out.store (p := ⟨x, y, z, l⟩) rfl hw1 hkL hll (Nat.le_refl _) os1
      have HB1 : Hid (Below w.heap.size w (set4 w1 w.heap.size (k * 4) (.int .i64 x) (.int .i64 y) (.int .i64 z) (.slice (some ⟨gb, 0, none⟩) l.length l.length))) := set4_below (belt HB.out hw1) (Nat.le_refl _)
      have HS1 : Hid (∀ i, i < k + 1 → ((L.set k (⟨x, y, z, l⟩, .slice (some ⟨gb, 0, none⟩) l.length l.length)).getD i d0).1 = ps.getD i pr0) := fun i hi => by
        rw [List.getD_eq_getElem?_getD, List.getElem?_set]
        by_cases hik : k = i
        · subst hik; rw [if_pos rfl, if_pos hkL]; exact HP.out
        · rw [if_neg hik, ← List.getD_eq_getElem?_getD]; exact hs.out i (by omega)
      generalize (L.getD k d0).1.id = g0 at e0
      generalize (L.getD k d0).1.succ = g1 at e1
      generalize (L.getD k d0).1.point = g2 at e2
      generalize (L.getD k d0).2 = g3 at e3
      clear os1 hcur ow1
      go_wp2
      go_roundw
      case rel => exact ⟨k + 1, _, by omega, by go_num, by rw [List.length_set]; exact HL.out, HS1, by have := OWN.out; unfold set4 at this; simpa [World.setCell] using this, HB1.out⟩
      case measure => simp [intOf]; omega
    · have hke : k = ps.length := by omega
      subst hke
      go_wp2
      go_ret
      exact ⟨rfl, ⟨L, map_fst HL.out hs.out, HOW.out⟩, HB.out⟩

theorem OwnP.mono {B B' T : Nat} {w : World} {g : Nat} {L : List (Pr × Value)} (h : OwnP B T w g L) (hb : B' ≤ B) : OwnP B' T w g L := by
  refine ⟨Nat.le_trans hb h.lo, h.hi, h.blk, h.cel, fun i hi => ?_, h.sep⟩
  obtain ⟨ab, cb, hv, hc, hm, ho⟩ := h.val i hi
  refine ⟨ab, cb, hv, hc, hm, ?_⟩
  rcases ho with ho | ⟨gb, ha, ht, os⟩
  · exact .inl ho
  · exact .inr ⟨gb, ha, ht, os.mono hb⟩

theorem OwnP.far3 {B T : Nat} {w : World} {g q1 q2 : Nat} {L : List (Pr × Value)} (h : OwnP B T w g L) (h1 : q1 < B) (h2 : q2 < B) (u0 u1 u2 u3 : Value) : OwnP B T ((((w.setCell ⟨q1, 2, none⟩ u0).setCell ⟨q2, 0, none⟩ u1).setCell ⟨q2, 1, none⟩ u2).setCell ⟨q2, 2, none⟩ u3) g L :=
  h.blocks (fun k hk _ _ => by
    rw [heap_setCell_other _ _ _ _ (by simp; omega), heap_setCell_other _ _ _ _ (by simp; omega), heap_setCell_other _ _ _ _ (by simp; omega), heap_setCell_other _ _ _ _ (by simp; omega)])

set_option maxRecDepth 100000 in
set_option maxHeartbeats 3200000 in
theorem toPeers_any (b d : Int) (a : Option Addr) (cap : Nat) (ps : List Pr) (w : World) (hb : ps.length + bsum ps ≤ 1048576) (hr : PeersAt w a ps) :
    Calls Tryz.prog 45 #[.agg #[.int .i64 b, .int .i64 d, .slice a ps.length cap]] w fun e w' => ∃ g, e = .returned (.agg #[.int .i64 b, .int .i64 d, .slice (some ⟨g, 0, none⟩) ps.length ps.length]) ∧ (∃ L, L.map (·.1) = ps ∧ OwnP w.heap.size w'.heap.size w' g L) ∧ Below w.heap.size w w' := by
  have HR : Hid (PeersAt w a ps) := hr
  clear hr
  go_enter Tryz.func45, Tryz.ntmps45
  go_wp2_with fail
  refine (toSpace_any _ _ _).mono ?_
  rintro e w1 ⟨rfl, hw1⟩
  have HB1 : Hid (Below w.heap.size w w1) := (((( Below.refl _ _).alloc (Nat.le_refl _) _).alloc (by simp) _).alloc (by simp; try omega) _).trans (hw1.mono (by simp; try omega))
  have hs1 : w.heap.size + 1 + 1 < w1.heap.size := by have := hw1.size; simp at this; omega
  have RB : Hid (w1.heap[w.heap.size]? = some (.cells #[.int .i64 b, .int .i64 d, .slice a ps.length cap] 67 (0, 0))) := by
    refine (hw1.block _ (by simp; try omega)).trans ?_
    rw [heap_alloc_old _ _ (by simp; try omega), heap_alloc_old _ _ (by simp; try omega)]
    exact heap_alloc_new _ _
  have RO : Hid (w1.heap[w.heap.size + 1 + 1]? = some (.cells #[.int .i64 0, .int .i64 0, .slice none 0 0] 28 (0, 0))) := by
    refine (hw1.block _ (by simp; try omega)).trans ?_
    have := heap_alloc_new ((w.alloc (.cells #[.int .i64 b, .int .i64 d, .slice a ps.length cap] 67)).alloc (.cells #[.int .i64 0, .int .i64 0, .slice none 0 0] 28)) (.cells #[.int .i64 0, .int .i64 0, .slice none 0 0] 28)
    simpa using this
  have RR : Hid (w1.heap[w.heap.size + 1]? = some (.cells #[.int .i64 0, .int .i64 0, .slice none 0 0] 28 (0, 0))) := by
    refine (hw1.block _ (by simp; try omega)).trans ?_
    rw [heap_alloc_old _ _ (by simp)]
    have := heap_alloc_new (w.alloc (.cells #[.int .i64 b, .int .i64 d, .slice a ps.length cap] 67)) (.cells #[.int .i64 0, .int .i64 0, .slice none 0 0] 28)
    simpa using this
  have o0 : w1.cell? ⟨w.heap.size + 1 + 1, 0, none⟩ = some (.int .i64 0) := (cell_of_row w1 _ _ _ _ _ RO.out).trans rfl
  have o1 : w1.cell? ⟨w.heap.size + 1 + 1, 1, none⟩ = some (.int .i64 0) := (cell_of_row w1 _ _ _ _ _ RO.out).trans rfl
  have p0 : w1.frozen? ⟨w.heap.size + 1 + 1, 0, none⟩ = false := frozen_of_row w1 _ _ _ _ RO.out
  have p1 : w1.frozen? ⟨w.heap.size + 1 + 1, 1, none⟩ = false := frozen_of_row w1 _ _ _ _ RO.out
  have b2 : w1.cell? ⟨w.heap.size, 2, none⟩ = some (.slice a ps.length cap) := (cell_of_row w1 _ _ _ _ _ RB.out).trans rfl
  clear hw1
  go_wp2_with fail
  obtain ⟨W2, hW2⟩ : ∃ W2, (w1.setCell ⟨w.heap.size + 1 + 1, 0, none⟩ (.int .i64 b)).setCell ⟨w.heap.size + 1 + 1, 1, none⟩ (.int .i64 d) = W2 := ⟨_, rfl⟩
  have hsz2 : W2.heap.size = w1.heap.size := by rw [← hW2]; simp [World.setCell]
  have HB2 : Hid (Below w.heap.size w W2) := by rw [← hW2]; exact (HB1.out.setCell (p := ⟨w.heap.size + 1 + 1, 0, none⟩) (by simp; try omega) _).setCell (p := ⟨w.heap.size + 1 + 1, 1, none⟩) (by simp; try omega) _
  have RO2 : Hid (W2.heap[w.heap.size + 1 + 1]? = some (.cells #[.int .i64 b, .int .i64 d, .slice none 0 0] 28 (0, 0))) := by rw [← hW2]; exact heap_setCell_same _ _ 1 _ _ _ (heap_setCell_same _ _ 0 _ _ _ RO.out)
  have RR2 : Hid (W2.heap[w.heap.size + 1]? = some (.cells #[.int .i64 0, .int .i64 0, .slice none 0 0] 28 (0, 0))) := by
    rw [← hW2, heap_setCell_other _ _ _ _ (by simp), heap_setCell_other _ _ _ _ (by simp)]
    exact RR.out
  rw [hW2]
  have hs2 : w.heap.size + 1 + 1 < W2.heap.size := by omega
  clear hW2 o0 o1 p0 p1 b2 hsz2
  refine (toPeerS_any a cap ps _ hb (HR.out.keep HB2.out)).mono ?_
  rintro e w3 ⟨rfl, ⟨L, hL, ow3⟩, hw3⟩
  have HB3 : Hid (Below w.heap.size w w3) := belt HB2.out hw3
  have RO3 : Hid (w3.heap[w.heap.size + 1 + 1]? = some (.cells #[.int .i64 b, .int .i64 d, .slice none 0 0] 28 (0, 0))) := (hw3.block _ (by omega)).trans RO2.out
  have RR3 : Hid (w3.heap[w.heap.size + 1]? = some (.cells #[.int .i64 0, .int .i64 0, .slice none 0 0] 28 (0, 0))) := (hw3.block _ (by omega)).trans RR2.out
  have OW3 : Hid (OwnP W2.heap.size w3.heap.size w3 W2.heap.size L) := ow3
  have o0 : w3.cell? ⟨w.heap.size + 1 + 1, 0, none⟩ = some (.int .i64 b) := (cell_of_row w3 _ _ _ _ _ RO3.out).trans rfl
  have o1 : w3.cell? ⟨w.heap.size + 1 + 1, 1, none⟩ = some (.int .i64 d) := (cell_of_row w3 _ _ _ _ _ RO3.out).trans rfl
  have o2 : w3.cell? ⟨w.heap.size + 1 + 1, 2, none⟩ = some (.slice none 0 0) := (cell_of_row w3 _ _ _ _ _ RO3.out).trans rfl
  have p2 : w3.frozen? ⟨w.heap.size + 1 + 1, 2, none⟩ = false := frozen_of_row w3 _ _ _ _ RO3.out
  have r0 : w3.cell? ⟨w.heap.size + 1, 0, none⟩ = some (.int .i64 0) := (cell_of_row w3 _ _ _ _ _ RR3.out).trans rfl
  have r1 : w3.cell? ⟨w.heap.size + 1, 1, none⟩ = some (.int .i64 0) := (cell_of_row w3 _ _ _ _ _ RR3.out).trans rfl
  have r2 : w3.cell? ⟨w.heap.size + 1, 2, none⟩ = some (.slice none 0 0) := (cell_of_row w3 _ _ _ _ _ RR3.out).trans rfl
  have q0 : w3.frozen? ⟨w.heap.size + 1, 0, none⟩ = false := frozen_of_row w3 _ _ _ _ RR3.out
  have q1 : w3.frozen? ⟨w.heap.size + 1, 1, none⟩ = false := frozen_of_row w3 _ _ _ _ RR3.out
  have q2 : w3.frozen? ⟨w.heap.size + 1, 2, none⟩ = false := frozen_of_row w3 _ _ _ _ RR3.out
  have HLL : Hid (L.map (·.1) = ps) := hL
  clear ow3 hw3 hL
  go_wp2
  have HE : ∀ v : Value, Hid (((((w3.setCell ⟨w.heap.size + 1 + 1, 2, none⟩ v).setCell ⟨w.heap.size + 1, 0, none⟩ (.int .i64 b)).setCell ⟨w.heap.size + 1, 1, none⟩ (.int .i64 d)).setCell ⟨w.heap.size + 1, 2, none⟩ v).heap[w.heap.size + 1]? = some (.cells #[.int .i64 b, .int .i64 d, v] 28 (0, 0))) := fun v => by
    have h0 : (w3.setCell ⟨w.heap.size + 1 + 1, 2, none⟩ v).heap[w.heap.size + 1]? = some (.cells #[.int .i64 0, .int .i64 0, .slice none 0 0] 28 (0, 0)) := (heap_setCell_other _ _ _ _ (by simp)).trans RR3.out
    exact heap_setCell_same _ _ 2 _ _ _ (heap_setCell_same _ _ 1 _ _ _ (heap_setCell_same _ _ 0 _ _ _ h0))
  refine bodyPost_ret (results_cell_row Tryz.results45 _ _ (w.heap.size + 1) _ _ _ _ rfl (HE _).out Tryz.underlying28 rfl (by kernel_rfl)) rfl ⟨W2.heap.size, rfl, ⟨L, HLL.out, ?_⟩, ?_⟩
  · exact ((OW3.out.far3 (q1 := w.heap.size + 1 + 1) (q2 := w.heap.size + 1) (by omega) (by omega) _ _ _ _).mono (by omega)).wide (by simp [World.setCell])
  · exact (((HB3.out.setCell (p := ⟨w.heap.size + 1 + 1, 2, none⟩) (by simp; try omega) _).setCell (p := ⟨w.heap.size + 1, 0, none⟩) (by simp) _).setCell (p := ⟨w.heap.size + 1, 1, none⟩) (by simp) _).setCell (p := ⟨w.heap.size + 1, 2, none⟩) (by simp) _
end Go.Proofs.YtdceimnapbblnaaGreat
namespace Go.Proofs.YtdceimnapbblnaaGreat
open Go.RowKit
set_option linter.unusedVariables false

/-- nothing but blocks from B to T has turned -/
structure Within (B T : Nat) (w w' : World) : Prop where
  os : w'.os = w.os
  tape : w'.tape = w.tape
  output : w'.output = w.output
  size : w'.heap.size = w.heap.size
  block : ∀ k, ¬ (B ≤ k ∧ k < T) → w'.heap[k]? = w.heap[k]?
theorem Within.refl (B T : Nat) (w : World) : Within B T w w := ⟨rfl, rfl, rfl, rfl, fun _ _ => rfl⟩
theorem Within.put {B T g : Nat} {w w' : World} (h : Within B T w w') (h1 : B ≤ g) (h2 : g < T) (i : Nat) (v : Value) : Within B T w (w'.setCell ⟨g, i, none⟩ v) :=
  ⟨h.os, h.tape, h.output, by simpa [World.setCell] using h.size, fun k hk => (heap_setCell_other _ _ _ _ (by simp; omega)).trans (h.block k hk)⟩
theorem Within.only {B T g : Nat} {w w1 w2 : World} (h : Within B T w w1) (ho : Only g w1 w2) (h1 : B ≤ g) (h2 : g < T) : Within B T w w2 :=
  ⟨ho.os.trans h.os, ho.tape.trans h.tape, ho.output.trans h.output, ho.size.trans h.size, fun k hk => (ho.block k (by omega)).trans (h.block k hk)⟩
theorem Within.below {B T n : Nat} {w0 w w' : World} (h : Within B T w w') (hb : Below n w0 w) (hn : n ≤ B) : Below n w0 w' :=
  hb.trans ⟨h.os, h.tape, h.output, by rw [h.size]; exact Nat.le_refl _, fun k hk => h.block k (by omega)⟩
theorem getD_set {L : List (Pr × Value)} {i j : Nat} {e : Pr × Value} (hj : j < L.length) : (L.set i e).getD j d0 = if i = j then e else L.getD j d0 := by
  rw [List.getD_eq_getElem?_getD, List.getElem?_set]
  by_cases hij : i = j
  · subst hij; simp [hj]
  · rw [if_neg hij, if_neg hij, List.getD_eq_getElem?_getD]
theorem OwnS.ne_peer {B : Nat} {w : World} {gb g : Nat} {l : List Int} {cur : Array Value} (h : OwnS B w gb l) (hc : w.heap[g]? = some (.cells cur 130 (0, 0))) : ¬ gb = g := by
  intro he
  obtain ⟨cj, hcj, _⟩ := h.row
  rw [he, hc] at hcj
  simp at hcj
/-- the three numbers of a peer are written -/
theorem OwnP.head {B T : Nat} {w : World} {g : Nat} {L : List (Pr × Value)} (h : OwnP B T w g L) {i : Nat} (hi : i < L.length) (x y z : Int) :
    OwnP B T (((w.setCell ⟨g, i * 4, none⟩ (.int .i64 x)).setCell ⟨g, i * 4 + 1, none⟩ (.int .i64 y)).setCell ⟨g, i * 4 + 2, none⟩ (.int .i64 z)) g (L.set i (⟨x, y, z, (L.getD i d0).1.backs⟩, (L.getD i d0).2)) := by
  obtain ⟨cur, hc⟩ := h.blk
  have hb4 : ∀ k, ¬ k = g → (((w.setCell ⟨g, i * 4, none⟩ (.int .i64 x)).setCell ⟨g, i * 4 + 1, none⟩ (.int .i64 y)).setCell ⟨g, i * 4 + 2, none⟩ (.int .i64 z)).heap[k]? = w.heap[k]? := fun k hk => by
    rw [heap_setCell_other _ _ _ _ (by simpa using hk), heap_setCell_other _ _ _ _ (by simpa using hk), heap_setCell_other _ _ _ _ (by simpa using hk)]
  have hcell : ∀ j u, w.cell? ⟨g, j, none⟩ = some u → (((w.setCell ⟨g, i * 4, none⟩ (.int .i64 x)).setCell ⟨g, i * 4 + 1, none⟩ (.int .i64 y)).setCell ⟨g, i * 4 + 2, none⟩ (.int .i64 z)).cell? ⟨g, j, none⟩ = some (if j = i * 4 + 2 then .int .i64 z else if j = i * 4 + 1 then .int .i64 y else if j = i * 4 then .int .i64 x else u) := fun j u hu =>
    cell_set (j := i * 4 + 2) (cell_set (j := i * 4 + 1) (cell_set (j := i * 4) hu))
  refine ⟨h.lo, h.hi, ⟨_, heap_setCell_same _ _ _ _ _ _ (heap_setCell_same _ _ _ _ _ _ (heap_setCell_same _ _ _ _ _ _ hc))⟩, fun j hj => ?_, fun j hj => ?_, fun j k hjk hk => ?_⟩
  · rw [List.length_set] at hj
    rw [getD_set hj]
    have hcj := h.cel j hj
    have k0 := hcell _ _ hcj.c0
    have k1 := hcell _ _ hcj.c1
    have k2 := hcell _ _ hcj.c2
    have k3 := hcell _ _ hcj.c3
    by_cases hij : i = j
    · subst hij
      rw [if_pos rfl]
      rw [if_neg (by omega), if_neg (by omega), if_pos rfl] at k0
      rw [if_neg (by omega), if_pos rfl] at k1
      rw [if_pos rfl] at k2
      rw [if_neg (by omega), if_neg (by omega), if_neg (by omega)] at k3
      exact ⟨k0, k1, k2, k3⟩
    · rw [if_neg hij]
      rw [if_neg (by omega), if_neg (by omega), if_neg (by omega)] at k0 k1 k2 k3
      exact ⟨k0, k1, k2, k3⟩
  · rw [List.length_set] at hj
    rw [getD_set hj]
    have old : ∀ q, q < L.length → ValOk B T (((w.setCell ⟨g, i * 4, none⟩ (.int .i64 x)).setCell ⟨g, i * 4 + 1, none⟩ (.int .i64 y)).setCell ⟨g, i * 4 + 2, none⟩ (.int .i64 z)) (L.getD q d0) := fun q hq => by
      obtain ⟨ab, cb, hv, hcb, hm, ho⟩ := h.val q hq
      refine ⟨ab, cb, hv, hcb, hm, ?_⟩
      rcases ho with ho | ⟨gb, ha, ht, os⟩
      · exact .inl ho
      · exact .inr ⟨gb, ha, ht, os.of_block (hb4 gb (os.ne_peer hc))⟩
    by_cases hij : i = j
    · rw [if_pos hij]; exact old i hi
    · rw [if_neg hij]; exact old j hj
  · rw [List.length_set] at hk
    rw [getD_set (by omega), getD_set hk]
    by_cases hij : i = j
    · rw [if_pos hij, if_neg (by omega)]
      subst hij
      exact h.sep i k hjk hk
    · rw [if_neg hij]
      by_cases hik : i = k
      · rw [if_pos hik]
        subst hik
        exact h.sep j i hjk hk
      · rw [if_neg hik]
        exact h.sep j k hjk hk
/-- the backs of one peer have turned in their own block -/
theorem OwnP.tail {B T : Nat} {w w1 : World} {g gb : Nat} {L : List (Pr × Value)} (h : OwnP B T w g L) {i : Nat} (hi : i < L.length) {l : List Int} (hl : l.length = (L.getD i d0).1.backs.length) (hn : ¬ (L.getD i d0).1.backs = [])
    (hv : (L.getD i d0).2.ownBlock = some gb) (os : OwnS B w1 gb l) (ho : Only gb w w1) : OwnP B T w1 g (L.set i (⟨(L.getD i d0).1.id, (L.getD i d0).1.succ, (L.getD i d0).1.point, l⟩, (L.getD i d0).2)) := by
  obtain ⟨cur, hc⟩ := h.blk
  have hne : ¬ g = gb := by
    obtain ⟨ab, cb, hvi, _, _, hoi⟩ := h.val i hi
    rcases hoi with hoi | ⟨gi, ha, _, osi⟩
    · exact absurd hoi hn
    · rw [hvi, ha] at hv
      simp [Value.ownBlock] at hv
      subst hv
      exact fun e => osi.ne_peer hc e.symm
  have hg : w1.heap[g]? = w.heap[g]? := ho.block g hne
  have hln : ¬ l = [] := fun e => hn (by rw [e] at hl; exact List.length_eq_zero_iff.1 hl.symm)
  refine ⟨h.lo, h.hi, ⟨cur, hg.trans hc⟩, fun j hj => ?_, fun j hj => ?_, fun j k hjk hk => ?_⟩
  · rw [List.length_set] at hj
    rw [getD_set hj]
    have hcj := (h.cel j hj).of_block hg
    by_cases hij : i = j
    · subst hij; rw [if_pos rfl]; exact ⟨hcj.c0, hcj.c1, hcj.c2, hcj.c3⟩
    · rw [if_neg hij]; exact hcj
  · rw [List.length_set] at hj
    rw [getD_set hj]
    by_cases hij : i = j
    · subst hij
      rw [if_pos rfl]
      obtain ⟨ab, cb, hvi, hcb, hm, hoi⟩ := h.val i hi
      rcases hoi with hoi | ⟨gi, ha, ht, osi⟩
      · exact absurd hoi hn
      · have e : gi = gb := by rw [hvi, ha] at hv; simpa [Value.ownBlock] using hv
        subst e
        exact ⟨ab, cb, by rw [hvi, hl], by rw [hl]; exact hcb, by rw [hl]; exact hm, .inr ⟨gi, ha, ht, os⟩⟩
    · rw [if_neg hij]
      obtain ⟨ab, cb, hvj, hcb, hm, hoj⟩ := h.val j hj
      refine ⟨ab, cb, hvj, hcb, hm, ?_⟩
      by_cases hbn : (L.getD j d0).1.backs = []
      · exact .inl hbn
      · rcases hoj with hoj | ⟨gj, ha, ht, osj⟩
        · exact .inl hoj
        · refine .inr ⟨gj, ha, ht, osj.of_block (ho.block gj ?_)⟩
          intro e
          have hvj2 : (L.getD j d0).2.ownBlock = some gb := by rw [hvj, ha, e]; rfl
          by_cases hlt : i < j
          · exact h.sep i j hlt hj hn hbn (hv.trans hvj2.symm)
          · exact h.sep j i (by omega) hi hbn hn (hvj2.trans hv.symm)
  · rw [List.length_set] at hk
    rw [getD_set (by omega), getD_set hk]
    by_cases hij : i = j
    · rw [if_pos hij, if_neg (by omega)]
      subst hij
      exact fun _ h2 => h.sep i k hjk hk hn h2
    · rw [if_neg hij]
      by_cases hik : i = k
      · rw [if_pos hik]
        subst hik
        exact fun h1 _ => h.sep j i hjk hk h1 hn
      · rw [if_neg hik]
        exact h.sep j k hjk hk
end Go.Proofs.YtdceimnapbblnaaGreat
namespace Go.Proofs.YtdceimnapbblnaaGreat
open Go.RowKit
set_option linter.unusedVariables false

theorem Within.trans {B T : Nat} {w w1 w2 : World} (h : Within B T w w1) (k : Within B T w1 w2) : Within B T w w2 :=
  ⟨k.os.trans h.os, k.tape.trans h.tape, k.output.trans h.output, k.size.trans h.size, fun i hi => (k.block i hi).trans (h.block i hi)⟩
theorem markIntS_empty (a : Option Addr) (cap : Nat) (k0 : Int) (w : World) :
    Calls Tryz.prog 53 #[.slice a 0 cap, .int .i64 k0] w fun e w' => e = .returned (.int .i64 k0) ∧ w' = w := by
  go_enter Tryz.func53, Tryz.ntmps53
  go_wp2
  go_loop [1, 5] (fun k i => i = .int .i64 0 ∧ k = .int .i64 k0) (fun _ i => 0)
  case atStart => exact ⟨rfl, rfl⟩
  case round =>
    obtain ⟨rfl, rfl⟩ := hrel
    go_wp2
    go_ret
    exact ⟨rfl, rfl⟩
theorem mrk_range (k0 : Int) (zs : List Int) : mrk k0 zs zs.length = (List.range zs.length).map (fun j : Nat => k0 + (j : Int)) := by simp [mrk]
/-- the backs of one peer are marked -/
theorem markVal_any (B T g : Nat) (L : List (Pr × Value)) (i : Nat) (k0 : Int) (w : World) (h : OwnP B T w g L) (hi : i < L.length) (k1 : 0 ≤ k0) (k2 : k0 ≤ 1099511627776) :
    Calls Tryz.prog 53 #[(L.getD i d0).2, .int .i64 k0] w fun e w' => e = .returned (.int .i64 (k0 + ((L.getD i d0).1.backs.length : Int))) ∧
      OwnP B T w' g (L.set i (⟨(L.getD i d0).1.id, (L.getD i d0).1.succ, (L.getD i d0).1.point, (List.range (L.getD i d0).1.backs.length).map (fun j : Nat => k0 + (j : Int))⟩, (L.getD i d0).2)) ∧ Within B T w w' := by
  obtain ⟨ab, cb, hv, hcb, hm, ho⟩ := h.val i hi
  by_cases hn : (L.getD i d0).1.backs = []
  · have e0 : (L.getD i d0).1.backs.length = 0 := by rw [hn]; rfl
    have es : L.set i (⟨(L.getD i d0).1.id, (L.getD i d0).1.succ, (L.getD i d0).1.point, (List.range (L.getD i d0).1.backs.length).map (fun j : Nat => k0 + (j : Int))⟩, (L.getD i d0).2) = L := by
      rw [e0]
      have : (⟨(L.getD i d0).1.id, (L.getD i d0).1.succ, (L.getD i d0).1.point, (List.range 0).map (fun j : Nat => k0 + (j : Int))⟩ : Pr) = (L.getD i d0).1 := by
        have hb := hn
        generalize (L.getD i d0).1 = p at *
        obtain ⟨x, y, z, l⟩ := p
        simp at hb
        subst hb
        rfl
      rw [this]
      have e2 : ((L.getD i d0).1, (L.getD i d0).2) = L.getD i d0 := rfl
      rw [e2, List.getD_eq_getElem?_getD, List.getElem?_eq_getElem hi]
      simp
    rw [es, hv, e0]
    refine (markIntS_empty ab cb k0 w).mono ?_
    rintro e w1 ⟨he, hw⟩
    subst hw
    exact ⟨by rw [he]; simp, h, Within.refl _ _ _⟩
  · rcases ho with ho | ⟨gb, ha, ht, os⟩
    · exact absurd ho hn
    · have C := markOwn_any B gb cb (L.getD i d0).1.backs k0 w hm k1 k2 os
      have hob : (L.getD i d0).2.ownBlock = some gb := by rw [hv, ha]; rfl
      rw [hv, ha]
      refine C.mono ?_
      rintro e w1 ⟨he, os1, on1⟩
      rw [mrk_range] at os1
      have := h.tail hi (l := (List.range (L.getD i d0).1.backs.length).map (fun j : Nat => k0 + (j : Int))) (by simp) hn hob os1 on1
      rw [hv, ha] at this
      exact ⟨he, this, (Within.refl _ _ _).only on1 os.lo ht⟩

set_option maxRecDepth 100000 in
set_option maxHeartbeats 6400000 in
theorem markPeerS_any (B T g cap : Nat) (L : List (Pr × Value)) (k0 : Int) (w : World) (hb : L.length + bsum (L.map (·.1)) ≤ 1048576) (k1 : 0 ≤ k0) (k2 : k0 ≤ 1000000000000) (h : OwnP B T w g L) :
    Calls Tryz.prog 120 #[.slice (some ⟨g, 0, none⟩) L.length cap, .int .i64 k0] w fun e w' => e = .returned (.int .i64 (kAt k0 (L.map (·.1)) L.length)) ∧ Within B T w w' ∧ ∃ L', L'.map (·.1) = mrkP k0 (L.map (·.1)) ∧ OwnP B T w' g L' := by
  have hz : L.length ≤ 1048576 := by omega
  have HO : Hid (OwnP B T w g L) := h
  clear h
  obtain ⟨ps, hps⟩ : ∃ ps, ps = L.map (·.1) := ⟨_, rfl⟩
  have hpl : ps.length = L.length := by rw [hps]; simp
  have HPL : Hid (ps.length = L.length) := hpl
  have HPG : Hid (∀ i, i < L.length → ps.getD i pr0 = (L.getD i d0).1) := fun i hi => by rw [hps]; simp [List.getD_eq_getElem?_getD, List.getElem?_eq_getElem hi]
  rw [← hps] at hb ⊢
  have hb' : ps.length + bsum ps ≤ 1048576 := by rw [hpl]; exact hb
  have HBB : Hid (ps.length + bsum ps ≤ 1048576) := hb'
  clear hps hpl hb'
  go_enter Tryz.func120, Tryz.ntmps120
  go_wp2_with fail
  go_loopw [1, 5] (fun vk vi wr => ∃ (i : Nat) (M : List (Pr × Value)), i ≤ L.length ∧ vi = .int .i64 i ∧ vk = .int .i64 (kAt k0 ps i) ∧ M.length = L.length ∧ Hid (∀ j, j < i → (M.getD j d0).1 = (mrkP k0 ps).getD j pr0) ∧ Hid (∀ j, i ≤ j → j < L.length → (M.getD j d0).1 = ps.getD j pr0) ∧ OwnP B T wr g M ∧ Within B T w wr) (fun _ vi _ => L.length - (intOf vi).toNat)
  case atStart => exact ⟨0, L, Nat.zero_le _, rfl, by simp [kAt, bsum], rfl, fun j hj => by omega, fun j _ hj => (HPG.out j hj).symm, HO.out, Within.refl _ _ _⟩
  case round =>
    obtain ⟨i, M, hi, rfl, rfl, hM, hs1, hs2, ow, wi⟩ := hrel
    have HML : Hid (M.length = L.length) := hM
    have HOW : Hid (OwnP B T wr g M) := ow
    have HW : Hid (Within B T w wr) := wi
    clear hM ow wi
    by_cases hlt : i < L.length
    · have hiM : i < M.length := by rw [HML.out]; exact hlt
      have hip : i < ps.length := by rw [HPL.out]; exact hlt
      have hbk : Hid ((M.getD i d0).1.backs.length = (ps.getD i pr0).backs.length) := by
        show (M.getD i d0).1.backs.length = _
        rw [hs2.out i (Nat.le_refl _) hlt]
      have hbd := kAt_bd (k := k0) (Nat.le_of_lt hip) HBB.out
      have HS : Hid (kAt k0 ps (i + 1) = kAt k0 ps i + 3 + ((ps.getD i pr0).backs.length : Int)) := kAt_succ hip
      have hmk := mrkP_get ps k0 i hip
      have HMK : Hid ((mrkP k0 ps).getD i pr0 = ⟨kAt k0 ps i, kAt k0 ps i + 1, kAt k0 ps i + 2, (List.range (ps.getD i pr0).backs.length).map (fun j : Nat => kAt k0 ps i + 3 + (j : Int))⟩) := hmk
      clear hmk
      obtain ⟨u1, u2⟩ := hbd
      have hnb := bsum_mem hip
      have hnb2 : (ps.getD i pr0).backs.length ≤ 1048576 := by have := HBB.out; omega
      have HNB : Hid ((ps.getD i pr0).backs.length ≤ 1048576) := hnb2
      clear hnb hnb2
      obtain ⟨K, hK⟩ : ∃ K, K = kAt k0 ps i := ⟨_, rfl⟩
      rw [← hK] at u1 u2 HS HMK ⊢
      clear hK
      obtain ⟨cur, hcur⟩ := HOW.out.blk
      obtain ⟨c0, c1, c2, c3⟩ := HOW.out.cel i hiM
      have f0 : wr.frozen? ⟨g, i * 4, none⟩ = false := frozen_of_row wr _ _ _ _ hcur
      have f1 : wr.frozen? ⟨g, i * 4 + 1, none⟩ = false := frozen_of_row wr _ _ _ _ hcur
      have f2 : wr.frozen? ⟨g, i * 4 + 2, none⟩ = false := frozen_of_row wr _ _ _ _ hcur
      clear hcur
      have ow1 := HOW.out.head hiM K (K + 1) (K + 2)
      have wi1 := ((HW.out.put HOW.out.lo HOW.out.hi (i * 4) (.int .i64 K)).put HOW.out.lo HOW.out.hi (i * 4 + 1) (.int .i64 (K + 1))).put HOW.out.lo HOW.out.hi (i * 4 + 2) (.int .i64 (K + 2))
      have hg1 : (M.set i (⟨K, K + 1, K + 2, (M.getD i d0).1.backs⟩, (M.getD i d0).2)).getD i d0 = (⟨K, K + 1, K + 2, (M.getD i d0).1.backs⟩, (M.getD i d0).2) := by rw [getD_set hiM, if_pos rfl]
      have C := markVal_any B T g _ i (K + 3) _ ow1 (by rw [List.length_set]; exact hiM) (by omega) (by omega)
      rw [hg1] at C
      simp only [List.set_set] at C
      rw [hbk.out] at C
      obtain ⟨ab, cb, hv, hv1, hv2, hv3⟩ := HOW.out.val i hiM
      clear hv1 hv2 hv3
      rw [hbk.out] at hv
      have e2 : K + 1 + 1 = K + 2 := by omega
      have e3 : K + 2 + 1 = K + 3 := by omega
      have WI1 : Hid (Within B T w (((wr.setCell ⟨g, i * 4, none⟩ (.int .i64 K)).setCell ⟨g, i * 4 + 1, none⟩ (.int .i64 (K + 1))).setCell ⟨g, i * 4 + 2, none⟩ (.int .i64 (K + 2)))) := wi1
      clear wi1 ow1 hg1
      rw [hv] at C c3
      have HV : Hid ((M.getD i d0).2 = .slice ab (ps.getD i pr0).backs.length cb) := hv
      clear hv
      generalize (M.getD i d0).1.id = g0 at c0
      generalize (M.getD i d0).1.succ = g1 at c1
      generalize (M.getD i d0).1.point = g2 at c2
      obtain ⟨nb, hnb⟩ : ∃ nb, nb = (ps.getD i pr0).backs.length := ⟨_, rfl⟩
      have HNE : Hid (nb = (ps.getD i pr0).backs.length) := hnb
      rw [← hnb] at C c3 HS HMK HNB
      clear hnb
      have hnb3 : nb ≤ 1048576 := HNB.out
      go_wp2_with fail
      refine C.mono ?_
      rintro e w1 ⟨rfl, ow2, wi2⟩
      have OW2 : Hid (OwnP B T w1 g (M.set i (⟨K, K + 1, K + 2, (List.range nb).map (fun j : Nat => K + 3 + (j : Int))⟩, .slice ab nb cb))) := ow2
      have WI2 : Hid (Within B T w w1) := WI1.out.trans wi2
      clear ow2 wi2 C
      have HS1 : Hid (∀ j, j < i + 1 → ((M.set i (⟨K, K + 1, K + 2, (List.range nb).map (fun j : Nat => K + 3 + (j : Int))⟩, .slice ab nb cb)).getD j d0).1 = (mrkP k0 ps).getD j pr0) := fun j hj => by
        rw [getD_set (by omega)]
        by_cases hij : i = j
        · subst hij; rw [if_pos rfl, HMK.out]
        · rw [if_neg hij]; exact hs1.out j (by omega)
      have HS2 : Hid (∀ j, i + 1 ≤ j → j < L.length → ((M.set i (⟨K, K + 1, K + 2, (List.range nb).map (fun j : Nat => K + 3 + (j : Int))⟩, .slice ab nb cb)).getD j d0).1 = ps.getD j pr0) := fun j hj hjl => by
        rw [getD_set (by rw [HML.out]; exact hjl), if_neg (by omega)]
        exact hs2.out j (by omega) hjl
      go_wp2
      go_roundw
      case rel => exact ⟨i + 1, _, by omega, by go_num, by rw [HS.out], by rw [List.length_set]; exact HML.out, HS1, HS2, OW2.out, WI2.out⟩
      case measure => simp [intOf]; omega
    · have hie : i = L.length := by omega
      subst hie
      have hfin : Hid (M.map (·.1) = mrkP k0 ps) := map_fst (by rw [mrkP_len, HPL.out, HML.out]) (fun j hj => by rw [mrkP_len, HPL.out] at hj; exact hs1.out j hj)
      go_wp2
      go_ret
      exact ⟨rfl, HW.out, M, hfin.out, HOW.out⟩

theorem markPeers_any (b d : Int) (B T g cap : Nat) (L : List (Pr × Value)) (k0 : Int) (w : World) (hb : L.length + bsum (L.map (·.1)) ≤ 1048576) (k1 : 0 ≤ k0) (k2 : k0 ≤ 1000000000000) (hT : T ≤ w.heap.size) (h : OwnP B T w g L) :
    Calls Tryz.prog 51 #[.agg #[.int .i64 b, .int .i64 d, .slice (some ⟨g, 0, none⟩) L.length cap], .int .i64 k0] w fun e w' => e = .returned (.int .i64 (kAt k0 (L.map (·.1)) L.length)) ∧ (∀ n w0, n ≤ B → Below n w0 w → Below n w0 w') ∧ (∀ k, k < w.heap.size → ¬ (B ≤ k ∧ k < T) → w'.heap[k]? = w.heap[k]?) ∧ w.heap.size ≤ w'.heap.size ∧ ∃ L', L'.map (·.1) = mrkP k0 (L.map (·.1)) ∧ OwnP B T w' g L' := by
  have hlo := h.lo
  have hhi := h.hi
  have h1 := h.keep ((Below.refl _ _).alloc (Nat.le_refl _) (.cells #[.int .i64 b, .int .i64 d, .slice (some ⟨g, 0, none⟩) L.length cap] 28))
  have C := markPeerS_any B T g cap L k0 _ hb k1 k2 h1
  have hbd := kAt_bd (k := k0) (ps := L.map (·.1)) (i := L.length) (by simp) (by simpa using hb)
  clear h h1
  go_enter Tryz.func51, Tryz.ntmps51
  go_wp2_with fail
  refine C.mono ?_
  rintro e w1 ⟨rfl, wi, ow⟩
  go_wp2
  go_ret
  have hs := wi.size
  simp at hs
  exact ⟨rfl, fun n w0 hn hb0 => wi.below (hb0.alloc (Nat.le_trans hn (by omega)) _) hn, fun k hk hne => (wi.block k hne).trans (heap_alloc_old _ _ hk), by omega, ow⟩
end Go.Proofs.YtdceimnapbblnaaGreat
namespace Go.Proofs.YtdceimnapbblnaaGreat
open Go.RowKit Go.ChangeShapes Go.WideShapes Go.Deep
set_option linter.unusedVariables false
section
variable {H : Type} {enc : TypeId × Value → H} {W : World} {base : Nat} {held : Bool}
theorem ints_row {fuel : Nat} {a : Option Addr} {n cap : Nat} {x : DataW H × List MemPlace} (h : DataW.trod enc Tryz.prog W base (fun _ => true) held fuel 30 [.slice a n cap] = some x) :
    ∃ ys : List Int, ys.length = n ∧ n ≤ maxLen ∧ (n ≤ cap ∧ (a = none → cap = 0)) ∧ RowAt W a ys := by
  rcases open_ints Tryz.underlying30 Tryz.underlying3 (by kernel_rfl) h with ⟨hcs, _⟩ | ⟨x, l, c, zs, hcs, _, hl, hm, hz, _, hcell, hwz⟩
  · simp at hcs
    obtain ⟨rfl, rfl, rfl⟩ := hcs
    exact ⟨[], rfl, Nat.zero_le _, ⟨Nat.zero_le _, fun _ => rfl⟩, .inl rfl⟩
  · simp at hcs
    obtain ⟨rfl, rfl, rfl⟩ := hcs
    obtain ⟨ys, h1, h2, h3⟩ := isRow_rowAt (w := W) (a := some x) (len := n) (cap := cap) (zs := zs) (.inr ⟨_, rfl, hl, hm, by simpa using hz, hcell, hwz⟩)
    exact ⟨ys, h1, h2, ⟨hl, fun h => by cases h⟩, h3⟩
theorem slice_of_trod {t e : TypeId} {fuel : Nat} {v : Value} {x : DataW H × List MemPlace} (ht : Tryz.prog.underlying t = some (.slice e)) (h : DataW.trod enc Tryz.prog W base (fun _ => true) held fuel t [v] = some x) : ∃ a n cap, v = .slice a n cap := by
  rcases open_slice ht h with ⟨hcs, _⟩ | ⟨a, l, c, _, _, _, _, hcs, _⟩
  · simp at hcs; exact ⟨_, _, _, hcs⟩
  · simp at hcs; exact ⟨_, _, _, hcs⟩
theorem cells4 {cs : List Value} (h : cs.length = 4) : ∃ c0 c1 c2 c3, cs = [c0, c1, c2, c3] := by
  match cs, h with
  | [c0, c1, c2, c3], _ => exact ⟨c0, c1, c2, c3, rfl⟩
theorem cellsP : Tryz.prog.cellsOf 206 = 4 := by kernel_rfl
theorem cellsPs : Tryz.prog.cellsOf 67 = 3 := by kernel_rfl
theorem cellsI : Tryz.prog.cellsOf 3 = 1 := by kernel_rfl
theorem cellsIs : Tryz.prog.cellsOf 30 = 1 := by kernel_rfl
theorem cellsPl : Tryz.prog.cellsOf 65 = 1 := by kernel_rfl
theorem peer_of_trod {fuel : Nat} {cs : List Value} {x : DataW H × List MemPlace} (h : DataW.trod enc Tryz.prog W base (fun _ => true) held fuel 206 cs = some x) :
    ∃ (p : Pr) (ab : Option Addr) (cb : Nat), cs = [.int .i64 p.id, .int .i64 p.succ, .int .i64 p.point, .slice ab p.backs.length cb] ∧ RowAt W ab p.backs ∧ p.backs.length ≤ maxLen ∧ p.backs.length ≤ cb ∧ (ab = none → cb = 0) := by
  obtain ⟨y0, y1, y2, y3, n, _, hl, h0, h1, h2, h3⟩ := Joins.trod_struct4 Tryz.underlying206 h
  obtain ⟨c0, c1, c2, c3, rfl⟩ := cells4 (hl.trans cellsP)
  simp [cellsI] at h0 h1 h2
  simp [cellsIs] at h3
  obtain ⟨a0, e0, _, _⟩ := DataW.trod_int Tryz.underlying3 h0
  obtain ⟨a1, e1, _, _⟩ := DataW.trod_int Tryz.underlying3 h1
  obtain ⟨a2, e2, _, _⟩ := DataW.trod_int Tryz.underlying3 h2
  simp at e0 e1 e2
  subst e0 e1 e2
  obtain ⟨ab, nb, cb, rfl⟩ := slice_of_trod Tryz.underlying30 h3
  obtain ⟨ys, rfl, hm, hc, hr⟩ := ints_row h3
  exact ⟨⟨a0, a1, a2, ys⟩, ab, cb, rfl, hr, hm, hc⟩
theorem peersl_of_trod {fuel : Nat} {a : Option Addr} {n cap : Nat} {x : DataW H × List MemPlace} (h : DataW.trod enc Tryz.prog W base (fun _ => true) held fuel 65 [.slice a n cap] = some x) :
    ∃ ps : List Pr, ps.length = n ∧ n ≤ maxLen ∧ n ≤ cap ∧ PeersAt W a ps := by
  rcases open_slice Tryz.underlying65 h with ⟨hcs, _⟩ | ⟨⟨b, off, spot⟩, l, c, m, k, D, Pl, hcs, _, hl, hm, hmm, _, hx⟩
  · simp at hcs
    obtain ⟨rfl, rfl, rfl⟩ := hcs
    exact ⟨[], rfl, Nat.zero_le _, Nat.zero_le _, .inl rfl⟩
  · simp at hcs
    obtain ⟨rfl, rfl, rfl⟩ := hcs
    simp at hmm
    subst hmm
    by_cases h0 : n = 0
    · subst h0; exact ⟨[], rfl, Nat.zero_le _, Nat.zero_le _, .inl rfl⟩
    rw [cellsP] at hx
    have hs : spot = none := by
      obtain ⟨cs, h1, h2⟩ := hx 0 (by omega)
      obtain ⟨p, ab, cb, rfl, hr, hm', hc'⟩ := peer_of_trod h2
      obtain ⟨_, _, hce⟩ := World.cells?_some h1
      have g0 := hce 0 (by omega)
      simp at g0
      simpa [Addr.add] using World.cell?_spot g0
    subst hs
    have key : ∀ i, i < n → ∃ p : Pr, b < W.heap.size ∧ PeerAt W b (off + i * 4) p := by
      intro i hi
      obtain ⟨cs, h1, h2⟩ := hx i (by omega)
      obtain ⟨p, ab, cb, rfl, hr, hm', hc'⟩ := peer_of_trod h2
      obtain ⟨_, _, hce⟩ := World.cells?_some h1
      have g0 := hce 0 (by omega)
      have g1 := hce 1 (by omega)
      have g2 := hce 2 (by omega)
      have g3 := hce 3 (by omega)
      rw [add_add] at g0 g1 g2 g3
      simp at g0 g1 g2 g3
      rw [add_none'] at g0 g1 g2 g3
      exact ⟨p, by simpa using block_lt_of_cell g0, g0, by simpa [Nat.add_assoc] using g1, by simpa [Nat.add_assoc] using g2, ab, cb, by simpa [Nat.add_assoc] using g3, hr, hm', hc'⟩
    obtain ⟨f, hf⟩ := @choose_lt Pr ⟨pr0⟩ _ _ key
    obtain ⟨hb, _⟩ := hf 0 (by omega)
    refine ⟨(List.range n).map f, by simp, by omega, hl, .inr ⟨b, off, rfl, hb, fun i hi => ?_⟩⟩
    have hi' : i < n := by simpa using hi
    have := (hf i hi').2
    simpa [List.getD_eq_getElem?_getD, hi'] using this
set_option maxRecDepth 100000 in
theorem open_peers {v : Value} {r : Reach} {b0 : Nat} {d : DataW H} {p : List MemPlace} (hv : Value.okWide Tryz.prog W r b0 67 v) (h : DataW.Trod enc Tryz.prog W base (fun _ => true) held 67 v d p) :
    ∃ (b g : Int) (a : Option Addr) (cap : Nat) (ps : List Pr), v = .agg #[.int .i64 b, .int .i64 g, .slice a ps.length cap] ∧ ps.length ≤ maxLen ∧ ps.length ≤ cap ∧ PeersAt W a ps := by
  obtain ⟨cs, rfl, hsz⟩ := okWide_struct Tryz.underlying67 hv
  obtain ⟨c0, c1, c2, rfl⟩ := Joins.array3 (hsz.trans cellsPs)
  obtain ⟨fuel, hf⟩ := h
  obtain ⟨y0, y1, n, _, _, h0, h1⟩ := trod_struct2 Tryz.underlying67 hf
  simp [Value.cells, cellsS] at h0
  simp [Value.cells, cellsPl] at h1
  obtain ⟨z0, z1, m, _, _, i0, i1⟩ := trod_struct2 Tryz.underlying64 h0
  simp [cellsI] at i0 i1
  obtain ⟨b, e0, _, _⟩ := DataW.trod_int Tryz.underlying3 i0
  obtain ⟨g, e1, _, _⟩ := DataW.trod_int Tryz.underlying3 i1
  simp at e0 e1
  subst e0 e1
  obtain ⟨a, n, cap, rfl⟩ := slice_of_trod Tryz.underlying65 h1
  obtain ⟨ps, rfl, hm, hc, hr⟩ := peersl_of_trod h1
  exact ⟨b, g, a, cap, ps, rfl, hm, hc, hr⟩
end
end Go.Proofs.YtdceimnapbblnaaGreat
namespace Go.Proofs.YtdceimnapbblnaaGreat
open Go.RowKit
set_option linter.unusedVariables false

def dwnI (zs : List Int) (x : Int) : Int := if hasB zs x = true then x else prvI zs x
def pntI (b d : Int) (zs : List Int) (x : Int) : Int := dwnI zs (shf b d x 0)
theorem dwn_rng {b d : Int} {zs : List Int} (R : Ring b d zs) {x : Int} (x1 : 0 ≤ x) (x2 : x < sz b) : 0 ≤ dwnI zs x ∧ dwnI zs x < sz b := by
  unfold dwnI
  split
  · exact ⟨x1, x2⟩
  · exact prv_rng R x
theorem dwn_has {b d : Int} {zs : List Int} (R : Ring b d zs) (x : Int) : hasB zs (dwnI zs x) = true := by
  unfold dwnI
  split
  · assumption
  · obtain ⟨t, ht, e, _⟩ := prv_place R x
    exact decide_eq_true ⟨t, ht, e.symm⟩

set_option maxHeartbeats 800000 in
theorem ldown_any (b d : Int) (a : Option Addr) (cap : Nat) (zs : List Int) (x : Int) (w : World) (R : Ring b d zs) (hr : RowAt w a zs) (x1 : 0 ≤ x) (x2 : x < sz b) :
    Calls Tryz.prog 252 #[.agg #[.int .i64 b, .int .i64 d], .slice a zs.length cap, .int .i64 x] w fun e w' => e = .returned (.int .i64 (dwnI zs x)) ∧ Below w.heap.size w w' := by
  have hm : zs.length ≤ maxLen := by have := R.l2; unfold maxLen; omega
  have hr1 := hr.alloc (.cells #[.int .i64 b, .int .i64 d] 25)
  have CH := lhas_any a cap zs x _ hm hr1
  have CP := lprev_any b d a cap zs x _ R hr1 x1 x2
  unfold dwnI
  cases hh : hasB zs x
  · rw [hh] at CH
    rw [if_neg (by simp)]
    go_enter Tryz.func252, Tryz.ntmps252
    go_wp2_with fail
    refine CH.mono ?_
    rintro e w1 ⟨rfl, hw1⟩
    subst hw1
    go_wp2_with fail
    refine CP.mono ?_
    rintro e w2 ⟨rfl, hw2⟩
    go_wp2
    go_ret
    exact ⟨rfl, bel1 hw2 (by simp)⟩
  · rw [hh] at CH
    rw [if_pos rfl]
    go_enter Tryz.func252, Tryz.ntmps252
    go_wp2_with fail
    refine CH.mono ?_
    rintro e w1 ⟨rfl, hw1⟩
    subst hw1
    go_wp2
    go_ret
    exact ⟨rfl, (Below.refl _ _).alloc (Nat.le_refl _) _⟩

set_option maxHeartbeats 800000 in
theorem lpoint_any (b d : Int) (a : Option Addr) (cap : Nat) (zs : List Int) (x : Int) (w : World) (R : Ring b d zs) (hr : RowAt w a zs) (x1 : 0 ≤ x) (x2 : x < sz b) :
    Calls Tryz.prog 228 #[.agg #[.int .i64 b, .int .i64 d], .slice a zs.length cap, .int .i64 x] w fun e w' => e = .returned (.int .i64 (pntI b d zs x)) ∧ Below w.heap.size w w' := by
  obtain ⟨hb1, hb2, hd1, hd2, _⟩ := gsB_true R.gs
  obtain ⟨hs1, hs2⟩ := sz_bd hb1 hb2
  obtain ⟨hs3, hs4⟩ := sz_bd hd1 (by omega)
  obtain ⟨k1, k2⟩ := shf_bd d x 0 hb1 hb2
  have hr1 := hr.alloc (.cells #[.int .i64 b, .int .i64 d] 25)
  have HR1 : Hid (RowAt (w.alloc (.cells #[.int .i64 b, .int .i64 d] 25)) a zs) := hr1
  have RR : Hid (Ring b d zs) := R
  clear R hr hr1
  unfold pntI
  go_enter Tryz.func228, Tryz.ntmps228
  go_wp2
  have c0 : ∀ p : Kin (w.heap.size + 1) (w.alloc (.cells #[.int .i64 b, .int .i64 d] 25)), p.v.cell? ⟨w.heap.size, 0, none⟩ = some (.int .i64 b) := kin_cell (by omega) (by go_simp)
  have c1 : ∀ p : Kin (w.heap.size + 1) (w.alloc (.cells #[.int .i64 b, .int .i64 d] 25)), p.v.cell? ⟨w.heap.size, 1, none⟩ = some (.int .i64 d) := kin_cell (by omega) (by go_simp)
  refine region_kin (w.heap.size + 1) (by kernel_rfl) (by kernel_rfl) (fun hne => ?_)
  repeat (go_big_quiet_step (first | (go_at_call 192; exact kin_of (by simp) (lshift_any b d x 0 _ hb1 hb2 hd1 (by omega) x1 x2 (by omega) (by omega))) | (go_at_call 252; exact kin_of (by simp) (ldown_any b d a cap zs _ _ RR.out (HR1.out.keepB (Kin.bel _) (by simp)) k1 k2))))
  refine wpQuiet_nil ?_
  intro _ hw'
  obtain ⟨⟨w1, hw1⟩, hw''⟩ := hw'
  obtain rfl : _ = w1 := hw''
  clear c0 c1 hne
  go_wp2
  go_ret
  exact ⟨rfl, ((Below.refl _ _).alloc (Nat.le_refl _) _).trans (hw1.mono (by omega))⟩
end Go.Proofs.YtdceimnapbblnaaGreat
namespace Go.Proofs.YtdceimnapbblnaaGreat
open Go.RowKit
set_option linter.unusedVariables false
def idsP (ps : List Pr) : List Int := ps.map Pr.id
theorem idsP_len (ps : List Pr) : (idsP ps).length = ps.length := by simp [idsP]
theorem idsP_get (ps : List Pr) (i : Nat) : (idsP ps).getD i 0 = (ps.getD i pr0).id := by
  simp only [idsP, List.getD_eq_getElem?_getD, List.getElem?_map]
  cases ps[i]? <;> rfl
theorem idsP_take {ps : List Pr} {k : Nat} (hk : k < ps.length) : idsP (ps.take (k + 1)) = idsP (ps.take k) ++ [(ps.getD k pr0).id] := by
  unfold idsP
  rw [List.take_succ_eq_append_getElem hk, List.map_append]
  simp [List.getD_eq_getElem?_getD, hk]
theorem alloc2_size {w w4 : World} {o q : Obj} (h : Below w.heap.size w w4) : w.heap.size ≤ ((w4.alloc o).alloc q).heap.size := by have := h.size; simp; omega
theorem cell_two_new (w : World) (o : Obj) (x : Value) (t : TypeId) : ∀ j u, [x][j]? = some u → ((w.alloc o).alloc (.cells #[x] t)).cell? ((⟨w.heap.size + 1, 0, none⟩ : Addr).add j) = some u := by
  have := cell_one_new (w.alloc o) x t
  have e : (w.alloc o).heap.size = w.heap.size + 1 := by simp
  rwa [e] at this
set_option maxHeartbeats 3200000 in
theorem lmembers_any (b d : Int) (a : Option Addr) (cap : Nat) (ps : List Pr) (w : World) (hm : ps.length ≤ 1048576) (hr : PeersAt w a ps) :
    Calls Tryz.prog 147 #[.agg #[.int .i64 b, .int .i64 d, .slice a ps.length cap]] w fun e w' => ∃ v, e = .returned v ∧ w'.ownsRow w.heap.size 3 1 v (idsP ps).length ((idsP ps).map (Value.int .i64)) ∧ Below w.heap.size w w' := by
  obtain ⟨i0, hi, hz0, hz1, hz2⟩ := info_parts'
  have HR : Hid (PeersAt w a ps) := hr
  clear hr
  go_enter Tryz.func147, Tryz.ntmps147
  go_wp2_with fail
  go_loopw [3, 9] (fun vs vi wr => ∃ (vo : Value) (k : Nat), vs = vo ∧ k ≤ ps.length ∧ vi = .int .i64 k ∧ wr.ownsRow w.heap.size 3 1 vo (idsP (ps.take k)).length ((idsP (ps.take k)).map (Value.int .i64)) ∧ Below w.heap.size w wr) (fun _ vi _ => ps.length - (intOf vi).toNat)
  case atStart => exact ⟨_, 0, rfl, Nat.zero_le _, rfl, World.ownsRow_nil _ _ _ _, (Below.refl _ _).alloc (Nat.le_refl _) _⟩
  case round =>
    obtain ⟨vo, k, hvo, hk, rfl, hown, hbel⟩ := hrel
    have hvo := hvo.symm
    subst hvo
    have HO : Hid (wr.ownsRow w.heap.size 3 1 vo (idsP (ps.take k)).length ((idsP (ps.take k)).map (Value.int .i64))) := hown
    have HB : Hid (Below w.heap.size w wr) := hbel
    clear hown hbel
    by_cases hlt : k < ps.length
    · obtain ⟨bk, off, rfl⟩ := peersAt_form HR.out (by omega)
      obtain ⟨c0, c1, c2, ab, cb, c3, _, hn, _⟩ := (peersAt_cell (HR.out.keep HB.out) (by omega)).2 k hlt
      have ht := idsP_take hlt
      have hle : (idsP (ps.take k)).length ≤ 1048576 := by rw [idsP_len, List.length_take]; omega
      have HT : Hid (idsP (ps.take (k + 1)) = idsP (ps.take k) ++ [(ps.getD k pr0).id]) := ht
      clear ht
      generalize (ps.getD k pr0).backs.length = nb at c3 hn
      generalize (ps.getD k pr0).id = x0 at c0 HT
      generalize (ps.getD k pr0).succ = x1 at c1
      generalize (ps.getD k pr0).point = x2 at c2
      go_wp2_with (at_builtin; refine wpList_append_own _ rfl (.tmp 13) (.tmp 16) 30 rfl w.heap.size 3 i0 (.int .i64 0) 1 8 Tryz.underlying30 hi hz0 hz1 hz2 rfl (by decide) _ _ _ rfl ((HO.out.alloc _).alloc _) ⟨wr.heap.size + 1, 0, none⟩ 1 1 [.int .i64 x0] rfl rfl (cell_two_new _ _ _ _) (by simp [Value.oneCell']) (by unfold maxLen; omega) (by omega) (alloc2_size HB.out) ?_; intro v5 w5 hown5 hgrow5 _; have HB5 : Hid (Below w.heap.size w w5) := grown_bel ((HB.out.alloc HB.out.size _).alloc (alloc_size HB.out) _) hgrow5 (alloc2_size HB.out) (fun k hk => (HO.out.lt k hk).1); have HO5 : Hid (w5.ownsRow w.heap.size 3 1 v5 (idsP (ps.take (k + 1))).length ((idsP (ps.take (k + 1))).map (Value.int .i64))) := own_snoc HT.out hown5; clear hown5 hgrow5)
      go_roundw
      case rel => exact ⟨_, k + 1, rfl, by omega, by go_num, HO5.out, HB5.out⟩
      case measure => simp [intOf]; omega
    · have hO := HO.out
      rw [List.take_of_length_le (by omega)] at hO
      have HO2 : Hid (wr.ownsRow w.heap.size 3 1 vo (idsP ps).length ((idsP ps).map (Value.int .i64))) := hO
      clear hO
      go_wp2
      go_ret
      exact ⟨_, rfl, HO2.out, HB.out⟩
end Go.Proofs.YtdceimnapbblnaaGreat
