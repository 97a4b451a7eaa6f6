/- JoinRing, in the program. -/
import Derived.Test.YtjolkpfenloobaaS0
import Derived.Maps.AppendAt
namespace Go.Proofs.Ytjolkpfenloobaa
open Go.RowKit
set_option linter.unusedVariables false

def joinL (zs : List Int) (x : Int) : List Int := zs.take (blw zs x) ++ x :: zs.drop (blw zs x)
theorem joinL_len (zs : List Int) (x : Int) : (joinL zs x).length = zs.length + 1 := by
  have := blw_le x zs
  simp [joinL]; omega
def okJ (b d : Int) (zs : List Int) (x : Int) : Bool := askB b d zs x && !memI zs x && !decide (zs.length = 16)
theorem info_parts' : ∃ i0, Try.prog.info? 3 = some i0 ∧ i0.zero = some (.int .i64 0) ∧ i0.size = 1 ∧ i0.bytes = 8 := by
  obtain ⟨i0, h1, h2, h3, h4⟩ := info_parts info_int
  exact ⟨i0, h1, h2, h3, h4⟩
/-- the head of a row that came in -/
theorem olds_cells {w : World} {bk off : Nat} {zs : List Int} (h : RowAt w (some ⟨bk, off, none⟩) zs) (p : Nat) :
    ∀ q : Addr, some (⟨bk, off, none⟩ : Addr) = some q → ∀ (j : Nat) (u : Value), ((zs.take p).map (Value.int .i64))[j]? = some u → w.cell? (q.add j) = some u := by
  rintro q hq j u hj
  obtain rfl := Option.some.inj hq
  have hjl := (List.getElem?_eq_some_iff.1 hj).1
  simp only [List.length_map, List.length_take] at hjl
  rcases h with rfl | ⟨b', o', h, hl, hc⟩
  · simp at hjl
  · simp at h
    obtain ⟨rfl, rfl⟩ := h
    rw [Addr.add_lit, hc j (by omega)]
    rw [List.getElem?_map, List.getElem?_take_of_lt (by omega), List.getElem?_eq_getElem (by omega)] at hj
    rw [List.getD_eq_getElem?_getD, List.getElem?_eq_getElem (by omega)]
    simpa using hj
/-- its tail -/
theorem tail_cells {w : World} {bk off : Nat} {zs : List Int} (h : RowAt w (some ⟨bk, off, none⟩) zs) (p : Nat) :
    ∀ (j : Nat) (u : Value), ((zs.drop p).map (Value.int .i64))[j]? = some u → w.cell? ((⟨bk, off + p, none⟩ : Addr).add j) = some u := by
  intro j u hj
  have hjl := (List.getElem?_eq_some_iff.1 hj).1
  simp only [List.length_map, List.length_drop] at hjl
  rcases h with rfl | ⟨b', o', h, hl, hc⟩
  · simp at hjl
  · simp at h
    obtain ⟨rfl, rfl⟩ := h
    rw [Addr.add_lit, Nat.add_assoc, hc (p + j) (by omega)]
    rw [List.getElem?_map, List.getElem?_drop, List.getElem?_eq_getElem (by omega)] at hj
    rw [List.getD_eq_getElem?_getD, List.getElem?_eq_getElem (by omega)]
    simpa using hj
theorem tail_none {w : World} {zs : List Int} {p : Nat} (hp : zs.length ≤ p) (q : Addr) : ∀ (j : Nat) (u : Value), ((zs.drop p).map (Value.int .i64))[j]? = some u → w.cell? (q.add j) = some u := by
  intro j u hj
  rw [List.drop_of_length_le hp] at hj
  simp at hj
theorem tail_if {w : World} {bk off cap p : Nat} {zs : List Int} {A : Addr} (hA : (if cap = p then some (⟨bk, off, none⟩ : Addr) else some ⟨bk, off + p, none⟩) = some A) (h : RowAt w (some ⟨bk, off, none⟩) zs) (hcap : zs.length ≤ cap) (hp : p ≤ zs.length) :
    ∀ (j : Nat) (u : Value), ((zs.drop p).map (Value.int .i64))[j]? = some u → w.cell? (A.add j) = some u := by
  by_cases hpc : cap = p
  · exact tail_none (by omega) _
  · rw [if_neg hpc] at hA
    obtain rfl := Option.some.inj hA
    exact tail_cells h p
theorem grown_alloc {w w4 w5 : World} {o : Obj} (h : Below w.heap.size w w4) (hg : (w4.alloc o).grownBy w5 none) : Below w.heap.size w w5 :=
  (h.alloc h.size o).grown hg (by have := h.size; simp; omega) (fun k hk => by cases hk)
theorem alloc_size {w w4 : World} {o : Obj} (h : Below w.heap.size w w4) : w.heap.size ≤ (w4.alloc o).heap.size := by have := h.size; simp; omega
theorem grown_bel {n : Nat} {w0 w w1 : World} {r : Option Nat} (h : Below n w0 w) (hg : w.grownBy w1 r) (hn : n ≤ w.heap.size) (hr : ∀ k, r = some k → n ≤ k) : Below n w0 w1 := h.grown hg hn hr

set_option maxHeartbeats 1600000 in
theorem JoinRing_any (b d : Int) (a : Option Addr) (cap : Nat) (zs : List Int) (x : Int) (w : World) (hm : zs.length ≤ maxLen) (hcap : zs.length ≤ cap) (hr : RowAt w a zs) :
    Calls Try.prog 38 #[.agg #[.int .i64 b, .int .i64 d], .slice a zs.length cap, .int .i64 x] w fun e w' => ∃ v, e = .returned v ∧ Below w.heap.size w w' ∧
      ((okJ b d zs x = false ∧ v = .tuple #[.slice none 0 0, .bool false]) ∨ (okJ b d zs x = true ∧ ∃ g, v = .tuple #[.slice (some ⟨g, 0, none⟩) (zs.length + 1) (zs.length + 1), .bool true] ∧ OwnS w.heap.size w' g (joinL zs x))) := by
  have hr1 := hr.alloc (.cells #[.int .i64 b, .int .i64 d] 25)
  have hok : okJ b d zs x = (ringB b d zs && numB b d x && !memI zs x && !decide (zs.length = 16)) := rfl
  cases hg : ringB b d zs
  · rw [hg] at hok
    go_enter Try.func38, Try.ntmps38
    go_wp2_with fail
    refine (GoodRing_any b d _ cap zs _ hm hr1).mono ?_
    rintro e w1 ⟨rfl, hw1⟩
    go_wp2
    go_ret2
    exact ⟨_, rfl, bel1 hw1 (by simp), .inl ⟨hok, rfl⟩⟩
  · have l1 := (ringB_true hg).l1
    have l2 := (ringB_true hg).l2
    cases hx : numB b d x
    · rw [hg, hx] at hok
      go_enter Try.func38, Try.ntmps38
      go_wp2_with fail
      refine (GoodRing_any b d _ cap zs _ hm hr1).mono ?_
      rintro e w1 ⟨rfl, hw1⟩
      obtain ⟨k10, k11, z1⟩ := keep2 (bk := w.heap.size) (u := .int .i64 b) (v := .int .i64 d) hw1 (by simp; try omega) (by simp) (by simp)
      go_wp2_with fail
      refine (isNumber_any _ _ _ _).mono ?_
      rintro e w2 ⟨rfl, hw2⟩
      go_wp2
      go_ret2
      exact ⟨_, rfl, belt (bel1 hw1 (by simp)) hw2, .inl ⟨hok, rfl⟩⟩
    · cases hmem : memI zs x
      · by_cases h16 : zs.length = 16
        · rw [hg, hx, hmem, decide_eq_true h16] at hok
          have hlq : ((zs.length : Int) == 16) = true := by simp [h16]
          clear h16
          go_enter Try.func38, Try.ntmps38
          go_wp2_with fail
          refine (GoodRing_any b d _ cap zs _ hm hr1).mono ?_
          rintro e w1 ⟨rfl, hw1⟩
          obtain ⟨k10, k11, z1⟩ := keep2 (bk := w.heap.size) (u := .int .i64 b) (v := .int .i64 d) hw1 (by simp; try omega) (by simp) (by simp)
          go_wp2_with fail
          refine (isNumber_any _ _ _ _).mono ?_
          rintro e w2 ⟨rfl, hw2⟩
          go_wp2_with fail
          refine (isMember_any _ cap zs x _ hm (hr.keep (belt (bel1 hw1 (by simp)) hw2))).mono ?_
          rintro e w3 ⟨rfl, rfl⟩
          go_wp2
          go_ret2
          exact ⟨_, rfl, belt (bel1 hw1 (by simp)) hw2, .inl ⟨hok, rfl⟩⟩
        · rw [hg, hx, hmem, decide_eq_false h16] at hok
          have hlq : ((zs.length : Int) == 16) = false := by simp only [beq_eq_false_iff_ne, ne_eq]; omega
          obtain ⟨bk, off, rfl⟩ := rowAt_form hr (by omega)
          obtain ⟨i0, hi, hz0, hz1, hz2⟩ := info_parts'
          have hple := blw_le x zs
          have HJ : Hid (joinL zs x = zs.take (blw zs x) ++ x :: zs.drop (blw zs x)) := rfl
          obtain ⟨p, hp⟩ : ∃ p, p = blw zs x := ⟨_, rfl⟩
          have HP : Hid (p = blw zs x) := hp
          rw [← hp] at hple HJ
          clear hp
          have s1 : Hid (((zs.take p).map (Value.int .i64)).length = p * 1) := by simp [Hid]; omega
          have s2 : Hid (((zs.drop p).map (Value.int .i64)).length = (zs.length - p) * 1) := by simp [Hid]
          have s3 : Hid ((zs.take p).map (Value.int .i64) ++ [Value.int .i64 x] ++ (zs.drop p).map (Value.int .i64) = (joinL zs x).map (Value.int .i64)) := by rw [HJ.out]; simp [Hid]
          have hN : p + 1 + (zs.length - p) = zs.length + 1 := by omega
          obtain ⟨A, hA, hAc⟩ : ∃ A : Addr, (if cap = p then some (⟨bk, off, none⟩ : Addr) else some ⟨bk, off + p, none⟩) = some A ∧ (¬ cap = p → A = ⟨bk, off + p, none⟩) := by
            by_cases hpc : cap = p
            · exact ⟨_, if_pos hpc, fun h => absurd hpc h⟩
            · exact ⟨_, if_neg hpc, fun _ => rfl⟩
          clear hAc
          have HA : Hid ((if cap = p then some (⟨bk, off, none⟩ : Addr) else some ⟨bk, off + p, none⟩) = some A) := hA
          go_enter Try.func38, Try.ntmps38
          go_wp2_with fail
          refine (GoodRing_any b d _ cap zs _ hm hr1).mono ?_
          rintro e w1 ⟨rfl, hw1⟩
          obtain ⟨k10, k11, z1⟩ := keep2 (bk := w.heap.size) (u := .int .i64 b) (v := .int .i64 d) hw1 (by simp; try omega) (by simp) (by simp)
          go_wp2_with fail
          refine (isNumber_any _ _ _ _).mono ?_
          rintro e w2 ⟨rfl, hw2⟩
          have HB2 : Hid (Below w.heap.size w w2) := belt (bel1 hw1 (by simp)) hw2
          have HR : Hid (RowAt w2 (some ⟨bk, off, none⟩) zs) := hr.keep HB2.out
          go_wp2_with fail
          refine (isMember_any _ cap zs x _ hm HR.out).mono ?_
          rintro e w3 ⟨rfl, he3⟩
          subst he3
          go_wp2_with fail
          refine (below_any _ cap zs x _ hm HR.out).mono ?_
          rintro e w4 ⟨rfl, he4⟩
          subst he4
          rw [← HP.out]
          have c1 : Hid (∀ q : Addr, some (⟨bk, off, none⟩ : Addr) = some q → ∀ (j : Nat) (u : Value), ((zs.take p).map (Value.int .i64))[j]? = some u → (w4.alloc (.cells #[.int .i64 x] 3)).cell? (q.add j) = some u) := olds_cells (HR.out.alloc _) p
          go_wp2_with (first | (at_builtin; refine wpList_append_grows _ rfl (.tmp 36) (.tmp 38) 26 rfl 3 i0 (.int .i64 0) 1 8 Try.underlying26 hi hz0 hz1 hz2 rfl (by decide) (some ⟨bk, off, none⟩) p p ((zs.take p).map (Value.int .i64)) rfl (by simp) s1.out c1.out ⟨w4.heap.size, 0, none⟩ 1 1 [.int .i64 x] rfl rfl (cell_one_new _ _ _) (by simp [Value.oneCell']) (by omega) (by unfold maxLen; omega) (by omega) ?_; intro v5 w5 hown5 hgrow5; obtain ⟨g5, cp5, rfl⟩ := Joins.ownsRow_form hown5 (Nat.succ_pos _); have HB5 : Hid (Below w.heap.size w w5) := grown_alloc HB2.out hgrow5; have own5 : Hid (w5.ownsRow w.heap.size 3 1 (.slice (some ⟨g5, 0, none⟩) (p + 1) cp5) (p + 1) ((zs.take p).map (Value.int .i64) ++ [Value.int .i64 x])) := Joins.ownsRow_le hown5 (alloc_size HB2.out); have c2 : Hid (∀ (j : Nat) (u : Value), ((zs.drop p).map (Value.int .i64))[j]? = some u → w5.cell? (A.add j) = some u) := tail_if HA.out (hr.keep HB5.out) hcap hple; clear hown5 hgrow5 c1) | (at_builtin; refine wpList_append_own _ rfl (.tmp 40) (.tmp 43) 26 rfl w.heap.size 3 i0 (.int .i64 0) 1 8 Try.underlying26 hi hz0 hz1 hz2 rfl (by decide) _ _ _ rfl own5.out _ _ _ ((zs.drop p).map (Value.int .i64)) rfl s2.out c2.out (ints_oneCell _ _) (by unfold maxLen; omega) (by omega) HB5.out.size ?_; intro v6 w6 hown6 hgrow6 _; rw [hN, s3.out] at hown6; obtain ⟨g6, cp6, rfl⟩ := Joins.ownsRow_form hown6 (by omega); obtain ⟨os6, len6, hcp6⟩ := OwnS.of_owns hown6; have HB6 : Hid (Below w.heap.size w w6) := grown_bel HB5.out hgrow6 HB5.out.size (fun k hk => (own5.out.lt k hk).1); clear hown6 hgrow6))
          go_ret2
          exact ⟨_, rfl, HB6.out, .inr ⟨hok, g6, rfl, os6⟩⟩
      · rw [hg, hx, hmem] at hok
        go_enter Try.func38, Try.ntmps38
        go_wp2_with fail
        refine (GoodRing_any b d _ cap zs _ hm hr1).mono ?_
        rintro e w1 ⟨rfl, hw1⟩
        obtain ⟨k10, k11, z1⟩ := keep2 (bk := w.heap.size) (u := .int .i64 b) (v := .int .i64 d) hw1 (by simp; try omega) (by simp) (by simp)
        go_wp2_with fail
        refine (isNumber_any _ _ _ _).mono ?_
        rintro e w2 ⟨rfl, hw2⟩
        go_wp2_with fail
        refine (isMember_any _ cap zs x _ hm (hr.keep (belt (bel1 hw1 (by simp)) hw2))).mono ?_
        rintro e w3 ⟨rfl, rfl⟩
        go_wp2
        go_ret2
        exact ⟨_, rfl, belt (bel1 hw1 (by simp)) hw2, .inl ⟨hok, rfl⟩⟩
end Go.Proofs.Ytjolkpfenloobaa
