/- LeaveRing, in the program. -/
import Derived.Test.YtjolkpfenloobaaS1
import Derived.Deep.RegionLaw
import Derived.Laws.MakeOwn
namespace Go.Proofs.Ytjolkpfenloobaa
open Go.RowKit
set_option linter.unusedVariables false

def leaveL (zs : List Int) (x : Int) : List Int := zs.take (blw zs x) ++ zs.drop (blw zs x + 1)
def okL (b d : Int) (zs : List Int) (x : Int) : Bool := ringB b d zs && memI zs x && !decide (zs.length = 1)
theorem make_room (n : Nat) (hn : n ≤ 1048576) (w : World) :
    (Instr.makeSlice 26 (.int .i64 0) (.int .i64 (n : Int))).run Try.prog w = .ok (.slice (some ⟨w.heap.size, 0, none⟩) 0 n) (w.alloc (.cells (zv (List.replicate n 0)) 3)) := by
  obtain ⟨i0, hi, hz0, hz1, hz2⟩ := info_parts'
  have := run_make (P := Try.prog) w 26 3 i0 (.int .i64 0) Try.underlying26 hi hz0 .i64 .i64 0 (n : Int) (by omega) (by omega) (by rw [hz2]; omega) (by omega)
  rw [hz1] at this
  rw [this, ← made_zv]
  simp
  rfl
theorem own_room (w : World) (n : Nat) (hn : n ≤ 1048576) : (w.alloc (.cells (zv (List.replicate n 0)) 3)).ownsRow w.heap.size 3 1 (.slice (some ⟨w.heap.size, 0, none⟩) 0 n) 0 [] :=
  ⟨rfl, .inr ⟨w.heap.size, n, _, rfl, Nat.le_refl _, heap_alloc_new _ _, Nat.zero_le _, by unfold maxLen; omega, by simp [zv], by simp⟩⟩

/-- an append that fits into a row of the call's own, as one step of a region that draws -/
theorem step_append_fits {P : Program} {ops : Array Oper} {o : Oper} {a : Act} {w : World} {K : Act → World → Prop} {Q : Exit → Act → World → Prop} {E : Prop}
    (hg : o.guard = none) (s x : Operand) (t : TypeId) (hop : o.op = Op.call { callee := Callee.builtin Builtin.append, args := #[s, x], argTypes := #[t, t] })
    (base : Nat) (e : TypeId) (i : TypeInfo) (size : Nat) (h1 : P.underlying t = some (.slice e)) (h2 : P.info? e = some i) (h4 : i.size = size)
    (g k cap : Nat) (xs : List Value) (hs : a.eval s = .slice (some ⟨g, 0, none⟩) k cap) (hown : w.ownsRow base e size (.slice (some ⟨g, 0, none⟩) k cap) k xs)
    (ad : Addr) (m c : Nat) (news : List Value) (hx : a.eval x = .slice (some ad) m c) (hn : news.length = m * size) (hc : ∀ j u, news[j]? = some u → w.cell? (ad.add j) = some u) (h1c : ∀ u ∈ news, u.oneCell' = true) (b1 : k + m ≤ cap)
    (hK : ∀ w', w'.ownsRow base e size (.slice (some ⟨g, 0, none⟩) (k + m) cap) (k + m) (xs ++ news) → w.grownBy w' (some g) → K (a.put o.dst (.slice (some ⟨g, 0, none⟩) (k + m) cap)) w') :
    if Region.wanted o (yielded ops a.tmps) = true then Oper.wp P o a w K Q else E := by
  have hw : Region.wanted o (yielded ops a.tmps) = true := by simp [Region.wanted, hg]
  rw [if_pos hw]
  obtain ⟨w', hrun, r1, r2⟩ := run_append_fits (P := P) w base t o.type e i size h1 h2 h4 g k cap xs hown ad m c news hn hc h1c b1
  unfold Oper.wp
  simp [execOp, hop, resolve, invoke, builtin, hs, hx, hrun, Result.andThen]
  exact hK w' r1 r2

theorem below_drew' {n : Nat} {w w1 : World} (h : Below n w w1) : Below n w w1.drew := h.drew

set_option maxHeartbeats 1600000 in
theorem LeaveRing_any (b d : Int) (a : Option Addr) (cap : Nat) (zs : List Int) (x : Int) (w : World) (hm : zs.length ≤ maxLen) (hcap : zs.length ≤ cap) (hr : RowAt w a zs) :
    Calls Try.prog 40 #[.agg #[.int .i64 b, .int .i64 d], .slice a zs.length cap, .int .i64 x] w fun e w' => ∃ v, e = .returned v ∧ Below w.heap.size w w' ∧
      ((okL b d zs x = false ∧ v = .tuple #[.slice none 0 0, .bool false]) ∨ (okL b d zs x = true ∧ ∃ g cp, v = .tuple #[.slice (some ⟨g, 0, none⟩) (zs.length - 1) cp, .bool true] ∧ OwnS w.heap.size w' g (leaveL zs x))) := by
  have hr1 := hr.alloc (.cells #[.int .i64 b, .int .i64 d] 25)
  have hok : okL b d zs x = (ringB b d zs && memI zs x && !decide (zs.length = 1)) := rfl
  cases hg : ringB b d zs
  · rw [hg] at hok
    go_enter Try.func40, Try.ntmps40
    go_wp2_with fail
    refine (GoodRing_any b d _ cap zs _ hm hr1).mono ?_
    rintro e w1 ⟨rfl, hw1⟩
    go_wp2
    go_ret2
    exact ⟨_, rfl, bel1 hw1 (by simp), .inl ⟨hok, rfl⟩⟩
  · have l1 := (ringB_true hg).l1
    have l2 := (ringB_true hg).l2
    cases hmem : memI zs x
    · rw [hg, hmem] at hok
      go_enter Try.func40, Try.ntmps40
      go_wp2_with fail
      refine (GoodRing_any b d _ cap zs _ hm hr1).mono ?_
      rintro e w1 ⟨rfl, hw1⟩
      go_wp2_with fail
      refine (isMember_any _ cap zs x _ hm (hr.keep (bel1 hw1 (by simp)))).mono ?_
      rintro e w2 ⟨rfl, rfl⟩
      go_wp2
      go_ret2
      exact ⟨_, rfl, bel1 hw1 (by simp), .inl ⟨hok, rfl⟩⟩
    · by_cases h1 : zs.length = 1
      · rw [hg, hmem, decide_eq_true h1] at hok
        have hlq : ((zs.length : Int) == 1) = true := by simp [h1]
        clear h1
        go_enter Try.func40, Try.ntmps40
        go_wp2_with fail
        refine (GoodRing_any b d _ cap zs _ hm hr1).mono ?_
        rintro e w1 ⟨rfl, hw1⟩
        go_wp2_with fail
        refine (isMember_any _ cap zs x _ hm (hr.keep (bel1 hw1 (by simp)))).mono ?_
        rintro e w2 ⟨rfl, rfl⟩
        go_wp2
        go_ret2
        exact ⟨_, rfl, bel1 hw1 (by simp), .inl ⟨hok, rfl⟩⟩
      · rw [hg, hmem, decide_eq_false h1] at hok
        have hlq : ((zs.length : Int) == 1) = false := by simp only [beq_eq_false_iff_ne, ne_eq]; omega
        obtain ⟨bk, off, rfl⟩ := rowAt_form hr (by omega)
        obtain ⟨i0, hi, hz0, hz1, hz2⟩ := info_parts'
        have hplt : blw zs x < zs.length := (of_decide_eq_true hmem).1
        have HJ : Hid (leaveL zs x = zs.take (blw zs x) ++ zs.drop (blw zs x + 1)) := rfl
        obtain ⟨p, hp⟩ : ∃ p, p = blw zs x := ⟨_, rfl⟩
        have HP : Hid (p = blw zs x) := hp
        rw [← hp] at hplt HJ
        clear hp
        have hn1 : ∃ n1 : Nat, ((zs.length : Int) - 1 = (n1 : Int)) ∧ zs.length = n1 + 1 := ⟨zs.length - 1, by omega, by omega⟩
        obtain ⟨n1, hq, hn1⟩ := hn1
        have HN : Hid (zs.length = n1 + 1) := hn1
        have hpn : p ≤ n1 := by omega
        have hpcap : p ≤ cap := by omega
        have hn16 : n1 ≤ 15 := by omega
        clear hn1
        have hmk := make_room n1 (by omega)
        have hwn : IntKind.i64.wrap (n1 : Int) = (n1 : Int) := by rw [IntKind.wrap_i64]; omega
        have s1 : Hid (((zs.take p).map (Value.int .i64)).length = p * 1) := by simp [Hid]; omega
        have s2 : Hid (((zs.drop (p + 1)).map (Value.int .i64)).length = (zs.length - (p + 1)) * 1) := by simp [Hid]
        have s3 : Hid ((zs.take p).map (Value.int .i64) ++ (zs.drop (p + 1)).map (Value.int .i64) = (leaveL zs x).map (Value.int .i64)) := by rw [HJ.out]; simp [Hid]
        have hN : p + (zs.length - (p + 1)) = zs.length - 1 := by omega
        obtain ⟨A, hA, hAc⟩ : ∃ A : Addr, (if cap = p + 1 then some (⟨bk, off, none⟩ : Addr) else some ⟨bk, off + (p + 1), none⟩) = some A ∧ (¬ cap = p + 1 → A = ⟨bk, off + (p + 1), none⟩) := by
          by_cases hpc : cap = p + 1
          · exact ⟨_, if_pos hpc, fun h => absurd hpc h⟩
          · exact ⟨_, if_neg hpc, fun _ => rfl⟩
        clear hAc
        have HA : Hid ((if cap = p + 1 then some (⟨bk, off, none⟩ : Addr) else some ⟨bk, off + (p + 1), none⟩) = some A) := hA
        go_enter Try.func40, Try.ntmps40
        go_wp2_with fail
        refine (GoodRing_any b d _ cap zs _ hm hr1).mono ?_
        rintro e w1 ⟨rfl, hw1⟩
        have HB1 : Hid (Below w.heap.size w w1) := bel1 hw1 (by simp)
        have HR : Hid (RowAt w1 (some ⟨bk, off, none⟩) zs) := hr.keep HB1.out
        go_wp2_with fail
        refine (isMember_any _ cap zs x _ hm HR.out).mono ?_
        rintro e w2 ⟨rfl, he2⟩
        subst he2
        go_wp2_with fail
        refine (below_any _ cap zs x _ hm HR.out).mono ?_
        rintro e w3 ⟨rfl, he3⟩
        subst he3
        rw [← HP.out]
        have c1 : Hid (∀ (j : Nat) (u : Value), ((zs.take p).map (Value.int .i64))[j]? = some u → (w3.alloc (.cells (zv (List.replicate n1 0)) 3)).drew.cell? ((⟨bk, off, none⟩ : Addr).add j) = some u) := olds_cells ((HR.out.alloc _).keep ((Below.refl _ _).drew)) p _ rfl
        have own4 : Hid ((w3.alloc (.cells (zv (List.replicate n1 0)) 3)).drew.ownsRow w3.heap.size 3 1 (.slice (some ⟨w3.heap.size, 0, none⟩) 0 n1) 0 []) := (own_room w3 n1 (by omega)).drew
        go_wp2_with fail
        go_region_law (refine step_append_fits rfl (.tmp 31) (.tmp 35) 26 rfl w3.heap.size 3 i0 1 Try.underlying26 hi hz1 w3.heap.size 0 n1 [] rfl own4.out ⟨bk, off, none⟩ p p ((zs.take p).map (Value.int .i64)) rfl s1.out c1.out (ints_oneCell _ _) (by omega) ?_; intro w5 hown5 hgrow5)
        rw [Nat.zero_add, List.nil_append] at hown5
        have HB5 : Hid (Below w.heap.size w w5) := grown_bel (below_drew' (HB1.out.alloc HB1.out.size _)) hgrow5 (alloc_size HB1.out) (fun k hk => by cases hk; exact HB1.out.size)
        have own5 : Hid (w5.ownsRow w.heap.size 3 1 (.slice (some ⟨w3.heap.size, 0, none⟩) p n1) p ((zs.take p).map (Value.int .i64))) := Joins.ownsRow_le hown5 HB1.out.size
        have c2 : Hid (∀ (j : Nat) (u : Value), ((zs.drop (p + 1)).map (Value.int .i64))[j]? = some u → w5.cell? (A.add j) = some u) := tail_if HA.out (hr.keep HB5.out) hcap hplt
        clear hown5 hgrow5 c1 own4 hmk hq
        go_wp2_with (at_builtin; refine wpList_append_own _ rfl (.tmp 37) (.tmp 41) 26 rfl w.heap.size 3 i0 (.int .i64 0) 1 8 Try.underlying26 hi hz0 hz1 hz2 rfl (by decide) _ _ _ rfl own5.out _ _ _ ((zs.drop (p + 1)).map (Value.int .i64)) rfl s2.out c2.out (ints_oneCell _ _) (by unfold maxLen; omega) (by omega) HB5.out.size ?_; intro v6 w6 hown6 hgrow6 _; rw [hN, s3.out] at hown6; obtain ⟨g6, cp6, rfl⟩ := Joins.ownsRow_form hown6 (by omega); obtain ⟨os6, len6, hcp6⟩ := OwnS.of_owns hown6; have HB6 : Hid (Below w.heap.size w w6) := grown_bel HB5.out hgrow6 HB5.out.size (fun k hk => (own5.out.lt k hk).1); clear hown6 hgrow6)
        go_ret2
        exact ⟨_, rfl, HB6.out, .inr ⟨hok, g6, cp6, rfl, os6⟩⟩
end Go.Proofs.Ytjolkpfenloobaa
