/- What the law on owners draws, looks up and adds up. -/
import Derived.Test.YtgmdbihdnacpjaaT2
namespace Go.Proofs.Ytgmdbihdnacpjaa
open Go.RowKit
set_option linter.unusedVariables false

def IsRowU (w : World) (a : Option Addr) (len cap : Nat) (zs : List Int) : Prop :=
  (a = none ∧ len = 0 ∧ cap = 0 ∧ zs = []) ∨
  ∃ x, a = some x ∧ len ≤ cap ∧ cap ≤ maxLen ∧ zs.length = cap ∧ (∀ i, i < zs.length → w.cell? (x.add i) = some (.int .u8 (zs.getD i 0))) ∧ ∀ n ∈ zs, (Lit.int .u8 n).wf = true
theorem isRowU_rowB {w : World} {a : Option Addr} {len cap : Nat} {zs : List Int} (h : IsRowU w a len cap zs) : ∃ ys : List Int, ys.length = len ∧ len ≤ maxLen ∧ RowB w a ys := by
  rcases h with ⟨rfl, rfl, rfl, rfl⟩ | ⟨⟨b, off, spot⟩, rfl, hl, hm, hz, hc, hw⟩
  · exact ⟨[], rfl, Nat.zero_le _, .inl rfl⟩
  · by_cases h0 : len = 0
    · subst h0; exact ⟨[], rfl, Nat.zero_le _, .inl rfl⟩
    · have ad : ∀ j, (⟨b, off, none⟩ : Addr).add j = ⟨b, off + j, none⟩ := by intro j; unfold Addr.add; split <;> simp_all
      have hc0 := hc 0 (by omega)
      have hs : spot = none := by simpa [Addr.add] using World.cell?_spot hc0
      subst hs
      refine ⟨zs.take len, by simp; omega, by omega, .inr ⟨b, off, rfl, by simpa [ad] using block_lt_of_cell hc0, fun i hi => ?_⟩⟩
      have hi' : i < len := by simp at hi; omega
      have hci := hc i (by omega)
      rw [ad] at hci
      have e : (zs.take len).getD i 0 = zs.getD i 0 := by simp [List.getD_eq_getElem?_getD, hi']
      have hb := bounds_u8 (hw (zs.getD i 0) (by rw [List.getD_eq_getElem?_getD, List.getElem?_eq_getElem (by omega)]; exact List.getElem_mem _))
      rw [e]
      exact ⟨hci, hb⟩

def bigB (n m : Nat) : Bool := decide (1048576 < n ∨ (1048576 : Int) - n < m)
theorem big_any (a a' : Option Addr) (n m cap cap' : Nat) (w : World) (hn : n ≤ maxLen) (hm : m ≤ maxLen) :
    Calls Try.prog 11 #[.slice a n cap, .slice a' m cap'] w fun e w' => e = .returned (.bool (bigB n m)) ∧ w' = w := by
  unfold maxLen at hn hm
  unfold bigB
  by_cases h1 : 1048576 < n
  · rw [decide_eq_true (Or.inl h1)]
    go_enter Try.func11, Try.ntmps11
    go_wp2
    go_ret
    exact ⟨rfl, rfl⟩
  · by_cases h2 : (1048576 : Int) - n < m
    · rw [decide_eq_true (Or.inr h2)]
      go_enter Try.func11, Try.ntmps11
      go_wp2
      go_ret
      exact ⟨rfl, rfl⟩
    · rw [decide_eq_false (by omega)]
      go_enter Try.func11, Try.ntmps11
      go_wp2
      go_ret
      exact ⟨ret_bool (decide_eq_false (by omega)), rfl⟩

/-- the boxed space, of whatever type, and all that lay below it, are as they were -/
structure Bt (w : World) (b d : Int) (wk : World) : Prop where
  bel : Below (w.heap.size + 1) (w.alloc (.cells #[.int .i64 b, .int .i64 d] 25)) wk
theorem Bt.at {w wk : World} {b d : Int} (h : Bt w b d wk) : wk.cell? ⟨w.heap.size, 0, none⟩ = some (.int .i64 b) ∧ wk.cell? ⟨w.heap.size, 1, none⟩ = some (.int .i64 d) ∧ w.heap.size < wk.heap.size :=
  ⟨(h.bel.cell (p := ⟨w.heap.size, 0, none⟩) (by simp)).trans (by simp), (h.bel.cell (p := ⟨w.heap.size, 1, none⟩) (by simp)).trans (by simp), by have := h.bel.size; simp at this; omega⟩
theorem Bt.old {w wk : World} {b d : Int} (h : Bt w b d wk) : Below w.heap.size w wk := bel1 h.bel (by omega)
theorem Bt.step {w wk w' : World} {b d : Int} (h : Bt w b d wk) (hw : Below wk.heap.size wk w') : Bt w b d w' :=
  ⟨h.bel.trans (hw.mono (by have := h.at.2.2; omega))⟩
theorem Bt.first {w w1 : World} {b d : Int} (h : Below (w.alloc (.cells #[.int .i64 b, .int .i64 d] 25)).heap.size (w.alloc (.cells #[.int .i64 b, .int .i64 d] 25)) w1) : Bt w b d w1 := ⟨h.mono (by simp)⟩

theorem has_at {zs : List Int} {t : Nat} (ht : t < zs.length) {y : Int} (e : y = zs.getD t 0) : hasB zs y = true := decide_eq_true ⟨t, ht, e.symm⟩
theorem own_arc {b d : Int} {zs : List Int} (R : Ring b d zs) {x : Int} (x1 : 0 ≤ x) (x2 : x < sz b) : arcB b (prvI zs x) x (ownI zs x) = true := by
  obtain ⟨t, ht, ep, hp⟩ := prv_place R x
  obtain ⟨u, hu, eo, ho⟩ := own_place R x
  have rt := R.rng t ht
  have ru := R.rng u hu
  have l1 := R.l1
  rw [ep, eo]
  unfold arcB
  refine decide_eq_true ?_
  rw [dist_eq rt.1 rt.2 x1 x2, dist_eq rt.1 rt.2 ru.1 ru.2]
  rcases hp with ⟨hb, rfl⟩ | ⟨hb, rfl⟩
  · rcases ho with ⟨h1, rfl⟩ | ⟨h1, rfl⟩
    · have ha := R.above x (blw zs x) (Nat.le_refl _) h1
      rw [hb] at ha ru ⊢
      by_cases hn : zs.length = 1
      · left; rw [hn]
      · right
        have := R.ris 0 (zs.length - 1) (by omega) (by omega)
        refine ⟨by omega, ?_⟩
        split <;> split <;> omega
    · omega
  · have hlo := blw_lt (x := x) (zs := zs) (blw zs x - 1) (by omega)
    rcases ho with ⟨h1, rfl⟩ | ⟨h1, rfl⟩
    · have ha := R.above x (blw zs x) (Nat.le_refl _) h1
      right
      refine ⟨by omega, ?_⟩
      split <;> split <;> omega
    · rw [h1] at hlo rt ⊢
      by_cases hn : zs.length = 1
      · left; rw [hn]
      · right
        have := R.ris 0 (zs.length - 1) (by omega) (by omega)
        refine ⟨by omega, ?_⟩
        split <;> split <;> omega
theorem own_has {b d : Int} {zs : List Int} (R : Ring b d zs) (x : Int) : hasB zs x = (ownI zs x == x) := by
  obtain ⟨u, hu, eo, ho⟩ := own_place R x
  by_cases h : ownI zs x = x
  · rw [beq_iff_eq.2 h]; exact has_at hu (by rw [← eo, h])
  · have : (ownI zs x == x) = false := by simp only [beq_eq_false_iff_ne, ne_eq]; exact h
    rw [this, ← mem_has R]
    refine decide_eq_false (fun g => h ?_)
    rcases ho with ⟨h1, rfl⟩ | ⟨h1, rfl⟩
    · rw [eo]; exact g.2
    · omega
theorem own_nxt {b d : Int} {zs : List Int} (R : Ring b d zs) {x : Int} (h : hasB zs x = false) : nxtI zs x = ownI zs x := by
  rw [← mem_has R] at h
  unfold nxtI ownI uptI
  rw [h]; rfl
def kSum (b : Int) (zs : List Int) (j : Nat) : Int := if j = 0 then 0 else zs.getD (j - 1) 0 - zs.getD (zs.length - 1) 0 + sz b
def gSum (b : Int) (zs : List Int) (j : Nat) : Int := if j < zs.length then zs.getD j 0 - zs.getD 0 0 else sz b
theorem rnd_up {b x y : Int} (x1 : 0 ≤ x) (x2 : x < sz b) (y1 : 0 ≤ y) (y2 : y < sz b) (h : x < y) : rnd b x y = y - x := by
  unfold rnd
  rw [if_neg (by omega), dist_eq x1 x2 y1 y2, if_pos (by omega)]
theorem rnd_round {b x y : Int} (x1 : 0 ≤ x) (x2 : x < sz b) (y1 : 0 ≤ y) (y2 : y < sz b) (h : y ≤ x) : rnd b x y = y - x + sz b := by
  unfold rnd
  by_cases e : x = y
  · rw [if_pos e]; omega
  · rw [if_neg e, dist_eq x1 x2 y1 y2, if_neg (by omega)]
theorem top_le {b d : Int} {zs : List Int} (R : Ring b d zs) {j : Nat} (hj : j < zs.length) : zs.getD j 0 ≤ zs.getD (zs.length - 1) 0 ∧ zs.getD 0 0 ≤ zs.getD j 0 := by
  constructor
  · by_cases h : j = zs.length - 1
    · rw [h]; exact Int.le_refl _
    · have := R.ris j (zs.length - 1) (by omega) (by omega); omega
  · by_cases h : j = 0
    · rw [h]; exact Int.le_refl _
    · have := R.ris 0 j (by omega) hj; omega
theorem kSum_succ {b d : Int} {zs : List Int} (R : Ring b d zs) {j : Nat} (hj : j < zs.length) : kSum b zs (j + 1) = kSum b zs j + rnd b (prvI zs (zs.getD j 0)) (zs.getD j 0) := by
  have l1 := R.l1
  have rj := R.rng j hj
  have rl := R.rng (zs.length - 1) (by omega)
  have tp := (top_le R hj).1
  unfold kSum
  rw [if_neg (by omega), Nat.add_sub_cancel, prv_at R hj]
  rcases mod_back l1 (show j ≤ zs.length by omega) with ⟨h, e⟩ | ⟨h, e⟩
  · rw [if_pos h, e, rnd_round rl.1 rl.2 rj.1 rj.2 tp]; omega
  · have rp := R.rng (j - 1) (by omega)
    rw [if_neg (by omega), e, rnd_up rp.1 rp.2 rj.1 rj.2 (R.ris (j - 1) j (by omega) hj)]; omega
theorem gSum_succ {b d : Int} {zs : List Int} (R : Ring b d zs) {j : Nat} (hj : j < zs.length) : gSum b zs (j + 1) = gSum b zs j + rnd b (zs.getD j 0) (nxtI zs (zs.getD j 0)) := by
  have l1 := R.l1
  have rj := R.rng j hj
  have r0 := R.rng 0 (by omega)
  have tp := (top_le R hj).2
  unfold gSum
  rw [if_pos hj, nxt_at R hj]
  rcases mod_wrap l1 (show j + 1 ≤ zs.length by omega) with ⟨h, e⟩ | ⟨h, e⟩
  · have rp := R.rng (j + 1) h
    rw [if_pos h, e, rnd_up rj.1 rj.2 rp.1 rp.2 (R.ris j (j + 1) (by omega) h)]; omega
  · rw [if_neg (by omega), e, rnd_round rj.1 rj.2 r0.1 r0.2 tp]; omega
theorem kSum_end {b d : Int} {zs : List Int} (R : Ring b d zs) : kSum b zs zs.length = sz b ∧ gSum b zs zs.length = sz b := by
  have l1 := R.l1
  unfold kSum gSum
  rw [if_neg (by omega), if_neg (by omega)]
  exact ⟨by omega, rfl⟩
theorem kSum_bd {b d : Int} {zs : List Int} (R : Ring b d zs) {j : Nat} (hj : j ≤ zs.length) : (0 ≤ kSum b zs j ∧ kSum b zs j ≤ sz b) ∧ 0 ≤ gSum b zs j ∧ gSum b zs j ≤ sz b := by
  have l1 := R.l1
  have r0 := R.rng 0 (by omega)
  have rl := R.rng (zs.length - 1) (by omega)
  unfold kSum gSum
  refine ⟨?_, ?_⟩
  · split
    · omega
    · have rp := R.rng (j - 1) (by omega)
      have tp := top_le R (show j - 1 < zs.length by omega)
      omega
  · split
    · rename_i h
      have rp := R.rng j h
      have tp := top_le R h
      omega
    · omega
end Go.Proofs.Ytgmdbihdnacpjaa
