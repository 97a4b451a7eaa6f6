/- A net copied whole by the specification. The rows that a bag without one of its messages is laid from. Two results that lie in cells. Is a number that of a message of the bag? -/
import Derived.Deep.DeepCutAuto
import Derived.Test.YtdceimnapbblnaaGreatZ0
import Derived.Test.YtdceimnapbblnaaGreatZ1
import Derived.Test.YtdceimnapbblnaaGreatZ2
import Derived.Test.YtdceimnapbblnaaGreatZ3
import Derived.Test.YtdceimnapbblnaaGreatZ4
import Derived.Test.YtdceimnapbblnaaGreatZ5
import Derived.Test.YtdceimnapbblnaaGreatZ6
import Derived.Test.YtdceimnapbblnaaGreatZ7
import Derived.Test.YtdceimnapbblnaaGreatZ8
namespace Go.Proofs.YtdceimnapbblnaaGreat
open Go.RowKit Go.Deep
set_option linter.unusedVariables false
set_option linter.unusedSimpArgs false
/-- cells that read as the first k messages, each with an empty list of its own -/
structure RowN (xs : List Value) (ms : List Mg) (k : Nat) : Prop where
  len : xs.length = k * 9
  el : ∀ i, i < k → ∃ a c, (a = none → c = 0) ∧ ∀ j v, (mgV (ms.getD i mg0) (.slice a 0 c))[j]? = some v → xs[i * 9 + j]? = some v
theorem RowN.nil (ms : List Mg) : RowN [] ms 0 := ⟨rfl, fun i hi => by omega⟩
theorem RowN.snoc {xs : List Value} {ms : List Mg} {k : Nat} (h : RowN xs ms k) (a : Option Addr) (c : Nat) (hn : a = none → c = 0) : RowN (xs ++ mgV (ms.getD k mg0) (.slice a 0 c)) ms (k + 1) := by
  have hl := h.len
  refine ⟨by rw [List.length_append, hl]; simp only [mgV, List.length_cons, List.length_nil]; omega, fun i hi => ?_⟩
  by_cases hik : i = k
  · subst hik
    refine ⟨a, c, hn, fun j v hj => ?_⟩
    rw [List.getElem?_append_right (by omega), hl, show i * 9 + j - i * 9 = j from by omega]
    exact hj
  · obtain ⟨a1, c1, h1, h2⟩ := h.el i (by omega)
    refine ⟨a1, c1, h1, fun j v hj => ?_⟩
    have hh := h2 j v hj
    rw [List.getElem?_append_left (List.getElem?_eq_some_iff.1 hh).1]
    exact hh
theorem mg_own_e (m : Mg) (hl : m.l = []) (a : Option Addr) (c : Nat) (hn : a = none → c = 0) (B T : Nat) (w : World) : tyMg.own B T w (mgV m (.slice a 0 c)) m [] := by
  obtain ⟨x0, x1, x2, x3, x4, x5, x6, x7, l⟩ := m
  have hl : l = [] := hl
  subst hl
  exact ⟨a, c, rfl, by simp, by simp, hn, .inl ⟨rfl, rfl⟩⟩
theorem rowN_own {w : World} {B n : Nat} {v : Value} {xs : List Value} {ms : List Mg} (h : w.ownsRow B 102 9 v n xs) (hn : ms.length = n) (hm : n ≤ 1048576) (hx : RowN xs ms n) (hl : ∀ i, i < ms.length → (ms.getD i mg0).l = []) :
    ∃ a c, v = .slice a n c ∧ OwnEs tyMg 102 B w.heap.size w a n ms := by
  subst hn
  rcases Joins.ownsRow_forms h with ⟨h1, h2⟩ | ⟨g, cap, rfl⟩
  · exact ⟨none, 0, by rw [h1, h2], rfl, hm, .inl (List.length_eq_zero_iff.1 h2)⟩
  · obtain ⟨⟨cur, hcur⟩, hc, hb⟩ := owns_cells h
    have hgl : g < w.heap.size := (Array.getElem?_eq_some_iff.1 hcur).1
    by_cases h0 : ms.length = 0
    · exact ⟨_, cap, rfl, rfl, hm, .inl (List.length_eq_zero_iff.1 h0)⟩
    refine ⟨_, cap, rfl, rfl, hm, .inr ⟨g, g :: (List.replicate ms.length ([] : List Nat)).flatten, cap, rfl, by simp, ?_⟩⟩
    refine ⟨_, cap, rfl, hm, hc, fun hh => (by cases hh), .inr ⟨g, cur, List.replicate ms.length [], rfl, hb, hgl, hcur, List.length_replicate, rfl, fun i hi => ?_⟩⟩
    obtain ⟨a, c, e1, e2⟩ := hx.el i hi
    have hF : (List.replicate ms.length ([] : List Nat)).getD i [] = [] := rep_get _ _
    rw [hF]
    refine ⟨mgV (ms.getD i mg0) (.slice a 0 c), fun j u hj => ?_, mg_own_e _ (hl i hi) _ _ e1 _ _ _⟩
    have hjl : j < 9 := by have := (List.getElem?_eq_some_iff.1 hj).1; simpa [mgV] using this
    have hlt : i * 9 + j < ms.length * 9 := by
      have : (i + 1) * 9 ≤ ms.length * 9 := Nat.mul_le_mul_right _ hi
      omega
    exact (h.cellAt (i * 9 + j) hlt).trans (e2 j u hj)
/-- a bag of one's own, its messages with empty lists, with its capacity -/
def BagS (B T : Nat) (w : World) (a : Option Addr) (c : Nat) (ms : List Mg) : Prop :=
  ∃ zs, w.ownsRow B 102 9 (.slice a ms.length c) ms.length zs ∧ RowN zs ms ms.length ∧ ∀ z, (Value.slice a ms.length c).ownBlock = some z → z < T
theorem BagS.blocks {B T : Nat} {w w1 : World} {a : Option Addr} {c : Nat} {ms : List Mg} (h : BagS B T w a c ms) (hb : ∀ k, B ≤ k → k < T → k < w.heap.size → w1.heap[k]? = w.heap[k]?) : BagS B T w1 a c ms := by
  obtain ⟨zs, h1, h2, h3⟩ := h
  exact ⟨zs, own_blocks h1 (fun z hz => hb z (h1.lt z hz).1 (h3 z hz) (h1.lt z hz).2), h2, h3⟩
theorem BagS.keep {B T : Nat} {w w1 : World} {a : Option Addr} {c : Nat} {ms : List Mg} (h : BagS B T w a c ms) (hb : Below w.heap.size w w1) : BagS B T w1 a c ms := h.blocks (fun k _ _ hk => hb.block k hk)
theorem BagS.own {B T : Nat} {w : World} {a : Option Addr} {c : Nat} {ms : List Mg} (h : BagS B T w a c ms) (hm : ms.length ≤ 1048576) (hl : ∀ i, i < ms.length → (ms.getD i mg0).l = []) : OwnEs tyMg 102 B T w a ms.length ms := by
  obtain ⟨zs, h1, hx, h3⟩ := h
  refine ⟨rfl, hm, ?_⟩
  rcases Joins.ownsRow_forms h1 with ⟨e1, e2⟩ | ⟨g, cap, e1⟩
  · exact .inl (List.length_eq_zero_iff.1 e2)
  · simp only [Value.slice.injEq] at e1
    obtain ⟨rfl, _, rfl⟩ := e1
    obtain ⟨⟨cur, hcur⟩, hc, hb⟩ := owns_cells h1
    by_cases h0 : ms.length = 0
    · exact .inl (List.length_eq_zero_iff.1 h0)
    refine .inr ⟨g, g :: (List.replicate ms.length ([] : List Nat)).flatten, c, rfl, by simp, ?_⟩
    refine ⟨_, c, rfl, hm, hc, fun hh => (by cases hh), .inr ⟨g, cur, List.replicate ms.length [], rfl, hb, h3 g rfl, hcur, List.length_replicate, rfl, fun i hi => ?_⟩⟩
    obtain ⟨a, c', e1, e2⟩ := hx.el i hi
    have hF : (List.replicate ms.length ([] : List Nat)).getD i [] = [] := rep_get _ _
    rw [hF]
    refine ⟨mgV (ms.getD i mg0) (.slice a 0 c'), fun j u hj => ?_, mg_own_e _ (hl i hi) _ _ e1 _ _ _⟩
    have hjl : j < 9 := by have := (List.getElem?_eq_some_iff.1 hj).1; simpa [mgV] using this
    have hlt : i * 9 + j < ms.length * 9 := by
      have : (i + 1) * 9 ≤ ms.length * 9 := Nat.mul_le_mul_right _ hi
      omega
    exact (h1.cellAt (i * 9 + j) hlt).trans (e2 j u hj)
/-- a net that the specification copied -/
structure SpN (B T : Nat) (w : World) (ap am ag ar : Option Addr) (cm cg : Nat) (ps : List Pr) (ms : List Mg) (gs : List Int) (rs : List Rp) : Prop where
  ex : ∃ p0 p1 m0 m1 g0 g1 r0 r1 : Nat, (B ≤ p0 ∧ p0 ≤ p1 ∧ p1 ≤ T ∧ B ≤ m0 ∧ m1 ≤ T ∧ B ≤ g0 ∧ g1 ≤ T ∧ B ≤ r0 ∧ r1 ≤ T) ∧ ((p1 ≤ m0 ∨ m1 ≤ p0) ∧ (p1 ≤ g0 ∨ g1 ≤ p0) ∧ (p1 ≤ r0 ∨ r1 ≤ p0) ∧ (m1 ≤ g0 ∨ g1 ≤ m0) ∧ (m1 ≤ r0 ∨ r1 ≤ m0) ∧ (g1 ≤ r0 ∨ r1 ≤ g0)) ∧
    OwnPs p0 p1 w ap ps.length ps ∧ BagS m0 m1 w am cm ms ∧ OwnLs g0 g1 w ag gs.length gs ∧ OwnEs tyRp 45 r0 r1 w ar rs.length rs
  cgl : gs.length ≤ cg
  gss : ∃ g, ag = some ⟨g, 0, none⟩
theorem SpN.own {B T : Nat} {w : World} {ap am ag ar : Option Addr} {cm cg : Nat} {ps : List Pr} {ms : List Mg} {gs : List Int} {rs : List Rp} (h : SpN B T w ap am ag ar cm cg ps ms gs rs) (hm : ms.length ≤ 1048576) (hl : ∀ i, i < ms.length → (ms.getD i mg0).l = []) : OwnN B T w ap am ag ar ps.length ms.length gs.length rs.length ps ms gs rs := by
  obtain ⟨p0, p1, m0, m1, g0, g1, r0, r1, h1, h2, a1, a2, a3, a4⟩ := h.ex
  exact ⟨⟨p0, p1, m0, m1, g0, g1, r0, r1, h1, h2, a1, a2.own hm hl, a3, a4⟩⟩
theorem lownG0_any (a : Option Addr) (cap : Nat) (w : World) (hn : a = none → cap = 0) :
    Calls Tryz.prog 156 #[.slice a 0 cap] w fun e w' => ∃ g cp, e = .returned (.slice (some ⟨g, 0, none⟩) 0 cp) ∧ Below w.heap.size w w' :=
  (lownG_any a cap [] w (by simp) (.inl rfl) hn).mono (fun e w' h => by
    obtain ⟨g, cp, rfl, _, _, h⟩ := h
    exact ⟨g, cp, rfl, h⟩)
theorem new_cells (w : World) (C : Array Value) (t : TypeId) (ys : List Value) (h : C = ys.toArray) : ∀ j u, ys[j]? = some u → (w.alloc (.cells C t)).cell? ((⟨w.heap.size, 0, none⟩ : Addr).add j) = some u := by
  intro j u hj
  subst h
  rw [add_none', Nat.zero_add]
  have := (Wire.Bk.new w ys.toArray t).cell j
  rw [this]
  simpa using hj
set_option maxRecDepth 100000 in
set_option maxHeartbeats 12800000 in
theorem l6Own_any (b d ttl : Int) (ap am ag ar : Option Addr) (cp cm cg cr : Nat) (ps : List Pr) (ms : List Mg) (gs : List Int) (rs : List Rp) (w : World) (hg : goodN b d ttl ps ms gs rs = true) (hb : BigN ps ms gs rs) (hr : NetAt w ap am ag ar ps ms gs rs) (hcm : am = none → cm = 0) (hcg : ag = none → cg = 0) (hcr : ar = none → cr = 0) :
    Calls Tryz.prog 98 #[.agg #[.int .i64 b, .int .i64 d, .slice ap ps.length cp, .int .i64 ttl, .slice am ms.length cm, .slice ag gs.length cg, .slice ar rs.length cr]] w fun e w' => ∃ (ap' am' ag' ar' : Option Addr) (cp' cm' cg' cr' : Nat), e = .returned (.agg #[.int .i64 b, .int .i64 d, .slice ap' ps.length cp', .int .i64 ttl, .slice am' ms.length cm', .slice ag' gs.length cg', .slice ar' rs.length cr']) ∧ OwnN w.heap.size w'.heap.size w' ap' am' ag' ar' ps.length ms.length gs.length rs.length ps ms gs rs ∧ Below w.heap.size w w' ∧ ms.length ≤ cm' ∧ SpN w.heap.size w'.heap.size w' ap' am' ag' ar' cm' cg' ps ms gs rs := by
  have hP : goodP b d ps = true := by unfold goodN at hg; simp only [Bool.and_eq_true] at hg; exact hg.1.1.1.1.1.1
  have hlen := goodN_len hg
  have HML : Hid (∀ i, i < ms.length → (ms.getD i mg0).l = []) := fun i hi => by
    unfold goodN at hg
    simp only [Bool.and_eq_true, decide_eq_true_eq] at hg
    exact okMg_l (hg.1.2 i hi)
  obtain ⟨R, hp⟩ := goodP_true hP
  have hz1 : 0 < ps.length := by have := R.l1; rw [idsP_len] at this; omega
  have hz2 : ps.length ≤ 16 := by have := R.l2; rwa [idsP_len] at this
  have hpl : ps.length ≤ 1048576 := by omega
  have HB3 : Hid (∀ i, i < ps.length → (ps.getD i pr0).backs.length ≤ 1048576) := fun i hi => by have := (prB_parts.1 (hp i hi)).2.2.1; omega
  have hgl : gs.length ≤ 1048576 := hb.g
  have hml : ms.length ≤ 12 := by omega
  have hrl : rs.length ≤ 1048576 := by omega
  obtain ⟨qq, hqq⟩ : ∃ qq, qq = w.heap.size := ⟨_, rfl⟩
  obtain ⟨w0, hw0⟩ : ∃ w0, w0 = (w.alloc (.cells #[.int .i64 b, .int .i64 d, .slice ap ps.length cp, .int .i64 ttl, .slice am ms.length cm, .slice ag gs.length cg, .slice ar rs.length cr] 36)).alloc (.cells #[.int .i64 0, .int .i64 0, .slice none 0 0, .int .i64 0, .slice none 0 0, .slice none 0 0, .slice none 0 0] 36) := ⟨_, rfl⟩
  have HB0 : Hid (Below w.heap.size w w0) := by rw [hw0]; exact belt (belA _ _) (belA _ _)
  have hs0 : Hid (w0.heap.size = w.heap.size + 2) := by rw [Hid, hw0]; simp
  have HK0 : Hid (Wire.Bk w0 qq #[.int .i64 b, .int .i64 d, .slice ap ps.length cp, .int .i64 ttl, .slice am ms.length cm, .slice ag gs.length cg, .slice ar rs.length cr] 36) := by rw [hw0, hqq]; exact (Wire.Bk.new _ _ _).alloc _
  have HRC : Hid (Wire.Bk w0 (qq + 1) #[.int .i64 0, .int .i64 0, .slice none 0 0, .int .i64 0, .slice none 0 0, .slice none 0 0, .slice none 0 0] 36) := by
    rw [hqq]
    have h1 : (w.alloc (.cells #[.int .i64 b, .int .i64 d, .slice ap ps.length cp, .int .i64 ttl, .slice am ms.length cm, .slice ag gs.length cg, .slice ar rs.length cr] 36)).heap.size = w.heap.size + 1 := by simp
    have h2 := Wire.Bk.new (w.alloc (.cells #[.int .i64 b, .int .i64 d, .slice ap ps.length cp, .int .i64 ttl, .slice am ms.length cm, .slice ag gs.length cg, .slice ar rs.length cr] 36)) #[.int .i64 0, .int .i64 0, .slice none 0 0, .int .i64 0, .slice none 0 0, .slice none 0 0, .slice none 0 0] 36
    rw [h1] at h2
    rw [hw0]
    exact h2
  have HR0 : Hid (NetAt w0 ap am ag ar ps ms gs rs) := hr.keep HB0.out
  have hq0 : qq < w0.heap.size := by have := hs0.out; omega
  clear hr hb hg hP R hp hlen
  have HQ : Hid (qq = w.heap.size) := hqq
  go_enter Tryz.func98, Tryz.ntmps98
  go_wp2_with fail
  rw [← hqq]
  rw [← hw0]
  clear hw0 hqq
  go_cut [3] (fun v3 wc => ∃ (X p0 p1 g0 g1 z : Nat) (av gv rv : Option Addr) (cp1 cg1 cr1 : Nat), v3 = .pointer (some ⟨X, 0, none⟩) ∧ Hid (CS w0 wc X p0 p1 g0 g1 z av gv rv b d ttl ps gs rs cp1 cg1 cr1 (.slice none 0 0)))
  case first =>
    obtain ⟨j0, j1, j2, j3, j4, j5, j6⟩ := Wire.Bk.m7 HK0.out
    refine wp_region_held_drew (S := fun w' => Below w0.heap.size w0 w') (by kernel_rfl) ((Below.refl _ _).drew) (fun hs0' => ?_)
    have hd0 : Hid (w0.drew.heap.size = w0.heap.size) := rfl
    have hs00 : Below w0.heap.size w0 w0.drew := (Below.refl _ _).drew
    generalize w0.drew = w00 at *
    have hs0 := hs00
    have hs0s : w0.heap.size ≤ w00.heap.size := Nat.le_of_eq hd0.out.symm
    refine wpAnyH_take (i := 0) (oi := _) (v := _) rfl (by kernel_rfl) (by kernel_rfl) (by kernel_rfl) (fun _ _ _ h => h) (.inl ⟨by rfl, by intro w hSw; go_simp; with_reducible rfl⟩) hs0 ?_
    try simp only [Act.put, List.setIfInBounds_toArray, List.set_cons_zero, List.set_cons_succ]
    refine wpAnyH_take (i := 1) (oi := _) (v := _) rfl (by kernel_rfl) (by kernel_rfl) (by kernel_rfl) (fun _ _ _ h => h) (.inl ⟨by rfl, by intro w hSw; have hc0 := (hSw.cell (p := ⟨qq, 0, none⟩) hq0).trans j0; have hc1 := (hSw.cell (p := ⟨qq, 1, none⟩) hq0).trans j1; have hc2 := (hSw.cell (p := ⟨qq, 2, none⟩) hq0).trans j2; go_simp; with_reducible rfl⟩) hs0 ?_
    try simp only [Act.put, List.setIfInBounds_toArray, List.set_cons_zero, List.set_cons_succ]
    refine wpAnyH_take (i := 3) (oi := _) (v := _) rfl (by kernel_rfl) (by kernel_rfl) (by kernel_rfl) (fun _ _ _ h => h) (.inl ⟨by rfl, by intro w hSw; go_simp; with_reducible rfl⟩) hs0 ?_
    try simp only [Act.put, List.setIfInBounds_toArray, List.set_cons_zero, List.set_cons_succ]
    refine wpAnyH_take (i := 4) (oi := _) (v := _) rfl (by kernel_rfl) (by kernel_rfl) (by kernel_rfl) (fun _ _ _ h => h) (.inl ⟨by rfl, by intro w hSw; have hc3 := (hSw.cell (p := ⟨qq, 3, none⟩) hq0).trans j3; go_simp; with_reducible rfl⟩) hs0 ?_
    try simp only [Act.put, List.setIfInBounds_toArray, List.set_cons_zero, List.set_cons_succ]
    refine wpAnyH_take (i := 5) (oi := _) (v := _) rfl (by kernel_rfl) (by kernel_rfl) (by kernel_rfl) (fun _ _ _ h => h) (.inl ⟨by rfl, by intro w hSw; go_simp; with_reducible rfl⟩) hs0 ?_
    try simp only [Act.put, List.setIfInBounds_toArray, List.set_cons_zero, List.set_cons_succ]
    refine wpAnyH_take (i := 6) (oi := _) (v := _) rfl (by kernel_rfl) (by kernel_rfl) (by kernel_rfl) (fun _ _ _ h => h) (.inl ⟨by rfl, by intro w hSw; have hc5 := (hSw.cell (p := ⟨qq, 5, none⟩) hq0).trans j5; go_simp; with_reducible rfl⟩) hs0 ?_
    try simp only [Act.put, List.setIfInBounds_toArray, List.set_cons_zero, List.set_cons_succ]
    refine wpAnyH_take (i := 9) (oi := _) (v := _) rfl (by kernel_rfl) (by kernel_rfl) (by kernel_rfl) (fun _ _ _ h => h) (.inl ⟨by rfl, by intro w hSw; go_simp; with_reducible rfl⟩) hs0 ?_
    try simp only [Act.put, List.setIfInBounds_toArray, List.set_cons_zero, List.set_cons_succ]
    refine wpAnyH_take (i := 10) (oi := _) (v := _) rfl (by kernel_rfl) (by kernel_rfl) (by kernel_rfl) (fun _ _ _ h => h) (.inl ⟨by rfl, by intro w hSw; have hc6 := (hSw.cell (p := ⟨qq, 6, none⟩) hq0).trans j6; go_simp; with_reducible rfl⟩) hs0 ?_
    try simp only [Act.put, List.setIfInBounds_toArray, List.set_cons_zero, List.set_cons_succ]
    refine wpAnyH_ready (rs := [2, 8, 13]) (by kernel_rfl) (by simp) ?_
    refine AllReadyH.cons rfl (fun K hK => ?_) ?_
    · skip
      go_simp
      refine (lownP_any b d ap cp ps _ hpl HB3.out (HR0.out.p.keep hs0)).mono ?_
      rintro e w1 ⟨vl, LP, rfl, hLP, lp, hw⟩
      have hLl : LP.length = ps.length := by rw [← hLP, List.length_map]
      obtain ⟨gP, cP, hvl⟩ := Joins.ownsRow_form lp.own (by rw [hLl]; exact hz1)
      subst hvl
      rw [hLl] at lp
      rw [hLl]
      have owP := lp.ownP
      have hs1 := belt hs0 hw
      have hzw1 : w00.heap.size ≤ w1.heap.size := hw.size
      have P1 : Hid (OwnPs w00.heap.size w1.heap.size w1 (some ⟨gP, 0, none⟩) ps.length ps) := ⟨rfl, .inr ⟨gP, LP, rfl, hLP, owP⟩⟩
      refine hK.out _ _ hs1 (fun _ => ?_)
      clear hK K hw hLP owP lp hLl
      refine wpAnyH_ready (rs := [7, 8, 13]) (by kernel_rfl) (by simp) ?_
      refine AllReadyH.cons rfl (fun K hK => ?_) ?_
      · skip
        go_simp
        refine (lownG_any ag cg gs _ hgl (HR0.out.g.keep hs1) hcg).mono ?_
        rintro e w2 ⟨gG, cG, rfl, hcG, oz, hw⟩
        have hs2 := belt hs1 hw
        have hzw2 : w1.heap.size ≤ w2.heap.size := hw.size
        have P2 : Hid (OwnPs w00.heap.size w1.heap.size w2 (some ⟨gP, 0, none⟩) ps.length ps) := P1.out.keep hw
        have G2 : Hid (OwnLs w1.heap.size w2.heap.size w2 (some ⟨gG, 0, none⟩) gs.length gs) := ⟨rfl, .inr ⟨_, rfl, oz.lt, oz⟩⟩
        refine hK.out _ _ hs2 (fun _ => ?_)
        clear hK K hw oz
        refine wpAnyH_ready (rs := [8, 13]) (by kernel_rfl) (by simp) ?_
        refine AllReadyH.cons rfl (fun K hK => ?_) ?_
        · skip
          go_simp
          have hw : Below w2.heap.size w2 (w2.alloc (.cells #[] 45)) := belA _ _
          have hzz : (w2.alloc (.cells #[] 45)).heap.size = w2.heap.size + 1 := by simp
          have xx : (w2.alloc (.cells #[] 45)).ownsRow w2.heap.size 45 5 (.slice (some ⟨w2.heap.size, 0, none⟩) 0 0) 0 [] := own_lit5 _ _
          have hs3 := belt hs2 hw
          refine hK.out _ _ hs3 (fun _ => ?_)
          clear hK K
          generalize w2.alloc (.cells #[] 45) = w3 at *
          have hzw3 : w2.heap.size + 1 ≤ w3.heap.size := Nat.le_of_eq hzz.symm
          have P3 : Hid (OwnPs w00.heap.size w1.heap.size w3 (some ⟨gP, 0, none⟩) ps.length ps) := P2.out.keep hw
          have G3 : Hid (OwnLs w1.heap.size w2.heap.size w3 (some ⟨gG, 0, none⟩) gs.length gs) := G2.out.keep hw
          have Z3 : Hid (w3.ownsRow w2.heap.size 45 5 (.slice (some ⟨w2.heap.size, 0, none⟩) 0 0) 0 []) := xx
          clear hw xx hzz
          refine wpAnyH_ready (rs := [11, 13]) (by kernel_rfl) (by simp) ?_
          refine AllReadyH.cons rfl (fun K hK => ?_) ?_
          · skip
            rw [if_pos (by rfl)]
            have hzl : w2.heap.size < w3.heap.size := (Z3.out.lt _ rfl).2
            refine wp_append_rep _ _ rfl w2.heap.size rfl Z3.out hzl ar cr rs rfl (HR0.out.r.keep hs3) hcr hrl ?_
            intro aA cA w4 zA hoA hzA hzB hbl hgrow
            have hzw4 : w3.heap.size ≤ w4.heap.size := hgrow.size
            have hs4 : Below w0.heap.size w0 w4 := hs3.trans (hgrow.below (by have := hs3.size; omega) (fun z hz => by simp [Value.ownBlock] at hz; have := hs3.size; omega))
            have P4 : Hid (OwnPs w00.heap.size w1.heap.size w4 (some ⟨gP, 0, none⟩) ps.length ps) := P3.out.blocks (fun z h1 h2 h3 => hbl z h3 (by omega))
            have G4 : Hid (OwnLs w1.heap.size w2.heap.size w4 (some ⟨gG, 0, none⟩) gs.length gs) := G3.out.blocks (fun z h1 h2 h3 => hbl z h3 (by omega))
            have A4 : Hid (OwnEs tyRp 45 zA (zA + 1) w4 aA rs.length rs) := hoA
            refine hK.out _ _ hs4 (fun _ => ?_)
            clear hK K hgrow hbl hoA
            refine wpAnyH_take (i := 12) (oi := _) (v := _) rfl (by kernel_rfl) (by kernel_rfl) (by kernel_rfl) (fun _ _ _ h => h) (.inl ⟨by rfl, by intro w hSw; go_simp; with_reducible rfl⟩) hs4 ?_
            try simp only [Act.put, List.setIfInBounds_toArray, List.set_cons_zero, List.set_cons_succ]
            refine wpAnyH_ready (rs := [13]) (by kernel_rfl) (by simp) ?_
            refine AllReadyH.cons rfl (fun K hK => ?_) AllReadyH.nil
            go_simp
            have hw : Below w4.heap.size w4 (w4.alloc (.cells #[.int .i64 0, .int .i64 0, .slice none 0 0, .int .i64 0, .slice none 0 0, .slice none 0 0, .slice none 0 0] 36)) := belA _ _
            have hzz : (w4.alloc (.cells #[.int .i64 0, .int .i64 0, .slice none 0 0, .int .i64 0, .slice none 0 0, .slice none 0 0, .slice none 0 0] 36)).heap.size = w4.heap.size + 1 := by simp
            have xx : Wire.Bk (w4.alloc (.cells #[.int .i64 0, .int .i64 0, .slice none 0 0, .int .i64 0, .slice none 0 0, .slice none 0 0, .slice none 0 0] 36)) w4.heap.size #[.int .i64 0, .int .i64 0, .slice none 0 0, .int .i64 0, .slice none 0 0, .slice none 0 0, .slice none 0 0] 36 := Wire.Bk.new _ _ _
            have hs5 := belt hs4 hw
            refine hK.out _ _ hs5 (fun _ => ?_)
            clear hK K
            generalize w4.alloc (.cells #[.int .i64 0, .int .i64 0, .slice none 0 0, .int .i64 0, .slice none 0 0, .slice none 0 0, .slice none 0 0] 36) = w5 at *
            have hzw5 : w4.heap.size + 1 ≤ w5.heap.size := Nat.le_of_eq hzz.symm
            have P5 : Hid (OwnPs w00.heap.size w1.heap.size w5 (some ⟨gP, 0, none⟩) ps.length ps) := P4.out.keep hw
            have G5 : Hid (OwnLs w1.heap.size w2.heap.size w5 (some ⟨gG, 0, none⟩) gs.length gs) := G4.out.keep hw
            have A5 : Hid (OwnEs tyRp 45 zA (zA + 1) w5 aA rs.length rs) := A4.out.keep hw
            have X5 : Hid (Wire.Bk w5 w4.heap.size #[.int .i64 0, .int .i64 0, .slice none 0 0, .int .i64 0, .slice none 0 0, .slice none 0 0, .slice none 0 0] 36) := xx
            clear hw xx hzz
            refine wpAnyH_ready (rs := [14]) (by kernel_rfl) (by simp) ?_
            refine AllReadyH.cons rfl (fun K hK => ?_) AllReadyH.nil
            obtain ⟨q0, q1, q2, q3, q4, q5, q6⟩ := Wire.Bk.m7 X5.out
            obtain ⟨f0, f1, f2, f3, f4, f5, f6⟩ := Wire.Bk.g7 X5.out
            have xlt := X5.out.lt
            have hsl := hs5.size
            go_simp
            have num : w0.heap.size ≤ w4.heap.size ∧ w0.heap.size ≤ w00.heap.size ∧ w00.heap.size ≤ w1.heap.size ∧ w1.heap.size ≤ w5.heap.size ∧ w0.heap.size ≤ w1.heap.size ∧ w1.heap.size ≤ w2.heap.size ∧ w2.heap.size ≤ w5.heap.size ∧ w0.heap.size ≤ zA ∧ zA < w5.heap.size ∧ (w4.heap.size < w00.heap.size ∨ w1.heap.size ≤ w4.heap.size) ∧ (w4.heap.size < w1.heap.size ∨ w2.heap.size ≤ w4.heap.size) ∧ (w1.heap.size ≤ w1.heap.size ∨ w2.heap.size ≤ w00.heap.size) ∧ (zA < w00.heap.size ∨ w1.heap.size ≤ zA) ∧ (zA < w1.heap.size ∨ w2.heap.size ≤ zA) ∧ ¬ zA = w4.heap.size := by omega
            have bx1 := X5.out.setL [.int .i64 b, .int .i64 d, .slice (some ⟨gP, 0, none⟩) ps.length cP, .int .i64 ttl, .slice none 0 0, .slice (some ⟨gG, 0, none⟩) gs.length cG, .slice aA rs.length cA] 0
            rw [ovrE] at bx1
            have fin : CS w0 (Wire.setL w5 w4.heap.size 0 [.int .i64 b, .int .i64 d, .slice (some ⟨gP, 0, none⟩) ps.length cP, .int .i64 ttl, .slice none 0 0, .slice (some ⟨gG, 0, none⟩) gs.length cG, .slice aA rs.length cA]) w4.heap.size w00.heap.size w1.heap.size w1.heap.size w2.heap.size zA (some ⟨gP, 0, none⟩) (some ⟨gG, 0, none⟩) aA b d ttl ps gs rs cP cG cA (.slice none 0 0) := ⟨Wire.setL_below num.1 _ 0 hs5, bx1, by rw [Wire.setL_size]; exact num, P5.out.blocks (fun z h1 h2 _ => Wire.setL_oth (by omega) _ _ _), G5.out.blocks (fun z h1 h2 _ => Wire.setL_oth (by omega) _ _ _), A5.out.blocks (fun z h1 h2 _ => Wire.setL_oth (by omega) _ _ _), hcG, ⟨_, rfl⟩⟩
            refine hK.out _ _ fin.bel (fun _ => ?_)
            clear hK K q0 q1 q2 q3 q4 q5 q6 f0 f1 f2 f3 f4 f5 f6
            refine wpAnyH_done (by kernel_rfl) ?_ _
            have FIN : Hid (CS w0 _ _ _ _ _ _ _ _ _ _ b d ttl ps gs rs _ _ _ _) := fin
            clear fin bx1 num
            go_wp2_with fail
            go_meet
            exact ⟨_, _, _, _, _, _, _, _, _, _, _, _, rfl, FIN⟩
          refine AllReadyH.cons rfl (fun K hK => ?_) AllReadyH.nil
          go_simp
          have hw : Below w3.heap.size w3 (w3.alloc (.cells #[.int .i64 0, .int .i64 0, .slice none 0 0, .int .i64 0, .slice none 0 0, .slice none 0 0, .slice none 0 0] 36)) := belA _ _
          have hzz : (w3.alloc (.cells #[.int .i64 0, .int .i64 0, .slice none 0 0, .int .i64 0, .slice none 0 0, .slice none 0 0, .slice none 0 0] 36)).heap.size = w3.heap.size + 1 := by simp
          have xx : Wire.Bk (w3.alloc (.cells #[.int .i64 0, .int .i64 0, .slice none 0 0, .int .i64 0, .slice none 0 0, .slice none 0 0, .slice none 0 0] 36)) w3.heap.size #[.int .i64 0, .int .i64 0, .slice none 0 0, .int .i64 0, .slice none 0 0, .slice none 0 0, .slice none 0 0] 36 := Wire.Bk.new _ _ _
          have hs4 := belt hs3 hw
          refine hK.out _ _ hs4 (fun _ => ?_)
          clear hK K
          generalize w3.alloc (.cells #[.int .i64 0, .int .i64 0, .slice none 0 0, .int .i64 0, .slice none 0 0, .slice none 0 0, .slice none 0 0] 36) = w4 at *
          have hzw4 : w3.heap.size + 1 ≤ w4.heap.size := Nat.le_of_eq hzz.symm
          have P4 : Hid (OwnPs w00.heap.size w1.heap.size w4 (some ⟨gP, 0, none⟩) ps.length ps) := P3.out.keep hw
          have G4 : Hid (OwnLs w1.heap.size w2.heap.size w4 (some ⟨gG, 0, none⟩) gs.length gs) := G3.out.keep hw
          have Z4 : Hid (w4.ownsRow w2.heap.size 45 5 (.slice (some ⟨w2.heap.size, 0, none⟩) 0 0) 0 []) := own_blocks Z3.out (fun z hz => hw.block z (Z3.out.lt z hz).2)
          have X4 : Hid (Wire.Bk w4 w3.heap.size #[.int .i64 0, .int .i64 0, .slice none 0 0, .int .i64 0, .slice none 0 0, .slice none 0 0, .slice none 0 0] 36) := xx
          clear hw xx hzz
          refine wpAnyH_ready (rs := [11]) (by kernel_rfl) (by simp) ?_
          refine AllReadyH.cons rfl (fun K hK => ?_) AllReadyH.nil
          rw [if_pos (by rfl)]
          have hzl : w2.heap.size < w4.heap.size := (Z4.out.lt _ rfl).2
          refine wp_append_rep _ _ rfl w2.heap.size rfl Z4.out hzl ar cr rs rfl (HR0.out.r.keep hs4) hcr hrl ?_
          intro aA cA w5 zA hoA hzA hzB hbl hgrow
          have hzw5 : w4.heap.size ≤ w5.heap.size := hgrow.size
          have hs5 : Below w0.heap.size w0 w5 := hs4.trans (hgrow.below (by have := hs4.size; omega) (fun z hz => by simp [Value.ownBlock] at hz; have := hs4.size; omega))
          have P5 : Hid (OwnPs w00.heap.size w1.heap.size w5 (some ⟨gP, 0, none⟩) ps.length ps) := P4.out.blocks (fun z h1 h2 h3 => hbl z h3 (by omega))
          have G5 : Hid (OwnLs w1.heap.size w2.heap.size w5 (some ⟨gG, 0, none⟩) gs.length gs) := G4.out.blocks (fun z h1 h2 h3 => hbl z h3 (by omega))
          have X5 : Hid (Wire.Bk w5 w3.heap.size #[.int .i64 0, .int .i64 0, .slice none 0 0, .int .i64 0, .slice none 0 0, .slice none 0 0, .slice none 0 0] 36) := (hbl _ X4.out.lt (by omega)).trans X4.out
          have A5 : Hid (OwnEs tyRp 45 zA (zA + 1) w5 aA rs.length rs) := hoA
          refine hK.out _ _ hs5 (fun _ => ?_)
          clear hK K hgrow hbl hoA
          refine wpAnyH_take (i := 12) (oi := _) (v := _) rfl (by kernel_rfl) (by kernel_rfl) (by kernel_rfl) (fun _ _ _ h => h) (.inl ⟨by rfl, by intro w hSw; go_simp; with_reducible rfl⟩) hs5 ?_
          try simp only [Act.put, List.setIfInBounds_toArray, List.set_cons_zero, List.set_cons_succ]
          refine wpAnyH_ready (rs := [14]) (by kernel_rfl) (by simp) ?_
          refine AllReadyH.cons rfl (fun K hK => ?_) AllReadyH.nil
          obtain ⟨q0, q1, q2, q3, q4, q5, q6⟩ := Wire.Bk.m7 X5.out
          obtain ⟨f0, f1, f2, f3, f4, f5, f6⟩ := Wire.Bk.g7 X5.out
          have xlt := X5.out.lt
          have hsl := hs5.size
          go_simp
          have num : w0.heap.size ≤ w3.heap.size ∧ w0.heap.size ≤ w00.heap.size ∧ w00.heap.size ≤ w1.heap.size ∧ w1.heap.size ≤ w5.heap.size ∧ w0.heap.size ≤ w1.heap.size ∧ w1.heap.size ≤ w2.heap.size ∧ w2.heap.size ≤ w5.heap.size ∧ w0.heap.size ≤ zA ∧ zA < w5.heap.size ∧ (w3.heap.size < w00.heap.size ∨ w1.heap.size ≤ w3.heap.size) ∧ (w3.heap.size < w1.heap.size ∨ w2.heap.size ≤ w3.heap.size) ∧ (w1.heap.size ≤ w1.heap.size ∨ w2.heap.size ≤ w00.heap.size) ∧ (zA < w00.heap.size ∨ w1.heap.size ≤ zA) ∧ (zA < w1.heap.size ∨ w2.heap.size ≤ zA) ∧ ¬ zA = w3.heap.size := by omega
          have bx1 := X5.out.setL [.int .i64 b, .int .i64 d, .slice (some ⟨gP, 0, none⟩) ps.length cP, .int .i64 ttl, .slice none 0 0, .slice (some ⟨gG, 0, none⟩) gs.length cG, .slice aA rs.length cA] 0
          rw [ovrE] at bx1
          have fin : CS w0 (Wire.setL w5 w3.heap.size 0 [.int .i64 b, .int .i64 d, .slice (some ⟨gP, 0, none⟩) ps.length cP, .int .i64 ttl, .slice none 0 0, .slice (some ⟨gG, 0, none⟩) gs.length cG, .slice aA rs.length cA]) w3.heap.size w00.heap.size w1.heap.size w1.heap.size w2.heap.size zA (some ⟨gP, 0, none⟩) (some ⟨gG, 0, none⟩) aA b d ttl ps gs rs cP cG cA (.slice none 0 0) := ⟨Wire.setL_below num.1 _ 0 hs5, bx1, by rw [Wire.setL_size]; exact num, P5.out.blocks (fun z h1 h2 _ => Wire.setL_oth (by omega) _ _ _), G5.out.blocks (fun z h1 h2 _ => Wire.setL_oth (by omega) _ _ _), A5.out.blocks (fun z h1 h2 _ => Wire.setL_oth (by omega) _ _ _), hcG, ⟨_, rfl⟩⟩
          refine hK.out _ _ fin.bel (fun _ => ?_)
          clear hK K q0 q1 q2 q3 q4 q5 q6 f0 f1 f2 f3 f4 f5 f6
          refine wpAnyH_done (by kernel_rfl) ?_ _
          have FIN : Hid (CS w0 _ _ _ _ _ _ _ _ _ _ b d ttl ps gs rs _ _ _ _) := fin
          clear fin bx1 num
          go_wp2_with fail
          go_meet
          exact ⟨_, _, _, _, _, _, _, _, _, _, _, _, rfl, FIN⟩
        refine AllReadyH.cons rfl (fun K hK => ?_) AllReadyH.nil
        go_simp
        have hw : Below w2.heap.size w2 (w2.alloc (.cells #[.int .i64 0, .int .i64 0, .slice none 0 0, .int .i64 0, .slice none 0 0, .slice none 0 0, .slice none 0 0] 36)) := belA _ _
        have hzz : (w2.alloc (.cells #[.int .i64 0, .int .i64 0, .slice none 0 0, .int .i64 0, .slice none 0 0, .slice none 0 0, .slice none 0 0] 36)).heap.size = w2.heap.size + 1 := by simp
        have xx : Wire.Bk (w2.alloc (.cells #[.int .i64 0, .int .i64 0, .slice none 0 0, .int .i64 0, .slice none 0 0, .slice none 0 0, .slice none 0 0] 36)) w2.heap.size #[.int .i64 0, .int .i64 0, .slice none 0 0, .int .i64 0, .slice none 0 0, .slice none 0 0, .slice none 0 0] 36 := Wire.Bk.new _ _ _
        have hs3 := belt hs2 hw
        refine hK.out _ _ hs3 (fun _ => ?_)
        clear hK K
        generalize w2.alloc (.cells #[.int .i64 0, .int .i64 0, .slice none 0 0, .int .i64 0, .slice none 0 0, .slice none 0 0, .slice none 0 0] 36) = w3 at *
        have hzw3 : w2.heap.size + 1 ≤ w3.heap.size := Nat.le_of_eq hzz.symm
        have P3 : Hid (OwnPs w00.heap.size w1.heap.size w3 (some ⟨gP, 0, none⟩) ps.length ps) := P2.out.keep hw
        have G3 : Hid (OwnLs w1.heap.size w2.heap.size w3 (some ⟨gG, 0, none⟩) gs.length gs) := G2.out.keep hw
        have X3 : Hid (Wire.Bk w3 w2.heap.size #[.int .i64 0, .int .i64 0, .slice none 0 0, .int .i64 0, .slice none 0 0, .slice none 0 0, .slice none 0 0] 36) := xx
        clear hw xx hzz
        refine wpAnyH_ready (rs := [8]) (by kernel_rfl) (by simp) ?_
        refine AllReadyH.cons rfl (fun K hK => ?_) AllReadyH.nil
        go_simp
        have hw : Below w3.heap.size w3 (w3.alloc (.cells #[] 45)) := belA _ _
        have hzz : (w3.alloc (.cells #[] 45)).heap.size = w3.heap.size + 1 := by simp
        have xx : (w3.alloc (.cells #[] 45)).ownsRow w3.heap.size 45 5 (.slice (some ⟨w3.heap.size, 0, none⟩) 0 0) 0 [] := own_lit5 _ _
        have hs4 := belt hs3 hw
        refine hK.out _ _ hs4 (fun _ => ?_)
        clear hK K
        generalize w3.alloc (.cells #[] 45) = w4 at *
        have hzw4 : w3.heap.size + 1 ≤ w4.heap.size := Nat.le_of_eq hzz.symm
        have P4 : Hid (OwnPs w00.heap.size w1.heap.size w4 (some ⟨gP, 0, none⟩) ps.length ps) := P3.out.keep hw
        have G4 : Hid (OwnLs w1.heap.size w2.heap.size w4 (some ⟨gG, 0, none⟩) gs.length gs) := G3.out.keep hw
        have X4 : Hid (Wire.Bk w4 w2.heap.size #[.int .i64 0, .int .i64 0, .slice none 0 0, .int .i64 0, .slice none 0 0, .slice none 0 0, .slice none 0 0] 36) := X3.out.keep hw
        have Z4 : Hid (w4.ownsRow w3.heap.size 45 5 (.slice (some ⟨w3.heap.size, 0, none⟩) 0 0) 0 []) := xx
        clear hw xx hzz
        refine wpAnyH_ready (rs := [11]) (by kernel_rfl) (by simp) ?_
        refine AllReadyH.cons rfl (fun K hK => ?_) AllReadyH.nil
        rw [if_pos (by rfl)]
        have hzl : w3.heap.size < w4.heap.size := (Z4.out.lt _ rfl).2
        refine wp_append_rep _ _ rfl w3.heap.size rfl Z4.out hzl ar cr rs rfl (HR0.out.r.keep hs4) hcr hrl ?_
        intro aA cA w5 zA hoA hzA hzB hbl hgrow
        have hzw5 : w4.heap.size ≤ w5.heap.size := hgrow.size
        have hs5 : Below w0.heap.size w0 w5 := hs4.trans (hgrow.below (by have := hs4.size; omega) (fun z hz => by simp [Value.ownBlock] at hz; have := hs4.size; omega))
        have P5 : Hid (OwnPs w00.heap.size w1.heap.size w5 (some ⟨gP, 0, none⟩) ps.length ps) := P4.out.blocks (fun z h1 h2 h3 => hbl z h3 (by omega))
        have G5 : Hid (OwnLs w1.heap.size w2.heap.size w5 (some ⟨gG, 0, none⟩) gs.length gs) := G4.out.blocks (fun z h1 h2 h3 => hbl z h3 (by omega))
        have X5 : Hid (Wire.Bk w5 w2.heap.size #[.int .i64 0, .int .i64 0, .slice none 0 0, .int .i64 0, .slice none 0 0, .slice none 0 0, .slice none 0 0] 36) := (hbl _ X4.out.lt (by omega)).trans X4.out
        have A5 : Hid (OwnEs tyRp 45 zA (zA + 1) w5 aA rs.length rs) := hoA
        refine hK.out _ _ hs5 (fun _ => ?_)
        clear hK K hgrow hbl hoA
        refine wpAnyH_take (i := 12) (oi := _) (v := _) rfl (by kernel_rfl) (by kernel_rfl) (by kernel_rfl) (fun _ _ _ h => h) (.inl ⟨by rfl, by intro w hSw; go_simp; with_reducible rfl⟩) hs5 ?_
        try simp only [Act.put, List.setIfInBounds_toArray, List.set_cons_zero, List.set_cons_succ]
        refine wpAnyH_ready (rs := [14]) (by kernel_rfl) (by simp) ?_
        refine AllReadyH.cons rfl (fun K hK => ?_) AllReadyH.nil
        obtain ⟨q0, q1, q2, q3, q4, q5, q6⟩ := Wire.Bk.m7 X5.out
        obtain ⟨f0, f1, f2, f3, f4, f5, f6⟩ := Wire.Bk.g7 X5.out
        have xlt := X5.out.lt
        have hsl := hs5.size
        go_simp
        have num : w0.heap.size ≤ w2.heap.size ∧ w0.heap.size ≤ w00.heap.size ∧ w00.heap.size ≤ w1.heap.size ∧ w1.heap.size ≤ w5.heap.size ∧ w0.heap.size ≤ w1.heap.size ∧ w1.heap.size ≤ w2.heap.size ∧ w2.heap.size ≤ w5.heap.size ∧ w0.heap.size ≤ zA ∧ zA < w5.heap.size ∧ (w2.heap.size < w00.heap.size ∨ w1.heap.size ≤ w2.heap.size) ∧ (w2.heap.size < w1.heap.size ∨ w2.heap.size ≤ w2.heap.size) ∧ (w1.heap.size ≤ w1.heap.size ∨ w2.heap.size ≤ w00.heap.size) ∧ (zA < w00.heap.size ∨ w1.heap.size ≤ zA) ∧ (zA < w1.heap.size ∨ w2.heap.size ≤ zA) ∧ ¬ zA = w2.heap.size := by omega
        have bx1 := X5.out.setL [.int .i64 b, .int .i64 d, .slice (some ⟨gP, 0, none⟩) ps.length cP, .int .i64 ttl, .slice none 0 0, .slice (some ⟨gG, 0, none⟩) gs.length cG, .slice aA rs.length cA] 0
        rw [ovrE] at bx1
        have fin : CS w0 (Wire.setL w5 w2.heap.size 0 [.int .i64 b, .int .i64 d, .slice (some ⟨gP, 0, none⟩) ps.length cP, .int .i64 ttl, .slice none 0 0, .slice (some ⟨gG, 0, none⟩) gs.length cG, .slice aA rs.length cA]) w2.heap.size w00.heap.size w1.heap.size w1.heap.size w2.heap.size zA (some ⟨gP, 0, none⟩) (some ⟨gG, 0, none⟩) aA b d ttl ps gs rs cP cG cA (.slice none 0 0) := ⟨Wire.setL_below num.1 _ 0 hs5, bx1, by rw [Wire.setL_size]; exact num, P5.out.blocks (fun z h1 h2 _ => Wire.setL_oth (by omega) _ _ _), G5.out.blocks (fun z h1 h2 _ => Wire.setL_oth (by omega) _ _ _), A5.out.blocks (fun z h1 h2 _ => Wire.setL_oth (by omega) _ _ _), hcG, ⟨_, rfl⟩⟩
        refine hK.out _ _ fin.bel (fun _ => ?_)
        clear hK K q0 q1 q2 q3 q4 q5 q6 f0 f1 f2 f3 f4 f5 f6
        refine wpAnyH_done (by kernel_rfl) ?_ _
        have FIN : Hid (CS w0 _ _ _ _ _ _ _ _ _ _ b d ttl ps gs rs _ _ _ _) := fin
        clear fin bx1 num
        go_wp2_with fail
        go_meet
        exact ⟨_, _, _, _, _, _, _, _, _, _, _, _, rfl, FIN⟩
      refine AllReadyH.cons rfl (fun K hK => ?_) ?_
      · skip
        go_simp
        have hw : Below w1.heap.size w1 (w1.alloc (.cells #[] 45)) := belA _ _
        have hzz : (w1.alloc (.cells #[] 45)).heap.size = w1.heap.size + 1 := by simp
        have xx : (w1.alloc (.cells #[] 45)).ownsRow w1.heap.size 45 5 (.slice (some ⟨w1.heap.size, 0, none⟩) 0 0) 0 [] := own_lit5 _ _
        have hs2 := belt hs1 hw
        refine hK.out _ _ hs2 (fun _ => ?_)
        clear hK K
        generalize w1.alloc (.cells #[] 45) = w2 at *
        have hzw2 : w1.heap.size + 1 ≤ w2.heap.size := Nat.le_of_eq hzz.symm
        have P2 : Hid (OwnPs w00.heap.size w1.heap.size w2 (some ⟨gP, 0, none⟩) ps.length ps) := P1.out.keep hw
        have Z2 : Hid (w2.ownsRow w1.heap.size 45 5 (.slice (some ⟨w1.heap.size, 0, none⟩) 0 0) 0 []) := xx
        clear hw xx hzz
        refine wpAnyH_ready (rs := [7, 13]) (by kernel_rfl) (by simp) ?_
        refine AllReadyH.cons rfl (fun K hK => ?_) ?_
        · skip
          go_simp
          refine (lownG_any ag cg gs _ hgl (HR0.out.g.keep hs2) hcg).mono ?_
          rintro e w3 ⟨gG, cG, rfl, hcG, oz, hw⟩
          have hs3 := belt hs2 hw
          have hzw3 : w2.heap.size ≤ w3.heap.size := hw.size
          have P3 : Hid (OwnPs w00.heap.size w1.heap.size w3 (some ⟨gP, 0, none⟩) ps.length ps) := P2.out.keep hw
          have Z3 : Hid (w3.ownsRow w1.heap.size 45 5 (.slice (some ⟨w1.heap.size, 0, none⟩) 0 0) 0 []) := own_blocks Z2.out (fun z hz => hw.block z (Z2.out.lt z hz).2)
          have G3 : Hid (OwnLs w2.heap.size w3.heap.size w3 (some ⟨gG, 0, none⟩) gs.length gs) := ⟨rfl, .inr ⟨_, rfl, oz.lt, oz⟩⟩
          refine hK.out _ _ hs3 (fun _ => ?_)
          clear hK K hw oz
          refine wpAnyH_ready (rs := [11, 13]) (by kernel_rfl) (by simp) ?_
          refine AllReadyH.cons rfl (fun K hK => ?_) ?_
          · skip
            rw [if_pos (by rfl)]
            have hzl : w1.heap.size < w3.heap.size := (Z3.out.lt _ rfl).2
            refine wp_append_rep _ _ rfl w1.heap.size rfl Z3.out hzl ar cr rs rfl (HR0.out.r.keep hs3) hcr hrl ?_
            intro aA cA w4 zA hoA hzA hzB hbl hgrow
            have hzw4 : w3.heap.size ≤ w4.heap.size := hgrow.size
            have hs4 : Below w0.heap.size w0 w4 := hs3.trans (hgrow.below (by have := hs3.size; omega) (fun z hz => by simp [Value.ownBlock] at hz; have := hs3.size; omega))
            have P4 : Hid (OwnPs w00.heap.size w1.heap.size w4 (some ⟨gP, 0, none⟩) ps.length ps) := P3.out.blocks (fun z h1 h2 h3 => hbl z h3 (by omega))
            have G4 : Hid (OwnLs w2.heap.size w3.heap.size w4 (some ⟨gG, 0, none⟩) gs.length gs) := G3.out.blocks (fun z h1 h2 h3 => hbl z h3 (by omega))
            have A4 : Hid (OwnEs tyRp 45 zA (zA + 1) w4 aA rs.length rs) := hoA
            refine hK.out _ _ hs4 (fun _ => ?_)
            clear hK K hgrow hbl hoA
            refine wpAnyH_take (i := 12) (oi := _) (v := _) rfl (by kernel_rfl) (by kernel_rfl) (by kernel_rfl) (fun _ _ _ h => h) (.inl ⟨by rfl, by intro w hSw; go_simp; with_reducible rfl⟩) hs4 ?_
            try simp only [Act.put, List.setIfInBounds_toArray, List.set_cons_zero, List.set_cons_succ]
            refine wpAnyH_ready (rs := [13]) (by kernel_rfl) (by simp) ?_
            refine AllReadyH.cons rfl (fun K hK => ?_) AllReadyH.nil
            go_simp
            have hw : Below w4.heap.size w4 (w4.alloc (.cells #[.int .i64 0, .int .i64 0, .slice none 0 0, .int .i64 0, .slice none 0 0, .slice none 0 0, .slice none 0 0] 36)) := belA _ _
            have hzz : (w4.alloc (.cells #[.int .i64 0, .int .i64 0, .slice none 0 0, .int .i64 0, .slice none 0 0, .slice none 0 0, .slice none 0 0] 36)).heap.size = w4.heap.size + 1 := by simp
            have xx : Wire.Bk (w4.alloc (.cells #[.int .i64 0, .int .i64 0, .slice none 0 0, .int .i64 0, .slice none 0 0, .slice none 0 0, .slice none 0 0] 36)) w4.heap.size #[.int .i64 0, .int .i64 0, .slice none 0 0, .int .i64 0, .slice none 0 0, .slice none 0 0, .slice none 0 0] 36 := Wire.Bk.new _ _ _
            have hs5 := belt hs4 hw
            refine hK.out _ _ hs5 (fun _ => ?_)
            clear hK K
            generalize w4.alloc (.cells #[.int .i64 0, .int .i64 0, .slice none 0 0, .int .i64 0, .slice none 0 0, .slice none 0 0, .slice none 0 0] 36) = w5 at *
            have hzw5 : w4.heap.size + 1 ≤ w5.heap.size := Nat.le_of_eq hzz.symm
            have P5 : Hid (OwnPs w00.heap.size w1.heap.size w5 (some ⟨gP, 0, none⟩) ps.length ps) := P4.out.keep hw
            have G5 : Hid (OwnLs w2.heap.size w3.heap.size w5 (some ⟨gG, 0, none⟩) gs.length gs) := G4.out.keep hw
            have A5 : Hid (OwnEs tyRp 45 zA (zA + 1) w5 aA rs.length rs) := A4.out.keep hw
            have X5 : Hid (Wire.Bk w5 w4.heap.size #[.int .i64 0, .int .i64 0, .slice none 0 0, .int .i64 0, .slice none 0 0, .slice none 0 0, .slice none 0 0] 36) := xx
            clear hw xx hzz
            refine wpAnyH_ready (rs := [14]) (by kernel_rfl) (by simp) ?_
            refine AllReadyH.cons rfl (fun K hK => ?_) AllReadyH.nil
            obtain ⟨q0, q1, q2, q3, q4, q5, q6⟩ := Wire.Bk.m7 X5.out
            obtain ⟨f0, f1, f2, f3, f4, f5, f6⟩ := Wire.Bk.g7 X5.out
            have xlt := X5.out.lt
            have hsl := hs5.size
            go_simp
            have num : w0.heap.size ≤ w4.heap.size ∧ w0.heap.size ≤ w00.heap.size ∧ w00.heap.size ≤ w1.heap.size ∧ w1.heap.size ≤ w5.heap.size ∧ w0.heap.size ≤ w2.heap.size ∧ w2.heap.size ≤ w3.heap.size ∧ w3.heap.size ≤ w5.heap.size ∧ w0.heap.size ≤ zA ∧ zA < w5.heap.size ∧ (w4.heap.size < w00.heap.size ∨ w1.heap.size ≤ w4.heap.size) ∧ (w4.heap.size < w2.heap.size ∨ w3.heap.size ≤ w4.heap.size) ∧ (w1.heap.size ≤ w2.heap.size ∨ w3.heap.size ≤ w00.heap.size) ∧ (zA < w00.heap.size ∨ w1.heap.size ≤ zA) ∧ (zA < w2.heap.size ∨ w3.heap.size ≤ zA) ∧ ¬ zA = w4.heap.size := by omega
            have bx1 := X5.out.setL [.int .i64 b, .int .i64 d, .slice (some ⟨gP, 0, none⟩) ps.length cP, .int .i64 ttl, .slice none 0 0, .slice (some ⟨gG, 0, none⟩) gs.length cG, .slice aA rs.length cA] 0
            rw [ovrE] at bx1
            have fin : CS w0 (Wire.setL w5 w4.heap.size 0 [.int .i64 b, .int .i64 d, .slice (some ⟨gP, 0, none⟩) ps.length cP, .int .i64 ttl, .slice none 0 0, .slice (some ⟨gG, 0, none⟩) gs.length cG, .slice aA rs.length cA]) w4.heap.size w00.heap.size w1.heap.size w2.heap.size w3.heap.size zA (some ⟨gP, 0, none⟩) (some ⟨gG, 0, none⟩) aA b d ttl ps gs rs cP cG cA (.slice none 0 0) := ⟨Wire.setL_below num.1 _ 0 hs5, bx1, by rw [Wire.setL_size]; exact num, P5.out.blocks (fun z h1 h2 _ => Wire.setL_oth (by omega) _ _ _), G5.out.blocks (fun z h1 h2 _ => Wire.setL_oth (by omega) _ _ _), A5.out.blocks (fun z h1 h2 _ => Wire.setL_oth (by omega) _ _ _), hcG, ⟨_, rfl⟩⟩
            refine hK.out _ _ fin.bel (fun _ => ?_)
            clear hK K q0 q1 q2 q3 q4 q5 q6 f0 f1 f2 f3 f4 f5 f6
            refine wpAnyH_done (by kernel_rfl) ?_ _
            have FIN : Hid (CS w0 _ _ _ _ _ _ _ _ _ _ b d ttl ps gs rs _ _ _ _) := fin
            clear fin bx1 num
            go_wp2_with fail
            go_meet
            exact ⟨_, _, _, _, _, _, _, _, _, _, _, _, rfl, FIN⟩
          refine AllReadyH.cons rfl (fun K hK => ?_) AllReadyH.nil
          go_simp
          have hw : Below w3.heap.size w3 (w3.alloc (.cells #[.int .i64 0, .int .i64 0, .slice none 0 0, .int .i64 0, .slice none 0 0, .slice none 0 0, .slice none 0 0] 36)) := belA _ _
          have hzz : (w3.alloc (.cells #[.int .i64 0, .int .i64 0, .slice none 0 0, .int .i64 0, .slice none 0 0, .slice none 0 0, .slice none 0 0] 36)).heap.size = w3.heap.size + 1 := by simp
          have xx : Wire.Bk (w3.alloc (.cells #[.int .i64 0, .int .i64 0, .slice none 0 0, .int .i64 0, .slice none 0 0, .slice none 0 0, .slice none 0 0] 36)) w3.heap.size #[.int .i64 0, .int .i64 0, .slice none 0 0, .int .i64 0, .slice none 0 0, .slice none 0 0, .slice none 0 0] 36 := Wire.Bk.new _ _ _
          have hs4 := belt hs3 hw
          refine hK.out _ _ hs4 (fun _ => ?_)
          clear hK K
          generalize w3.alloc (.cells #[.int .i64 0, .int .i64 0, .slice none 0 0, .int .i64 0, .slice none 0 0, .slice none 0 0, .slice none 0 0] 36) = w4 at *
          have hzw4 : w3.heap.size + 1 ≤ w4.heap.size := Nat.le_of_eq hzz.symm
          have P4 : Hid (OwnPs w00.heap.size w1.heap.size w4 (some ⟨gP, 0, none⟩) ps.length ps) := P3.out.keep hw
          have G4 : Hid (OwnLs w2.heap.size w3.heap.size w4 (some ⟨gG, 0, none⟩) gs.length gs) := G3.out.keep hw
          have Z4 : Hid (w4.ownsRow w1.heap.size 45 5 (.slice (some ⟨w1.heap.size, 0, none⟩) 0 0) 0 []) := own_blocks Z3.out (fun z hz => hw.block z (Z3.out.lt z hz).2)
          have X4 : Hid (Wire.Bk w4 w3.heap.size #[.int .i64 0, .int .i64 0, .slice none 0 0, .int .i64 0, .slice none 0 0, .slice none 0 0, .slice none 0 0] 36) := xx
          clear hw xx hzz
          refine wpAnyH_ready (rs := [11]) (by kernel_rfl) (by simp) ?_
          refine AllReadyH.cons rfl (fun K hK => ?_) AllReadyH.nil
          rw [if_pos (by rfl)]
          have hzl : w1.heap.size < w4.heap.size := (Z4.out.lt _ rfl).2
          refine wp_append_rep _ _ rfl w1.heap.size rfl Z4.out hzl ar cr rs rfl (HR0.out.r.keep hs4) hcr hrl ?_
          intro aA cA w5 zA hoA hzA hzB hbl hgrow
          have hzw5 : w4.heap.size ≤ w5.heap.size := hgrow.size
          have hs5 : Below w0.heap.size w0 w5 := hs4.trans (hgrow.below (by have := hs4.size; omega) (fun z hz => by simp [Value.ownBlock] at hz; have := hs4.size; omega))
          have P5 : Hid (OwnPs w00.heap.size w1.heap.size w5 (some ⟨gP, 0, none⟩) ps.length ps) := P4.out.blocks (fun z h1 h2 h3 => hbl z h3 (by omega))
          have G5 : Hid (OwnLs w2.heap.size w3.heap.size w5 (some ⟨gG, 0, none⟩) gs.length gs) := G4.out.blocks (fun z h1 h2 h3 => hbl z h3 (by omega))
          have X5 : Hid (Wire.Bk w5 w3.heap.size #[.int .i64 0, .int .i64 0, .slice none 0 0, .int .i64 0, .slice none 0 0, .slice none 0 0, .slice none 0 0] 36) := (hbl _ X4.out.lt (by omega)).trans X4.out
          have A5 : Hid (OwnEs tyRp 45 zA (zA + 1) w5 aA rs.length rs) := hoA
          refine hK.out _ _ hs5 (fun _ => ?_)
          clear hK K hgrow hbl hoA
          refine wpAnyH_take (i := 12) (oi := _) (v := _) rfl (by kernel_rfl) (by kernel_rfl) (by kernel_rfl) (fun _ _ _ h => h) (.inl ⟨by rfl, by intro w hSw; go_simp; with_reducible rfl⟩) hs5 ?_
          try simp only [Act.put, List.setIfInBounds_toArray, List.set_cons_zero, List.set_cons_succ]
          refine wpAnyH_ready (rs := [14]) (by kernel_rfl) (by simp) ?_
          refine AllReadyH.cons rfl (fun K hK => ?_) AllReadyH.nil
          obtain ⟨q0, q1, q2, q3, q4, q5, q6⟩ := Wire.Bk.m7 X5.out
          obtain ⟨f0, f1, f2, f3, f4, f5, f6⟩ := Wire.Bk.g7 X5.out
          have xlt := X5.out.lt
          have hsl := hs5.size
          go_simp
          have num : w0.heap.size ≤ w3.heap.size ∧ w0.heap.size ≤ w00.heap.size ∧ w00.heap.size ≤ w1.heap.size ∧ w1.heap.size ≤ w5.heap.size ∧ w0.heap.size ≤ w2.heap.size ∧ w2.heap.size ≤ w3.heap.size ∧ w3.heap.size ≤ w5.heap.size ∧ w0.heap.size ≤ zA ∧ zA < w5.heap.size ∧ (w3.heap.size < w00.heap.size ∨ w1.heap.size ≤ w3.heap.size) ∧ (w3.heap.size < w2.heap.size ∨ w3.heap.size ≤ w3.heap.size) ∧ (w1.heap.size ≤ w2.heap.size ∨ w3.heap.size ≤ w00.heap.size) ∧ (zA < w00.heap.size ∨ w1.heap.size ≤ zA) ∧ (zA < w2.heap.size ∨ w3.heap.size ≤ zA) ∧ ¬ zA = w3.heap.size := by omega
          have bx1 := X5.out.setL [.int .i64 b, .int .i64 d, .slice (some ⟨gP, 0, none⟩) ps.length cP, .int .i64 ttl, .slice none 0 0, .slice (some ⟨gG, 0, none⟩) gs.length cG, .slice aA rs.length cA] 0
          rw [ovrE] at bx1
          have fin : CS w0 (Wire.setL w5 w3.heap.size 0 [.int .i64 b, .int .i64 d, .slice (some ⟨gP, 0, none⟩) ps.length cP, .int .i64 ttl, .slice none 0 0, .slice (some ⟨gG, 0, none⟩) gs.length cG, .slice aA rs.length cA]) w3.heap.size w00.heap.size w1.heap.size w2.heap.size w3.heap.size zA (some ⟨gP, 0, none⟩) (some ⟨gG, 0, none⟩) aA b d ttl ps gs rs cP cG cA (.slice none 0 0) := ⟨Wire.setL_below num.1 _ 0 hs5, bx1, by rw [Wire.setL_size]; exact num, P5.out.blocks (fun z h1 h2 _ => Wire.setL_oth (by omega) _ _ _), G5.out.blocks (fun z h1 h2 _ => Wire.setL_oth (by omega) _ _ _), A5.out.blocks (fun z h1 h2 _ => Wire.setL_oth (by omega) _ _ _), hcG, ⟨_, rfl⟩⟩
          refine hK.out _ _ fin.bel (fun _ => ?_)
          clear hK K q0 q1 q2 q3 q4 q5 q6 f0 f1 f2 f3 f4 f5 f6
          refine wpAnyH_done (by kernel_rfl) ?_ _
          have FIN : Hid (CS w0 _ _ _ _ _ _ _ _ _ _ b d ttl ps gs rs _ _ _ _) := fin
          clear fin bx1 num
          go_wp2_with fail
          go_meet
          exact ⟨_, _, _, _, _, _, _, _, _, _, _, _, rfl, FIN⟩
        refine AllReadyH.cons rfl (fun K hK => ?_) AllReadyH.nil
        go_simp
        have hw : Below w2.heap.size w2 (w2.alloc (.cells #[.int .i64 0, .int .i64 0, .slice none 0 0, .int .i64 0, .slice none 0 0, .slice none 0 0, .slice none 0 0] 36)) := belA _ _
        have hzz : (w2.alloc (.cells #[.int .i64 0, .int .i64 0, .slice none 0 0, .int .i64 0, .slice none 0 0, .slice none 0 0, .slice none 0 0] 36)).heap.size = w2.heap.size + 1 := by simp
        have xx : Wire.Bk (w2.alloc (.cells #[.int .i64 0, .int .i64 0, .slice none 0 0, .int .i64 0, .slice none 0 0, .slice none 0 0, .slice none 0 0] 36)) w2.heap.size #[.int .i64 0, .int .i64 0, .slice none 0 0, .int .i64 0, .slice none 0 0, .slice none 0 0, .slice none 0 0] 36 := Wire.Bk.new _ _ _
        have hs3 := belt hs2 hw
        refine hK.out _ _ hs3 (fun _ => ?_)
        clear hK K
        generalize w2.alloc (.cells #[.int .i64 0, .int .i64 0, .slice none 0 0, .int .i64 0, .slice none 0 0, .slice none 0 0, .slice none 0 0] 36) = w3 at *
        have hzw3 : w2.heap.size + 1 ≤ w3.heap.size := Nat.le_of_eq hzz.symm
        have P3 : Hid (OwnPs w00.heap.size w1.heap.size w3 (some ⟨gP, 0, none⟩) ps.length ps) := P2.out.keep hw
        have Z3 : Hid (w3.ownsRow w1.heap.size 45 5 (.slice (some ⟨w1.heap.size, 0, none⟩) 0 0) 0 []) := own_blocks Z2.out (fun z hz => hw.block z (Z2.out.lt z hz).2)
        have X3 : Hid (Wire.Bk w3 w2.heap.size #[.int .i64 0, .int .i64 0, .slice none 0 0, .int .i64 0, .slice none 0 0, .slice none 0 0, .slice none 0 0] 36) := xx
        clear hw xx hzz
        refine wpAnyH_ready (rs := [7]) (by kernel_rfl) (by simp) ?_
        refine AllReadyH.cons rfl (fun K hK => ?_) AllReadyH.nil
        go_simp
        refine (lownG_any ag cg gs _ hgl (HR0.out.g.keep hs3) hcg).mono ?_
        rintro e w4 ⟨gG, cG, rfl, hcG, oz, hw⟩
        have hs4 := belt hs3 hw
        have hzw4 : w3.heap.size ≤ w4.heap.size := hw.size
        have P4 : Hid (OwnPs w00.heap.size w1.heap.size w4 (some ⟨gP, 0, none⟩) ps.length ps) := P3.out.keep hw
        have X4 : Hid (Wire.Bk w4 w2.heap.size #[.int .i64 0, .int .i64 0, .slice none 0 0, .int .i64 0, .slice none 0 0, .slice none 0 0, .slice none 0 0] 36) := X3.out.keep hw
        have Z4 : Hid (w4.ownsRow w1.heap.size 45 5 (.slice (some ⟨w1.heap.size, 0, none⟩) 0 0) 0 []) := own_blocks Z3.out (fun z hz => hw.block z (Z3.out.lt z hz).2)
        have G4 : Hid (OwnLs w3.heap.size w4.heap.size w4 (some ⟨gG, 0, none⟩) gs.length gs) := ⟨rfl, .inr ⟨_, rfl, oz.lt, oz⟩⟩
        refine hK.out _ _ hs4 (fun _ => ?_)
        clear hK K hw oz
        refine wpAnyH_ready (rs := [11]) (by kernel_rfl) (by simp) ?_
        refine AllReadyH.cons rfl (fun K hK => ?_) AllReadyH.nil
        rw [if_pos (by rfl)]
        have hzl : w1.heap.size < w4.heap.size := (Z4.out.lt _ rfl).2
        refine wp_append_rep _ _ rfl w1.heap.size rfl Z4.out hzl ar cr rs rfl (HR0.out.r.keep hs4) hcr hrl ?_
        intro aA cA w5 zA hoA hzA hzB hbl hgrow
        have hzw5 : w4.heap.size ≤ w5.heap.size := hgrow.size
        have hs5 : Below w0.heap.size w0 w5 := hs4.trans (hgrow.below (by have := hs4.size; omega) (fun z hz => by simp [Value.ownBlock] at hz; have := hs4.size; omega))
        have P5 : Hid (OwnPs w00.heap.size w1.heap.size w5 (some ⟨gP, 0, none⟩) ps.length ps) := P4.out.blocks (fun z h1 h2 h3 => hbl z h3 (by omega))
        have G5 : Hid (OwnLs w3.heap.size w4.heap.size w5 (some ⟨gG, 0, none⟩) gs.length gs) := G4.out.blocks (fun z h1 h2 h3 => hbl z h3 (by omega))
        have X5 : Hid (Wire.Bk w5 w2.heap.size #[.int .i64 0, .int .i64 0, .slice none 0 0, .int .i64 0, .slice none 0 0, .slice none 0 0, .slice none 0 0] 36) := (hbl _ X4.out.lt (by omega)).trans X4.out
        have A5 : Hid (OwnEs tyRp 45 zA (zA + 1) w5 aA rs.length rs) := hoA
        refine hK.out _ _ hs5 (fun _ => ?_)
        clear hK K hgrow hbl hoA
        refine wpAnyH_take (i := 12) (oi := _) (v := _) rfl (by kernel_rfl) (by kernel_rfl) (by kernel_rfl) (fun _ _ _ h => h) (.inl ⟨by rfl, by intro w hSw; go_simp; with_reducible rfl⟩) hs5 ?_
        try simp only [Act.put, List.setIfInBounds_toArray, List.set_cons_zero, List.set_cons_succ]
        refine wpAnyH_ready (rs := [14]) (by kernel_rfl) (by simp) ?_
        refine AllReadyH.cons rfl (fun K hK => ?_) AllReadyH.nil
        obtain ⟨q0, q1, q2, q3, q4, q5, q6⟩ := Wire.Bk.m7 X5.out
        obtain ⟨f0, f1, f2, f3, f4, f5, f6⟩ := Wire.Bk.g7 X5.out
        have xlt := X5.out.lt
        have hsl := hs5.size
        go_simp
        have num : w0.heap.size ≤ w2.heap.size ∧ w0.heap.size ≤ w00.heap.size ∧ w00.heap.size ≤ w1.heap.size ∧ w1.heap.size ≤ w5.heap.size ∧ w0.heap.size ≤ w3.heap.size ∧ w3.heap.size ≤ w4.heap.size ∧ w4.heap.size ≤ w5.heap.size ∧ w0.heap.size ≤ zA ∧ zA < w5.heap.size ∧ (w2.heap.size < w00.heap.size ∨ w1.heap.size ≤ w2.heap.size) ∧ (w2.heap.size < w3.heap.size ∨ w4.heap.size ≤ w2.heap.size) ∧ (w1.heap.size ≤ w3.heap.size ∨ w4.heap.size ≤ w00.heap.size) ∧ (zA < w00.heap.size ∨ w1.heap.size ≤ zA) ∧ (zA < w3.heap.size ∨ w4.heap.size ≤ zA) ∧ ¬ zA = w2.heap.size := by omega
        have bx1 := X5.out.setL [.int .i64 b, .int .i64 d, .slice (some ⟨gP, 0, none⟩) ps.length cP, .int .i64 ttl, .slice none 0 0, .slice (some ⟨gG, 0, none⟩) gs.length cG, .slice aA rs.length cA] 0
        rw [ovrE] at bx1
        have fin : CS w0 (Wire.setL w5 w2.heap.size 0 [.int .i64 b, .int .i64 d, .slice (some ⟨gP, 0, none⟩) ps.length cP, .int .i64 ttl, .slice none 0 0, .slice (some ⟨gG, 0, none⟩) gs.length cG, .slice aA rs.length cA]) w2.heap.size w00.heap.size w1.heap.size w3.heap.size w4.heap.size zA (some ⟨gP, 0, none⟩) (some ⟨gG, 0, none⟩) aA b d ttl ps gs rs cP cG cA (.slice none 0 0) := ⟨Wire.setL_below num.1 _ 0 hs5, bx1, by rw [Wire.setL_size]; exact num, P5.out.blocks (fun z h1 h2 _ => Wire.setL_oth (by omega) _ _ _), G5.out.blocks (fun z h1 h2 _ => Wire.setL_oth (by omega) _ _ _), A5.out.blocks (fun z h1 h2 _ => Wire.setL_oth (by omega) _ _ _), hcG, ⟨_, rfl⟩⟩
        refine hK.out _ _ fin.bel (fun _ => ?_)
        clear hK K q0 q1 q2 q3 q4 q5 q6 f0 f1 f2 f3 f4 f5 f6
        refine wpAnyH_done (by kernel_rfl) ?_ _
        have FIN : Hid (CS w0 _ _ _ _ _ _ _ _ _ _ b d ttl ps gs rs _ _ _ _) := fin
        clear fin bx1 num
        go_wp2_with fail
        go_meet
        exact ⟨_, _, _, _, _, _, _, _, _, _, _, _, rfl, FIN⟩
      refine AllReadyH.cons rfl (fun K hK => ?_) AllReadyH.nil
      go_simp
      have hw : Below w1.heap.size w1 (w1.alloc (.cells #[.int .i64 0, .int .i64 0, .slice none 0 0, .int .i64 0, .slice none 0 0, .slice none 0 0, .slice none 0 0] 36)) := belA _ _
      have hzz : (w1.alloc (.cells #[.int .i64 0, .int .i64 0, .slice none 0 0, .int .i64 0, .slice none 0 0, .slice none 0 0, .slice none 0 0] 36)).heap.size = w1.heap.size + 1 := by simp
      have xx : Wire.Bk (w1.alloc (.cells #[.int .i64 0, .int .i64 0, .slice none 0 0, .int .i64 0, .slice none 0 0, .slice none 0 0, .slice none 0 0] 36)) w1.heap.size #[.int .i64 0, .int .i64 0, .slice none 0 0, .int .i64 0, .slice none 0 0, .slice none 0 0, .slice none 0 0] 36 := Wire.Bk.new _ _ _
      have hs2 := belt hs1 hw
      refine hK.out _ _ hs2 (fun _ => ?_)
      clear hK K
      generalize w1.alloc (.cells #[.int .i64 0, .int .i64 0, .slice none 0 0, .int .i64 0, .slice none 0 0, .slice none 0 0, .slice none 0 0] 36) = w2 at *
      have hzw2 : w1.heap.size + 1 ≤ w2.heap.size := Nat.le_of_eq hzz.symm
      have P2 : Hid (OwnPs w00.heap.size w1.heap.size w2 (some ⟨gP, 0, none⟩) ps.length ps) := P1.out.keep hw
      have X2 : Hid (Wire.Bk w2 w1.heap.size #[.int .i64 0, .int .i64 0, .slice none 0 0, .int .i64 0, .slice none 0 0, .slice none 0 0, .slice none 0 0] 36) := xx
      clear hw xx hzz
      refine wpAnyH_ready (rs := [7, 8]) (by kernel_rfl) (by simp) ?_
      refine AllReadyH.cons rfl (fun K hK => ?_) ?_
      · skip
        go_simp
        refine (lownG_any ag cg gs _ hgl (HR0.out.g.keep hs2) hcg).mono ?_
        rintro e w3 ⟨gG, cG, rfl, hcG, oz, hw⟩
        have hs3 := belt hs2 hw
        have hzw3 : w2.heap.size ≤ w3.heap.size := hw.size
        have P3 : Hid (OwnPs w00.heap.size w1.heap.size w3 (some ⟨gP, 0, none⟩) ps.length ps) := P2.out.keep hw
        have X3 : Hid (Wire.Bk w3 w1.heap.size #[.int .i64 0, .int .i64 0, .slice none 0 0, .int .i64 0, .slice none 0 0, .slice none 0 0, .slice none 0 0] 36) := X2.out.keep hw
        have G3 : Hid (OwnLs w2.heap.size w3.heap.size w3 (some ⟨gG, 0, none⟩) gs.length gs) := ⟨rfl, .inr ⟨_, rfl, oz.lt, oz⟩⟩
        refine hK.out _ _ hs3 (fun _ => ?_)
        clear hK K hw oz
        refine wpAnyH_ready (rs := [8]) (by kernel_rfl) (by simp) ?_
        refine AllReadyH.cons rfl (fun K hK => ?_) AllReadyH.nil
        go_simp
        have hw : Below w3.heap.size w3 (w3.alloc (.cells #[] 45)) := belA _ _
        have hzz : (w3.alloc (.cells #[] 45)).heap.size = w3.heap.size + 1 := by simp
        have xx : (w3.alloc (.cells #[] 45)).ownsRow w3.heap.size 45 5 (.slice (some ⟨w3.heap.size, 0, none⟩) 0 0) 0 [] := own_lit5 _ _
        have hs4 := belt hs3 hw
        refine hK.out _ _ hs4 (fun _ => ?_)
        clear hK K
        generalize w3.alloc (.cells #[] 45) = w4 at *
        have hzw4 : w3.heap.size + 1 ≤ w4.heap.size := Nat.le_of_eq hzz.symm
        have P4 : Hid (OwnPs w00.heap.size w1.heap.size w4 (some ⟨gP, 0, none⟩) ps.length ps) := P3.out.keep hw
        have G4 : Hid (OwnLs w2.heap.size w3.heap.size w4 (some ⟨gG, 0, none⟩) gs.length gs) := G3.out.keep hw
        have X4 : Hid (Wire.Bk w4 w1.heap.size #[.int .i64 0, .int .i64 0, .slice none 0 0, .int .i64 0, .slice none 0 0, .slice none 0 0, .slice none 0 0] 36) := X3.out.keep hw
        have Z4 : Hid (w4.ownsRow w3.heap.size 45 5 (.slice (some ⟨w3.heap.size, 0, none⟩) 0 0) 0 []) := xx
        clear hw xx hzz
        refine wpAnyH_ready (rs := [11]) (by kernel_rfl) (by simp) ?_
        refine AllReadyH.cons rfl (fun K hK => ?_) AllReadyH.nil
        rw [if_pos (by rfl)]
        have hzl : w3.heap.size < w4.heap.size := (Z4.out.lt _ rfl).2
        refine wp_append_rep _ _ rfl w3.heap.size rfl Z4.out hzl ar cr rs rfl (HR0.out.r.keep hs4) hcr hrl ?_
        intro aA cA w5 zA hoA hzA hzB hbl hgrow
        have hzw5 : w4.heap.size ≤ w5.heap.size := hgrow.size
        have hs5 : Below w0.heap.size w0 w5 := hs4.trans (hgrow.below (by have := hs4.size; omega) (fun z hz => by simp [Value.ownBlock] at hz; have := hs4.size; omega))
        have P5 : Hid (OwnPs w00.heap.size w1.heap.size w5 (some ⟨gP, 0, none⟩) ps.length ps) := P4.out.blocks (fun z h1 h2 h3 => hbl z h3 (by omega))
        have G5 : Hid (OwnLs w2.heap.size w3.heap.size w5 (some ⟨gG, 0, none⟩) gs.length gs) := G4.out.blocks (fun z h1 h2 h3 => hbl z h3 (by omega))
        have X5 : Hid (Wire.Bk w5 w1.heap.size #[.int .i64 0, .int .i64 0, .slice none 0 0, .int .i64 0, .slice none 0 0, .slice none 0 0, .slice none 0 0] 36) := (hbl _ X4.out.lt (by omega)).trans X4.out
        have A5 : Hid (OwnEs tyRp 45 zA (zA + 1) w5 aA rs.length rs) := hoA
        refine hK.out _ _ hs5 (fun _ => ?_)
        clear hK K hgrow hbl hoA
        refine wpAnyH_take (i := 12) (oi := _) (v := _) rfl (by kernel_rfl) (by kernel_rfl) (by kernel_rfl) (fun _ _ _ h => h) (.inl ⟨by rfl, by intro w hSw; go_simp; with_reducible rfl⟩) hs5 ?_
        try simp only [Act.put, List.setIfInBounds_toArray, List.set_cons_zero, List.set_cons_succ]
        refine wpAnyH_ready (rs := [14]) (by kernel_rfl) (by simp) ?_
        refine AllReadyH.cons rfl (fun K hK => ?_) AllReadyH.nil
        obtain ⟨q0, q1, q2, q3, q4, q5, q6⟩ := Wire.Bk.m7 X5.out
        obtain ⟨f0, f1, f2, f3, f4, f5, f6⟩ := Wire.Bk.g7 X5.out
        have xlt := X5.out.lt
        have hsl := hs5.size
        go_simp
        have num : w0.heap.size ≤ w1.heap.size ∧ w0.heap.size ≤ w00.heap.size ∧ w00.heap.size ≤ w1.heap.size ∧ w1.heap.size ≤ w5.heap.size ∧ w0.heap.size ≤ w2.heap.size ∧ w2.heap.size ≤ w3.heap.size ∧ w3.heap.size ≤ w5.heap.size ∧ w0.heap.size ≤ zA ∧ zA < w5.heap.size ∧ (w1.heap.size < w00.heap.size ∨ w1.heap.size ≤ w1.heap.size) ∧ (w1.heap.size < w2.heap.size ∨ w3.heap.size ≤ w1.heap.size) ∧ (w1.heap.size ≤ w2.heap.size ∨ w3.heap.size ≤ w00.heap.size) ∧ (zA < w00.heap.size ∨ w1.heap.size ≤ zA) ∧ (zA < w2.heap.size ∨ w3.heap.size ≤ zA) ∧ ¬ zA = w1.heap.size := by omega
        have bx1 := X5.out.setL [.int .i64 b, .int .i64 d, .slice (some ⟨gP, 0, none⟩) ps.length cP, .int .i64 ttl, .slice none 0 0, .slice (some ⟨gG, 0, none⟩) gs.length cG, .slice aA rs.length cA] 0
        rw [ovrE] at bx1
        have fin : CS w0 (Wire.setL w5 w1.heap.size 0 [.int .i64 b, .int .i64 d, .slice (some ⟨gP, 0, none⟩) ps.length cP, .int .i64 ttl, .slice none 0 0, .slice (some ⟨gG, 0, none⟩) gs.length cG, .slice aA rs.length cA]) w1.heap.size w00.heap.size w1.heap.size w2.heap.size w3.heap.size zA (some ⟨gP, 0, none⟩) (some ⟨gG, 0, none⟩) aA b d ttl ps gs rs cP cG cA (.slice none 0 0) := ⟨Wire.setL_below num.1 _ 0 hs5, bx1, by rw [Wire.setL_size]; exact num, P5.out.blocks (fun z h1 h2 _ => Wire.setL_oth (by omega) _ _ _), G5.out.blocks (fun z h1 h2 _ => Wire.setL_oth (by omega) _ _ _), A5.out.blocks (fun z h1 h2 _ => Wire.setL_oth (by omega) _ _ _), hcG, ⟨_, rfl⟩⟩
        refine hK.out _ _ fin.bel (fun _ => ?_)
        clear hK K q0 q1 q2 q3 q4 q5 q6 f0 f1 f2 f3 f4 f5 f6
        refine wpAnyH_done (by kernel_rfl) ?_ _
        have FIN : Hid (CS w0 _ _ _ _ _ _ _ _ _ _ b d ttl ps gs rs _ _ _ _) := fin
        clear fin bx1 num
        go_wp2_with fail
        go_meet
        exact ⟨_, _, _, _, _, _, _, _, _, _, _, _, rfl, FIN⟩
      refine AllReadyH.cons rfl (fun K hK => ?_) AllReadyH.nil
      go_simp
      have hw : Below w2.heap.size w2 (w2.alloc (.cells #[] 45)) := belA _ _
      have hzz : (w2.alloc (.cells #[] 45)).heap.size = w2.heap.size + 1 := by simp
      have xx : (w2.alloc (.cells #[] 45)).ownsRow w2.heap.size 45 5 (.slice (some ⟨w2.heap.size, 0, none⟩) 0 0) 0 [] := own_lit5 _ _
      have hs3 := belt hs2 hw
      refine hK.out _ _ hs3 (fun _ => ?_)
      clear hK K
      generalize w2.alloc (.cells #[] 45) = w3 at *
      have hzw3 : w2.heap.size + 1 ≤ w3.heap.size := Nat.le_of_eq hzz.symm
      have P3 : Hid (OwnPs w00.heap.size w1.heap.size w3 (some ⟨gP, 0, none⟩) ps.length ps) := P2.out.keep hw
      have X3 : Hid (Wire.Bk w3 w1.heap.size #[.int .i64 0, .int .i64 0, .slice none 0 0, .int .i64 0, .slice none 0 0, .slice none 0 0, .slice none 0 0] 36) := X2.out.keep hw
      have Z3 : Hid (w3.ownsRow w2.heap.size 45 5 (.slice (some ⟨w2.heap.size, 0, none⟩) 0 0) 0 []) := xx
      clear hw xx hzz
      refine wpAnyH_ready (rs := [7]) (by kernel_rfl) (by simp) ?_
      refine AllReadyH.cons rfl (fun K hK => ?_) AllReadyH.nil
      go_simp
      refine (lownG_any ag cg gs _ hgl (HR0.out.g.keep hs3) hcg).mono ?_
      rintro e w4 ⟨gG, cG, rfl, hcG, oz, hw⟩
      have hs4 := belt hs3 hw
      have hzw4 : w3.heap.size ≤ w4.heap.size := hw.size
      have P4 : Hid (OwnPs w00.heap.size w1.heap.size w4 (some ⟨gP, 0, none⟩) ps.length ps) := P3.out.keep hw
      have X4 : Hid (Wire.Bk w4 w1.heap.size #[.int .i64 0, .int .i64 0, .slice none 0 0, .int .i64 0, .slice none 0 0, .slice none 0 0, .slice none 0 0] 36) := X3.out.keep hw
      have Z4 : Hid (w4.ownsRow w2.heap.size 45 5 (.slice (some ⟨w2.heap.size, 0, none⟩) 0 0) 0 []) := own_blocks Z3.out (fun z hz => hw.block z (Z3.out.lt z hz).2)
      have G4 : Hid (OwnLs w3.heap.size w4.heap.size w4 (some ⟨gG, 0, none⟩) gs.length gs) := ⟨rfl, .inr ⟨_, rfl, oz.lt, oz⟩⟩
      refine hK.out _ _ hs4 (fun _ => ?_)
      clear hK K hw oz
      refine wpAnyH_ready (rs := [11]) (by kernel_rfl) (by simp) ?_
      refine AllReadyH.cons rfl (fun K hK => ?_) AllReadyH.nil
      rw [if_pos (by rfl)]
      have hzl : w2.heap.size < w4.heap.size := (Z4.out.lt _ rfl).2
      refine wp_append_rep _ _ rfl w2.heap.size rfl Z4.out hzl ar cr rs rfl (HR0.out.r.keep hs4) hcr hrl ?_
      intro aA cA w5 zA hoA hzA hzB hbl hgrow
      have hzw5 : w4.heap.size ≤ w5.heap.size := hgrow.size
      have hs5 : Below w0.heap.size w0 w5 := hs4.trans (hgrow.below (by have := hs4.size; omega) (fun z hz => by simp [Value.ownBlock] at hz; have := hs4.size; omega))
      have P5 : Hid (OwnPs w00.heap.size w1.heap.size w5 (some ⟨gP, 0, none⟩) ps.length ps) := P4.out.blocks (fun z h1 h2 h3 => hbl z h3 (by omega))
      have G5 : Hid (OwnLs w3.heap.size w4.heap.size w5 (some ⟨gG, 0, none⟩) gs.length gs) := G4.out.blocks (fun z h1 h2 h3 => hbl z h3 (by omega))
      have X5 : Hid (Wire.Bk w5 w1.heap.size #[.int .i64 0, .int .i64 0, .slice none 0 0, .int .i64 0, .slice none 0 0, .slice none 0 0, .slice none 0 0] 36) := (hbl _ X4.out.lt (by omega)).trans X4.out
      have A5 : Hid (OwnEs tyRp 45 zA (zA + 1) w5 aA rs.length rs) := hoA
      refine hK.out _ _ hs5 (fun _ => ?_)
      clear hK K hgrow hbl hoA
      refine wpAnyH_take (i := 12) (oi := _) (v := _) rfl (by kernel_rfl) (by kernel_rfl) (by kernel_rfl) (fun _ _ _ h => h) (.inl ⟨by rfl, by intro w hSw; go_simp; with_reducible rfl⟩) hs5 ?_
      try simp only [Act.put, List.setIfInBounds_toArray, List.set_cons_zero, List.set_cons_succ]
      refine wpAnyH_ready (rs := [14]) (by kernel_rfl) (by simp) ?_
      refine AllReadyH.cons rfl (fun K hK => ?_) AllReadyH.nil
      obtain ⟨q0, q1, q2, q3, q4, q5, q6⟩ := Wire.Bk.m7 X5.out
      obtain ⟨f0, f1, f2, f3, f4, f5, f6⟩ := Wire.Bk.g7 X5.out
      have xlt := X5.out.lt
      have hsl := hs5.size
      go_simp
      have num : w0.heap.size ≤ w1.heap.size ∧ w0.heap.size ≤ w00.heap.size ∧ w00.heap.size ≤ w1.heap.size ∧ w1.heap.size ≤ w5.heap.size ∧ w0.heap.size ≤ w3.heap.size ∧ w3.heap.size ≤ w4.heap.size ∧ w4.heap.size ≤ w5.heap.size ∧ w0.heap.size ≤ zA ∧ zA < w5.heap.size ∧ (w1.heap.size < w00.heap.size ∨ w1.heap.size ≤ w1.heap.size) ∧ (w1.heap.size < w3.heap.size ∨ w4.heap.size ≤ w1.heap.size) ∧ (w1.heap.size ≤ w3.heap.size ∨ w4.heap.size ≤ w00.heap.size) ∧ (zA < w00.heap.size ∨ w1.heap.size ≤ zA) ∧ (zA < w3.heap.size ∨ w4.heap.size ≤ zA) ∧ ¬ zA = w1.heap.size := by omega
      have bx1 := X5.out.setL [.int .i64 b, .int .i64 d, .slice (some ⟨gP, 0, none⟩) ps.length cP, .int .i64 ttl, .slice none 0 0, .slice (some ⟨gG, 0, none⟩) gs.length cG, .slice aA rs.length cA] 0
      rw [ovrE] at bx1
      have fin : CS w0 (Wire.setL w5 w1.heap.size 0 [.int .i64 b, .int .i64 d, .slice (some ⟨gP, 0, none⟩) ps.length cP, .int .i64 ttl, .slice none 0 0, .slice (some ⟨gG, 0, none⟩) gs.length cG, .slice aA rs.length cA]) w1.heap.size w00.heap.size w1.heap.size w3.heap.size w4.heap.size zA (some ⟨gP, 0, none⟩) (some ⟨gG, 0, none⟩) aA b d ttl ps gs rs cP cG cA (.slice none 0 0) := ⟨Wire.setL_below num.1 _ 0 hs5, bx1, by rw [Wire.setL_size]; exact num, P5.out.blocks (fun z h1 h2 _ => Wire.setL_oth (by omega) _ _ _), G5.out.blocks (fun z h1 h2 _ => Wire.setL_oth (by omega) _ _ _), A5.out.blocks (fun z h1 h2 _ => Wire.setL_oth (by omega) _ _ _), hcG, ⟨_, rfl⟩⟩
      refine hK.out _ _ fin.bel (fun _ => ?_)
      clear hK K q0 q1 q2 q3 q4 q5 q6 f0 f1 f2 f3 f4 f5 f6
      refine wpAnyH_done (by kernel_rfl) ?_ _
      have FIN : Hid (CS w0 _ _ _ _ _ _ _ _ _ _ b d ttl ps gs rs _ _ _ _) := fin
      clear fin bx1 num
      go_wp2_with fail
      go_meet
      exact ⟨_, _, _, _, _, _, _, _, _, _, _, _, rfl, FIN⟩
    refine AllReadyH.cons rfl (fun K hK => ?_) ?_
    · skip
      go_simp
      have hw : Below w00.heap.size w00 (w00.alloc (.cells #[] 45)) := belA _ _
      have hzz : (w00.alloc (.cells #[] 45)).heap.size = w00.heap.size + 1 := by simp
      have xx : (w00.alloc (.cells #[] 45)).ownsRow w00.heap.size 45 5 (.slice (some ⟨w00.heap.size, 0, none⟩) 0 0) 0 [] := own_lit5 _ _
      have hs1 := belt hs0 hw
      refine hK.out _ _ hs1 (fun _ => ?_)
      clear hK K
      generalize w00.alloc (.cells #[] 45) = w1 at *
      have hzw1 : w00.heap.size + 1 ≤ w1.heap.size := Nat.le_of_eq hzz.symm
      have Z1 : Hid (w1.ownsRow w00.heap.size 45 5 (.slice (some ⟨w00.heap.size, 0, none⟩) 0 0) 0 []) := xx
      clear hw xx hzz
      refine wpAnyH_ready (rs := [2, 13]) (by kernel_rfl) (by simp) ?_
      refine AllReadyH.cons rfl (fun K hK => ?_) ?_
      · skip
        go_simp
        refine (lownP_any b d ap cp ps _ hpl HB3.out (HR0.out.p.keep hs1)).mono ?_
        rintro e w2 ⟨vl, LP, rfl, hLP, lp, hw⟩
        have hLl : LP.length = ps.length := by rw [← hLP, List.length_map]
        obtain ⟨gP, cP, hvl⟩ := Joins.ownsRow_form lp.own (by rw [hLl]; exact hz1)
        subst hvl
        rw [hLl] at lp
        rw [hLl]
        have owP := lp.ownP
        have hs2 := belt hs1 hw
        have hzw2 : w1.heap.size ≤ w2.heap.size := hw.size
        have Z2 : Hid (w2.ownsRow w00.heap.size 45 5 (.slice (some ⟨w00.heap.size, 0, none⟩) 0 0) 0 []) := own_blocks Z1.out (fun z hz => hw.block z (Z1.out.lt z hz).2)
        have P2 : Hid (OwnPs w1.heap.size w2.heap.size w2 (some ⟨gP, 0, none⟩) ps.length ps) := ⟨rfl, .inr ⟨gP, LP, rfl, hLP, owP⟩⟩
        refine hK.out _ _ hs2 (fun _ => ?_)
        clear hK K hw hLP owP lp hLl
        refine wpAnyH_ready (rs := [7, 13]) (by kernel_rfl) (by simp) ?_
        refine AllReadyH.cons rfl (fun K hK => ?_) ?_
        · skip
          go_simp
          refine (lownG_any ag cg gs _ hgl (HR0.out.g.keep hs2) hcg).mono ?_
          rintro e w3 ⟨gG, cG, rfl, hcG, oz, hw⟩
          have hs3 := belt hs2 hw
          have hzw3 : w2.heap.size ≤ w3.heap.size := hw.size
          have P3 : Hid (OwnPs w1.heap.size w2.heap.size w3 (some ⟨gP, 0, none⟩) ps.length ps) := P2.out.keep hw
          have Z3 : Hid (w3.ownsRow w00.heap.size 45 5 (.slice (some ⟨w00.heap.size, 0, none⟩) 0 0) 0 []) := own_blocks Z2.out (fun z hz => hw.block z (Z2.out.lt z hz).2)
          have G3 : Hid (OwnLs w2.heap.size w3.heap.size w3 (some ⟨gG, 0, none⟩) gs.length gs) := ⟨rfl, .inr ⟨_, rfl, oz.lt, oz⟩⟩
          refine hK.out _ _ hs3 (fun _ => ?_)
          clear hK K hw oz
          refine wpAnyH_ready (rs := [11, 13]) (by kernel_rfl) (by simp) ?_
          refine AllReadyH.cons rfl (fun K hK => ?_) ?_
          · skip
            rw [if_pos (by rfl)]
            have hzl : w00.heap.size < w3.heap.size := (Z3.out.lt _ rfl).2
            refine wp_append_rep _ _ rfl w00.heap.size rfl Z3.out hzl ar cr rs rfl (HR0.out.r.keep hs3) hcr hrl ?_
            intro aA cA w4 zA hoA hzA hzB hbl hgrow
            have hzw4 : w3.heap.size ≤ w4.heap.size := hgrow.size
            have hs4 : Below w0.heap.size w0 w4 := hs3.trans (hgrow.below (by have := hs3.size; omega) (fun z hz => by simp [Value.ownBlock] at hz; have := hs3.size; omega))
            have P4 : Hid (OwnPs w1.heap.size w2.heap.size w4 (some ⟨gP, 0, none⟩) ps.length ps) := P3.out.blocks (fun z h1 h2 h3 => hbl z h3 (by omega))
            have G4 : Hid (OwnLs w2.heap.size w3.heap.size w4 (some ⟨gG, 0, none⟩) gs.length gs) := G3.out.blocks (fun z h1 h2 h3 => hbl z h3 (by omega))
            have A4 : Hid (OwnEs tyRp 45 zA (zA + 1) w4 aA rs.length rs) := hoA
            refine hK.out _ _ hs4 (fun _ => ?_)
            clear hK K hgrow hbl hoA
            refine wpAnyH_take (i := 12) (oi := _) (v := _) rfl (by kernel_rfl) (by kernel_rfl) (by kernel_rfl) (fun _ _ _ h => h) (.inl ⟨by rfl, by intro w hSw; go_simp; with_reducible rfl⟩) hs4 ?_
            try simp only [Act.put, List.setIfInBounds_toArray, List.set_cons_zero, List.set_cons_succ]
            refine wpAnyH_ready (rs := [13]) (by kernel_rfl) (by simp) ?_
            refine AllReadyH.cons rfl (fun K hK => ?_) AllReadyH.nil
            go_simp
            have hw : Below w4.heap.size w4 (w4.alloc (.cells #[.int .i64 0, .int .i64 0, .slice none 0 0, .int .i64 0, .slice none 0 0, .slice none 0 0, .slice none 0 0] 36)) := belA _ _
            have hzz : (w4.alloc (.cells #[.int .i64 0, .int .i64 0, .slice none 0 0, .int .i64 0, .slice none 0 0, .slice none 0 0, .slice none 0 0] 36)).heap.size = w4.heap.size + 1 := by simp
            have xx : Wire.Bk (w4.alloc (.cells #[.int .i64 0, .int .i64 0, .slice none 0 0, .int .i64 0, .slice none 0 0, .slice none 0 0, .slice none 0 0] 36)) w4.heap.size #[.int .i64 0, .int .i64 0, .slice none 0 0, .int .i64 0, .slice none 0 0, .slice none 0 0, .slice none 0 0] 36 := Wire.Bk.new _ _ _
            have hs5 := belt hs4 hw
            refine hK.out _ _ hs5 (fun _ => ?_)
            clear hK K
            generalize w4.alloc (.cells #[.int .i64 0, .int .i64 0, .slice none 0 0, .int .i64 0, .slice none 0 0, .slice none 0 0, .slice none 0 0] 36) = w5 at *
            have hzw5 : w4.heap.size + 1 ≤ w5.heap.size := Nat.le_of_eq hzz.symm
            have P5 : Hid (OwnPs w1.heap.size w2.heap.size w5 (some ⟨gP, 0, none⟩) ps.length ps) := P4.out.keep hw
            have G5 : Hid (OwnLs w2.heap.size w3.heap.size w5 (some ⟨gG, 0, none⟩) gs.length gs) := G4.out.keep hw
            have A5 : Hid (OwnEs tyRp 45 zA (zA + 1) w5 aA rs.length rs) := A4.out.keep hw
            have X5 : Hid (Wire.Bk w5 w4.heap.size #[.int .i64 0, .int .i64 0, .slice none 0 0, .int .i64 0, .slice none 0 0, .slice none 0 0, .slice none 0 0] 36) := xx
            clear hw xx hzz
            refine wpAnyH_ready (rs := [14]) (by kernel_rfl) (by simp) ?_
            refine AllReadyH.cons rfl (fun K hK => ?_) AllReadyH.nil
            obtain ⟨q0, q1, q2, q3, q4, q5, q6⟩ := Wire.Bk.m7 X5.out
            obtain ⟨f0, f1, f2, f3, f4, f5, f6⟩ := Wire.Bk.g7 X5.out
            have xlt := X5.out.lt
            have hsl := hs5.size
            go_simp
            have num : w0.heap.size ≤ w4.heap.size ∧ w0.heap.size ≤ w1.heap.size ∧ w1.heap.size ≤ w2.heap.size ∧ w2.heap.size ≤ w5.heap.size ∧ w0.heap.size ≤ w2.heap.size ∧ w2.heap.size ≤ w3.heap.size ∧ w3.heap.size ≤ w5.heap.size ∧ w0.heap.size ≤ zA ∧ zA < w5.heap.size ∧ (w4.heap.size < w1.heap.size ∨ w2.heap.size ≤ w4.heap.size) ∧ (w4.heap.size < w2.heap.size ∨ w3.heap.size ≤ w4.heap.size) ∧ (w2.heap.size ≤ w2.heap.size ∨ w3.heap.size ≤ w1.heap.size) ∧ (zA < w1.heap.size ∨ w2.heap.size ≤ zA) ∧ (zA < w2.heap.size ∨ w3.heap.size ≤ zA) ∧ ¬ zA = w4.heap.size := by omega
            have bx1 := X5.out.setL [.int .i64 b, .int .i64 d, .slice (some ⟨gP, 0, none⟩) ps.length cP, .int .i64 ttl, .slice none 0 0, .slice (some ⟨gG, 0, none⟩) gs.length cG, .slice aA rs.length cA] 0
            rw [ovrE] at bx1
            have fin : CS w0 (Wire.setL w5 w4.heap.size 0 [.int .i64 b, .int .i64 d, .slice (some ⟨gP, 0, none⟩) ps.length cP, .int .i64 ttl, .slice none 0 0, .slice (some ⟨gG, 0, none⟩) gs.length cG, .slice aA rs.length cA]) w4.heap.size w1.heap.size w2.heap.size w2.heap.size w3.heap.size zA (some ⟨gP, 0, none⟩) (some ⟨gG, 0, none⟩) aA b d ttl ps gs rs cP cG cA (.slice none 0 0) := ⟨Wire.setL_below num.1 _ 0 hs5, bx1, by rw [Wire.setL_size]; exact num, P5.out.blocks (fun z h1 h2 _ => Wire.setL_oth (by omega) _ _ _), G5.out.blocks (fun z h1 h2 _ => Wire.setL_oth (by omega) _ _ _), A5.out.blocks (fun z h1 h2 _ => Wire.setL_oth (by omega) _ _ _), hcG, ⟨_, rfl⟩⟩
            refine hK.out _ _ fin.bel (fun _ => ?_)
            clear hK K q0 q1 q2 q3 q4 q5 q6 f0 f1 f2 f3 f4 f5 f6
            refine wpAnyH_done (by kernel_rfl) ?_ _
            have FIN : Hid (CS w0 _ _ _ _ _ _ _ _ _ _ b d ttl ps gs rs _ _ _ _) := fin
            clear fin bx1 num
            go_wp2_with fail
            go_meet
            exact ⟨_, _, _, _, _, _, _, _, _, _, _, _, rfl, FIN⟩
          refine AllReadyH.cons rfl (fun K hK => ?_) AllReadyH.nil
          go_simp
          have hw : Below w3.heap.size w3 (w3.alloc (.cells #[.int .i64 0, .int .i64 0, .slice none 0 0, .int .i64 0, .slice none 0 0, .slice none 0 0, .slice none 0 0] 36)) := belA _ _
          have hzz : (w3.alloc (.cells #[.int .i64 0, .int .i64 0, .slice none 0 0, .int .i64 0, .slice none 0 0, .slice none 0 0, .slice none 0 0] 36)).heap.size = w3.heap.size + 1 := by simp
          have xx : Wire.Bk (w3.alloc (.cells #[.int .i64 0, .int .i64 0, .slice none 0 0, .int .i64 0, .slice none 0 0, .slice none 0 0, .slice none 0 0] 36)) w3.heap.size #[.int .i64 0, .int .i64 0, .slice none 0 0, .int .i64 0, .slice none 0 0, .slice none 0 0, .slice none 0 0] 36 := Wire.Bk.new _ _ _
          have hs4 := belt hs3 hw
          refine hK.out _ _ hs4 (fun _ => ?_)
          clear hK K
          generalize w3.alloc (.cells #[.int .i64 0, .int .i64 0, .slice none 0 0, .int .i64 0, .slice none 0 0, .slice none 0 0, .slice none 0 0] 36) = w4 at *
          have hzw4 : w3.heap.size + 1 ≤ w4.heap.size := Nat.le_of_eq hzz.symm
          have P4 : Hid (OwnPs w1.heap.size w2.heap.size w4 (some ⟨gP, 0, none⟩) ps.length ps) := P3.out.keep hw
          have G4 : Hid (OwnLs w2.heap.size w3.heap.size w4 (some ⟨gG, 0, none⟩) gs.length gs) := G3.out.keep hw
          have Z4 : Hid (w4.ownsRow w00.heap.size 45 5 (.slice (some ⟨w00.heap.size, 0, none⟩) 0 0) 0 []) := own_blocks Z3.out (fun z hz => hw.block z (Z3.out.lt z hz).2)
          have X4 : Hid (Wire.Bk w4 w3.heap.size #[.int .i64 0, .int .i64 0, .slice none 0 0, .int .i64 0, .slice none 0 0, .slice none 0 0, .slice none 0 0] 36) := xx
          clear hw xx hzz
          refine wpAnyH_ready (rs := [11]) (by kernel_rfl) (by simp) ?_
          refine AllReadyH.cons rfl (fun K hK => ?_) AllReadyH.nil
          rw [if_pos (by rfl)]
          have hzl : w00.heap.size < w4.heap.size := (Z4.out.lt _ rfl).2
          refine wp_append_rep _ _ rfl w00.heap.size rfl Z4.out hzl ar cr rs rfl (HR0.out.r.keep hs4) hcr hrl ?_
          intro aA cA w5 zA hoA hzA hzB hbl hgrow
          have hzw5 : w4.heap.size ≤ w5.heap.size := hgrow.size
          have hs5 : Below w0.heap.size w0 w5 := hs4.trans (hgrow.below (by have := hs4.size; omega) (fun z hz => by simp [Value.ownBlock] at hz; have := hs4.size; omega))
          have P5 : Hid (OwnPs w1.heap.size w2.heap.size w5 (some ⟨gP, 0, none⟩) ps.length ps) := P4.out.blocks (fun z h1 h2 h3 => hbl z h3 (by omega))
          have G5 : Hid (OwnLs w2.heap.size w3.heap.size w5 (some ⟨gG, 0, none⟩) gs.length gs) := G4.out.blocks (fun z h1 h2 h3 => hbl z h3 (by omega))
          have X5 : Hid (Wire.Bk w5 w3.heap.size #[.int .i64 0, .int .i64 0, .slice none 0 0, .int .i64 0, .slice none 0 0, .slice none 0 0, .slice none 0 0] 36) := (hbl _ X4.out.lt (by omega)).trans X4.out
          have A5 : Hid (OwnEs tyRp 45 zA (zA + 1) w5 aA rs.length rs) := hoA
          refine hK.out _ _ hs5 (fun _ => ?_)
          clear hK K hgrow hbl hoA
          refine wpAnyH_take (i := 12) (oi := _) (v := _) rfl (by kernel_rfl) (by kernel_rfl) (by kernel_rfl) (fun _ _ _ h => h) (.inl ⟨by rfl, by intro w hSw; go_simp; with_reducible rfl⟩) hs5 ?_
          try simp only [Act.put, List.setIfInBounds_toArray, List.set_cons_zero, List.set_cons_succ]
          refine wpAnyH_ready (rs := [14]) (by kernel_rfl) (by simp) ?_
          refine AllReadyH.cons rfl (fun K hK => ?_) AllReadyH.nil
          obtain ⟨q0, q1, q2, q3, q4, q5, q6⟩ := Wire.Bk.m7 X5.out
          obtain ⟨f0, f1, f2, f3, f4, f5, f6⟩ := Wire.Bk.g7 X5.out
          have xlt := X5.out.lt
          have hsl := hs5.size
          go_simp
          have num : w0.heap.size ≤ w3.heap.size ∧ w0.heap.size ≤ w1.heap.size ∧ w1.heap.size ≤ w2.heap.size ∧ w2.heap.size ≤ w5.heap.size ∧ w0.heap.size ≤ w2.heap.size ∧ w2.heap.size ≤ w3.heap.size ∧ w3.heap.size ≤ w5.heap.size ∧ w0.heap.size ≤ zA ∧ zA < w5.heap.size ∧ (w3.heap.size < w1.heap.size ∨ w2.heap.size ≤ w3.heap.size) ∧ (w3.heap.size < w2.heap.size ∨ w3.heap.size ≤ w3.heap.size) ∧ (w2.heap.size ≤ w2.heap.size ∨ w3.heap.size ≤ w1.heap.size) ∧ (zA < w1.heap.size ∨ w2.heap.size ≤ zA) ∧ (zA < w2.heap.size ∨ w3.heap.size ≤ zA) ∧ ¬ zA = w3.heap.size := by omega
          have bx1 := X5.out.setL [.int .i64 b, .int .i64 d, .slice (some ⟨gP, 0, none⟩) ps.length cP, .int .i64 ttl, .slice none 0 0, .slice (some ⟨gG, 0, none⟩) gs.length cG, .slice aA rs.length cA] 0
          rw [ovrE] at bx1
          have fin : CS w0 (Wire.setL w5 w3.heap.size 0 [.int .i64 b, .int .i64 d, .slice (some ⟨gP, 0, none⟩) ps.length cP, .int .i64 ttl, .slice none 0 0, .slice (some ⟨gG, 0, none⟩) gs.length cG, .slice aA rs.length cA]) w3.heap.size w1.heap.size w2.heap.size w2.heap.size w3.heap.size zA (some ⟨gP, 0, none⟩) (some ⟨gG, 0, none⟩) aA b d ttl ps gs rs cP cG cA (.slice none 0 0) := ⟨Wire.setL_below num.1 _ 0 hs5, bx1, by rw [Wire.setL_size]; exact num, P5.out.blocks (fun z h1 h2 _ => Wire.setL_oth (by omega) _ _ _), G5.out.blocks (fun z h1 h2 _ => Wire.setL_oth (by omega) _ _ _), A5.out.blocks (fun z h1 h2 _ => Wire.setL_oth (by omega) _ _ _), hcG, ⟨_, rfl⟩⟩
          refine hK.out _ _ fin.bel (fun _ => ?_)
          clear hK K q0 q1 q2 q3 q4 q5 q6 f0 f1 f2 f3 f4 f5 f6
          refine wpAnyH_done (by kernel_rfl) ?_ _
          have FIN : Hid (CS w0 _ _ _ _ _ _ _ _ _ _ b d ttl ps gs rs _ _ _ _) := fin
          clear fin bx1 num
          go_wp2_with fail
          go_meet
          exact ⟨_, _, _, _, _, _, _, _, _, _, _, _, rfl, FIN⟩
        refine AllReadyH.cons rfl (fun K hK => ?_) AllReadyH.nil
        go_simp
        have hw : Below w2.heap.size w2 (w2.alloc (.cells #[.int .i64 0, .int .i64 0, .slice none 0 0, .int .i64 0, .slice none 0 0, .slice none 0 0, .slice none 0 0] 36)) := belA _ _
        have hzz : (w2.alloc (.cells #[.int .i64 0, .int .i64 0, .slice none 0 0, .int .i64 0, .slice none 0 0, .slice none 0 0, .slice none 0 0] 36)).heap.size = w2.heap.size + 1 := by simp
        have xx : Wire.Bk (w2.alloc (.cells #[.int .i64 0, .int .i64 0, .slice none 0 0, .int .i64 0, .slice none 0 0, .slice none 0 0, .slice none 0 0] 36)) w2.heap.size #[.int .i64 0, .int .i64 0, .slice none 0 0, .int .i64 0, .slice none 0 0, .slice none 0 0, .slice none 0 0] 36 := Wire.Bk.new _ _ _
        have hs3 := belt hs2 hw
        refine hK.out _ _ hs3 (fun _ => ?_)
        clear hK K
        generalize w2.alloc (.cells #[.int .i64 0, .int .i64 0, .slice none 0 0, .int .i64 0, .slice none 0 0, .slice none 0 0, .slice none 0 0] 36) = w3 at *
        have hzw3 : w2.heap.size + 1 ≤ w3.heap.size := Nat.le_of_eq hzz.symm
        have P3 : Hid (OwnPs w1.heap.size w2.heap.size w3 (some ⟨gP, 0, none⟩) ps.length ps) := P2.out.keep hw
        have Z3 : Hid (w3.ownsRow w00.heap.size 45 5 (.slice (some ⟨w00.heap.size, 0, none⟩) 0 0) 0 []) := own_blocks Z2.out (fun z hz => hw.block z (Z2.out.lt z hz).2)
        have X3 : Hid (Wire.Bk w3 w2.heap.size #[.int .i64 0, .int .i64 0, .slice none 0 0, .int .i64 0, .slice none 0 0, .slice none 0 0, .slice none 0 0] 36) := xx
        clear hw xx hzz
        refine wpAnyH_ready (rs := [7]) (by kernel_rfl) (by simp) ?_
        refine AllReadyH.cons rfl (fun K hK => ?_) AllReadyH.nil
        go_simp
        refine (lownG_any ag cg gs _ hgl (HR0.out.g.keep hs3) hcg).mono ?_
        rintro e w4 ⟨gG, cG, rfl, hcG, oz, hw⟩
        have hs4 := belt hs3 hw
        have hzw4 : w3.heap.size ≤ w4.heap.size := hw.size
        have P4 : Hid (OwnPs w1.heap.size w2.heap.size w4 (some ⟨gP, 0, none⟩) ps.length ps) := P3.out.keep hw
        have X4 : Hid (Wire.Bk w4 w2.heap.size #[.int .i64 0, .int .i64 0, .slice none 0 0, .int .i64 0, .slice none 0 0, .slice none 0 0, .slice none 0 0] 36) := X3.out.keep hw
        have Z4 : Hid (w4.ownsRow w00.heap.size 45 5 (.slice (some ⟨w00.heap.size, 0, none⟩) 0 0) 0 []) := own_blocks Z3.out (fun z hz => hw.block z (Z3.out.lt z hz).2)
        have G4 : Hid (OwnLs w3.heap.size w4.heap.size w4 (some ⟨gG, 0, none⟩) gs.length gs) := ⟨rfl, .inr ⟨_, rfl, oz.lt, oz⟩⟩
        refine hK.out _ _ hs4 (fun _ => ?_)
        clear hK K hw oz
        refine wpAnyH_ready (rs := [11]) (by kernel_rfl) (by simp) ?_
        refine AllReadyH.cons rfl (fun K hK => ?_) AllReadyH.nil
        rw [if_pos (by rfl)]
        have hzl : w00.heap.size < w4.heap.size := (Z4.out.lt _ rfl).2
        refine wp_append_rep _ _ rfl w00.heap.size rfl Z4.out hzl ar cr rs rfl (HR0.out.r.keep hs4) hcr hrl ?_
        intro aA cA w5 zA hoA hzA hzB hbl hgrow
        have hzw5 : w4.heap.size ≤ w5.heap.size := hgrow.size
        have hs5 : Below w0.heap.size w0 w5 := hs4.trans (hgrow.below (by have := hs4.size; omega) (fun z hz => by simp [Value.ownBlock] at hz; have := hs4.size; omega))
        have P5 : Hid (OwnPs w1.heap.size w2.heap.size w5 (some ⟨gP, 0, none⟩) ps.length ps) := P4.out.blocks (fun z h1 h2 h3 => hbl z h3 (by omega))
        have G5 : Hid (OwnLs w3.heap.size w4.heap.size w5 (some ⟨gG, 0, none⟩) gs.length gs) := G4.out.blocks (fun z h1 h2 h3 => hbl z h3 (by omega))
        have X5 : Hid (Wire.Bk w5 w2.heap.size #[.int .i64 0, .int .i64 0, .slice none 0 0, .int .i64 0, .slice none 0 0, .slice none 0 0, .slice none 0 0] 36) := (hbl _ X4.out.lt (by omega)).trans X4.out
        have A5 : Hid (OwnEs tyRp 45 zA (zA + 1) w5 aA rs.length rs) := hoA
        refine hK.out _ _ hs5 (fun _ => ?_)
        clear hK K hgrow hbl hoA
        refine wpAnyH_take (i := 12) (oi := _) (v := _) rfl (by kernel_rfl) (by kernel_rfl) (by kernel_rfl) (fun _ _ _ h => h) (.inl ⟨by rfl, by intro w hSw; go_simp; with_reducible rfl⟩) hs5 ?_
        try simp only [Act.put, List.setIfInBounds_toArray, List.set_cons_zero, List.set_cons_succ]
        refine wpAnyH_ready (rs := [14]) (by kernel_rfl) (by simp) ?_
        refine AllReadyH.cons rfl (fun K hK => ?_) AllReadyH.nil
        obtain ⟨q0, q1, q2, q3, q4, q5, q6⟩ := Wire.Bk.m7 X5.out
        obtain ⟨f0, f1, f2, f3, f4, f5, f6⟩ := Wire.Bk.g7 X5.out
        have xlt := X5.out.lt
        have hsl := hs5.size
        go_simp
        have num : w0.heap.size ≤ w2.heap.size ∧ w0.heap.size ≤ w1.heap.size ∧ w1.heap.size ≤ w2.heap.size ∧ w2.heap.size ≤ w5.heap.size ∧ w0.heap.size ≤ w3.heap.size ∧ w3.heap.size ≤ w4.heap.size ∧ w4.heap.size ≤ w5.heap.size ∧ w0.heap.size ≤ zA ∧ zA < w5.heap.size ∧ (w2.heap.size < w1.heap.size ∨ w2.heap.size ≤ w2.heap.size) ∧ (w2.heap.size < w3.heap.size ∨ w4.heap.size ≤ w2.heap.size) ∧ (w2.heap.size ≤ w3.heap.size ∨ w4.heap.size ≤ w1.heap.size) ∧ (zA < w1.heap.size ∨ w2.heap.size ≤ zA) ∧ (zA < w3.heap.size ∨ w4.heap.size ≤ zA) ∧ ¬ zA = w2.heap.size := by omega
        have bx1 := X5.out.setL [.int .i64 b, .int .i64 d, .slice (some ⟨gP, 0, none⟩) ps.length cP, .int .i64 ttl, .slice none 0 0, .slice (some ⟨gG, 0, none⟩) gs.length cG, .slice aA rs.length cA] 0
        rw [ovrE] at bx1
        have fin : CS w0 (Wire.setL w5 w2.heap.size 0 [.int .i64 b, .int .i64 d, .slice (some ⟨gP, 0, none⟩) ps.length cP, .int .i64 ttl, .slice none 0 0, .slice (some ⟨gG, 0, none⟩) gs.length cG, .slice aA rs.length cA]) w2.heap.size w1.heap.size w2.heap.size w3.heap.size w4.heap.size zA (some ⟨gP, 0, none⟩) (some ⟨gG, 0, none⟩) aA b d ttl ps gs rs cP cG cA (.slice none 0 0) := ⟨Wire.setL_below num.1 _ 0 hs5, bx1, by rw [Wire.setL_size]; exact num, P5.out.blocks (fun z h1 h2 _ => Wire.setL_oth (by omega) _ _ _), G5.out.blocks (fun z h1 h2 _ => Wire.setL_oth (by omega) _ _ _), A5.out.blocks (fun z h1 h2 _ => Wire.setL_oth (by omega) _ _ _), hcG, ⟨_, rfl⟩⟩
        refine hK.out _ _ fin.bel (fun _ => ?_)
        clear hK K q0 q1 q2 q3 q4 q5 q6 f0 f1 f2 f3 f4 f5 f6
        refine wpAnyH_done (by kernel_rfl) ?_ _
        have FIN : Hid (CS w0 _ _ _ _ _ _ _ _ _ _ b d ttl ps gs rs _ _ _ _) := fin
        clear fin bx1 num
        go_wp2_with fail
        go_meet
        exact ⟨_, _, _, _, _, _, _, _, _, _, _, _, rfl, FIN⟩
      refine AllReadyH.cons rfl (fun K hK => ?_) AllReadyH.nil
      go_simp
      have hw : Below w1.heap.size w1 (w1.alloc (.cells #[.int .i64 0, .int .i64 0, .slice none 0 0, .int .i64 0, .slice none 0 0, .slice none 0 0, .slice none 0 0] 36)) := belA _ _
      have hzz : (w1.alloc (.cells #[.int .i64 0, .int .i64 0, .slice none 0 0, .int .i64 0, .slice none 0 0, .slice none 0 0, .slice none 0 0] 36)).heap.size = w1.heap.size + 1 := by simp
      have xx : Wire.Bk (w1.alloc (.cells #[.int .i64 0, .int .i64 0, .slice none 0 0, .int .i64 0, .slice none 0 0, .slice none 0 0, .slice none 0 0] 36)) w1.heap.size #[.int .i64 0, .int .i64 0, .slice none 0 0, .int .i64 0, .slice none 0 0, .slice none 0 0, .slice none 0 0] 36 := Wire.Bk.new _ _ _
      have hs2 := belt hs1 hw
      refine hK.out _ _ hs2 (fun _ => ?_)
      clear hK K
      generalize w1.alloc (.cells #[.int .i64 0, .int .i64 0, .slice none 0 0, .int .i64 0, .slice none 0 0, .slice none 0 0, .slice none 0 0] 36) = w2 at *
      have hzw2 : w1.heap.size + 1 ≤ w2.heap.size := Nat.le_of_eq hzz.symm
      have Z2 : Hid (w2.ownsRow w00.heap.size 45 5 (.slice (some ⟨w00.heap.size, 0, none⟩) 0 0) 0 []) := own_blocks Z1.out (fun z hz => hw.block z (Z1.out.lt z hz).2)
      have X2 : Hid (Wire.Bk w2 w1.heap.size #[.int .i64 0, .int .i64 0, .slice none 0 0, .int .i64 0, .slice none 0 0, .slice none 0 0, .slice none 0 0] 36) := xx
      clear hw xx hzz
      refine wpAnyH_ready (rs := [2]) (by kernel_rfl) (by simp) ?_
      refine AllReadyH.cons rfl (fun K hK => ?_) AllReadyH.nil
      go_simp
      refine (lownP_any b d ap cp ps _ hpl HB3.out (HR0.out.p.keep hs2)).mono ?_
      rintro e w3 ⟨vl, LP, rfl, hLP, lp, hw⟩
      have hLl : LP.length = ps.length := by rw [← hLP, List.length_map]
      obtain ⟨gP, cP, hvl⟩ := Joins.ownsRow_form lp.own (by rw [hLl]; exact hz1)
      subst hvl
      rw [hLl] at lp
      rw [hLl]
      have owP := lp.ownP
      have hs3 := belt hs2 hw
      have hzw3 : w2.heap.size ≤ w3.heap.size := hw.size
      have X3 : Hid (Wire.Bk w3 w1.heap.size #[.int .i64 0, .int .i64 0, .slice none 0 0, .int .i64 0, .slice none 0 0, .slice none 0 0, .slice none 0 0] 36) := X2.out.keep hw
      have Z3 : Hid (w3.ownsRow w00.heap.size 45 5 (.slice (some ⟨w00.heap.size, 0, none⟩) 0 0) 0 []) := own_blocks Z2.out (fun z hz => hw.block z (Z2.out.lt z hz).2)
      have P3 : Hid (OwnPs w2.heap.size w3.heap.size w3 (some ⟨gP, 0, none⟩) ps.length ps) := ⟨rfl, .inr ⟨gP, LP, rfl, hLP, owP⟩⟩
      refine hK.out _ _ hs3 (fun _ => ?_)
      clear hK K hw hLP owP lp hLl
      refine wpAnyH_ready (rs := [7]) (by kernel_rfl) (by simp) ?_
      refine AllReadyH.cons rfl (fun K hK => ?_) AllReadyH.nil
      go_simp
      refine (lownG_any ag cg gs _ hgl (HR0.out.g.keep hs3) hcg).mono ?_
      rintro e w4 ⟨gG, cG, rfl, hcG, oz, hw⟩
      have hs4 := belt hs3 hw
      have hzw4 : w3.heap.size ≤ w4.heap.size := hw.size
      have P4 : Hid (OwnPs w2.heap.size w3.heap.size w4 (some ⟨gP, 0, none⟩) ps.length ps) := P3.out.keep hw
      have X4 : Hid (Wire.Bk w4 w1.heap.size #[.int .i64 0, .int .i64 0, .slice none 0 0, .int .i64 0, .slice none 0 0, .slice none 0 0, .slice none 0 0] 36) := X3.out.keep hw
      have Z4 : Hid (w4.ownsRow w00.heap.size 45 5 (.slice (some ⟨w00.heap.size, 0, none⟩) 0 0) 0 []) := own_blocks Z3.out (fun z hz => hw.block z (Z3.out.lt z hz).2)
      have G4 : Hid (OwnLs w3.heap.size w4.heap.size w4 (some ⟨gG, 0, none⟩) gs.length gs) := ⟨rfl, .inr ⟨_, rfl, oz.lt, oz⟩⟩
      refine hK.out _ _ hs4 (fun _ => ?_)
      clear hK K hw oz
      refine wpAnyH_ready (rs := [11]) (by kernel_rfl) (by simp) ?_
      refine AllReadyH.cons rfl (fun K hK => ?_) AllReadyH.nil
      rw [if_pos (by rfl)]
      have hzl : w00.heap.size < w4.heap.size := (Z4.out.lt _ rfl).2
      refine wp_append_rep _ _ rfl w00.heap.size rfl Z4.out hzl ar cr rs rfl (HR0.out.r.keep hs4) hcr hrl ?_
      intro aA cA w5 zA hoA hzA hzB hbl hgrow
      have hzw5 : w4.heap.size ≤ w5.heap.size := hgrow.size
      have hs5 : Below w0.heap.size w0 w5 := hs4.trans (hgrow.below (by have := hs4.size; omega) (fun z hz => by simp [Value.ownBlock] at hz; have := hs4.size; omega))
      have P5 : Hid (OwnPs w2.heap.size w3.heap.size w5 (some ⟨gP, 0, none⟩) ps.length ps) := P4.out.blocks (fun z h1 h2 h3 => hbl z h3 (by omega))
      have G5 : Hid (OwnLs w3.heap.size w4.heap.size w5 (some ⟨gG, 0, none⟩) gs.length gs) := G4.out.blocks (fun z h1 h2 h3 => hbl z h3 (by omega))
      have X5 : Hid (Wire.Bk w5 w1.heap.size #[.int .i64 0, .int .i64 0, .slice none 0 0, .int .i64 0, .slice none 0 0, .slice none 0 0, .slice none 0 0] 36) := (hbl _ X4.out.lt (by omega)).trans X4.out
      have A5 : Hid (OwnEs tyRp 45 zA (zA + 1) w5 aA rs.length rs) := hoA
      refine hK.out _ _ hs5 (fun _ => ?_)
      clear hK K hgrow hbl hoA
      refine wpAnyH_take (i := 12) (oi := _) (v := _) rfl (by kernel_rfl) (by kernel_rfl) (by kernel_rfl) (fun _ _ _ h => h) (.inl ⟨by rfl, by intro w hSw; go_simp; with_reducible rfl⟩) hs5 ?_
      try simp only [Act.put, List.setIfInBounds_toArray, List.set_cons_zero, List.set_cons_succ]
      refine wpAnyH_ready (rs := [14]) (by kernel_rfl) (by simp) ?_
      refine AllReadyH.cons rfl (fun K hK => ?_) AllReadyH.nil
      obtain ⟨q0, q1, q2, q3, q4, q5, q6⟩ := Wire.Bk.m7 X5.out
      obtain ⟨f0, f1, f2, f3, f4, f5, f6⟩ := Wire.Bk.g7 X5.out
      have xlt := X5.out.lt
      have hsl := hs5.size
      go_simp
      have num : w0.heap.size ≤ w1.heap.size ∧ w0.heap.size ≤ w2.heap.size ∧ w2.heap.size ≤ w3.heap.size ∧ w3.heap.size ≤ w5.heap.size ∧ w0.heap.size ≤ w3.heap.size ∧ w3.heap.size ≤ w4.heap.size ∧ w4.heap.size ≤ w5.heap.size ∧ w0.heap.size ≤ zA ∧ zA < w5.heap.size ∧ (w1.heap.size < w2.heap.size ∨ w3.heap.size ≤ w1.heap.size) ∧ (w1.heap.size < w3.heap.size ∨ w4.heap.size ≤ w1.heap.size) ∧ (w3.heap.size ≤ w3.heap.size ∨ w4.heap.size ≤ w2.heap.size) ∧ (zA < w2.heap.size ∨ w3.heap.size ≤ zA) ∧ (zA < w3.heap.size ∨ w4.heap.size ≤ zA) ∧ ¬ zA = w1.heap.size := by omega
      have bx1 := X5.out.setL [.int .i64 b, .int .i64 d, .slice (some ⟨gP, 0, none⟩) ps.length cP, .int .i64 ttl, .slice none 0 0, .slice (some ⟨gG, 0, none⟩) gs.length cG, .slice aA rs.length cA] 0
      rw [ovrE] at bx1
      have fin : CS w0 (Wire.setL w5 w1.heap.size 0 [.int .i64 b, .int .i64 d, .slice (some ⟨gP, 0, none⟩) ps.length cP, .int .i64 ttl, .slice none 0 0, .slice (some ⟨gG, 0, none⟩) gs.length cG, .slice aA rs.length cA]) w1.heap.size w2.heap.size w3.heap.size w3.heap.size w4.heap.size zA (some ⟨gP, 0, none⟩) (some ⟨gG, 0, none⟩) aA b d ttl ps gs rs cP cG cA (.slice none 0 0) := ⟨Wire.setL_below num.1 _ 0 hs5, bx1, by rw [Wire.setL_size]; exact num, P5.out.blocks (fun z h1 h2 _ => Wire.setL_oth (by omega) _ _ _), G5.out.blocks (fun z h1 h2 _ => Wire.setL_oth (by omega) _ _ _), A5.out.blocks (fun z h1 h2 _ => Wire.setL_oth (by omega) _ _ _), hcG, ⟨_, rfl⟩⟩
      refine hK.out _ _ fin.bel (fun _ => ?_)
      clear hK K q0 q1 q2 q3 q4 q5 q6 f0 f1 f2 f3 f4 f5 f6
      refine wpAnyH_done (by kernel_rfl) ?_ _
      have FIN : Hid (CS w0 _ _ _ _ _ _ _ _ _ _ b d ttl ps gs rs _ _ _ _) := fin
      clear fin bx1 num
      go_wp2_with fail
      go_meet
      exact ⟨_, _, _, _, _, _, _, _, _, _, _, _, rfl, FIN⟩
    refine AllReadyH.cons rfl (fun K hK => ?_) AllReadyH.nil
    go_simp
    have hw : Below w00.heap.size w00 (w00.alloc (.cells #[.int .i64 0, .int .i64 0, .slice none 0 0, .int .i64 0, .slice none 0 0, .slice none 0 0, .slice none 0 0] 36)) := belA _ _
    have hzz : (w00.alloc (.cells #[.int .i64 0, .int .i64 0, .slice none 0 0, .int .i64 0, .slice none 0 0, .slice none 0 0, .slice none 0 0] 36)).heap.size = w00.heap.size + 1 := by simp
    have xx : Wire.Bk (w00.alloc (.cells #[.int .i64 0, .int .i64 0, .slice none 0 0, .int .i64 0, .slice none 0 0, .slice none 0 0, .slice none 0 0] 36)) w00.heap.size #[.int .i64 0, .int .i64 0, .slice none 0 0, .int .i64 0, .slice none 0 0, .slice none 0 0, .slice none 0 0] 36 := Wire.Bk.new _ _ _
    have hs1 := belt hs0 hw
    refine hK.out _ _ hs1 (fun _ => ?_)
    clear hK K
    generalize w00.alloc (.cells #[.int .i64 0, .int .i64 0, .slice none 0 0, .int .i64 0, .slice none 0 0, .slice none 0 0, .slice none 0 0] 36) = w1 at *
    have hzw1 : w00.heap.size + 1 ≤ w1.heap.size := Nat.le_of_eq hzz.symm
    have X1 : Hid (Wire.Bk w1 w00.heap.size #[.int .i64 0, .int .i64 0, .slice none 0 0, .int .i64 0, .slice none 0 0, .slice none 0 0, .slice none 0 0] 36) := xx
    clear hw xx hzz
    refine wpAnyH_ready (rs := [2, 8]) (by kernel_rfl) (by simp) ?_
    refine AllReadyH.cons rfl (fun K hK => ?_) ?_
    · skip
      go_simp
      refine (lownP_any b d ap cp ps _ hpl HB3.out (HR0.out.p.keep hs1)).mono ?_
      rintro e w2 ⟨vl, LP, rfl, hLP, lp, hw⟩
      have hLl : LP.length = ps.length := by rw [← hLP, List.length_map]
      obtain ⟨gP, cP, hvl⟩ := Joins.ownsRow_form lp.own (by rw [hLl]; exact hz1)
      subst hvl
      rw [hLl] at lp
      rw [hLl]
      have owP := lp.ownP
      have hs2 := belt hs1 hw
      have hzw2 : w1.heap.size ≤ w2.heap.size := hw.size
      have X2 : Hid (Wire.Bk w2 w00.heap.size #[.int .i64 0, .int .i64 0, .slice none 0 0, .int .i64 0, .slice none 0 0, .slice none 0 0, .slice none 0 0] 36) := X1.out.keep hw
      have P2 : Hid (OwnPs w1.heap.size w2.heap.size w2 (some ⟨gP, 0, none⟩) ps.length ps) := ⟨rfl, .inr ⟨gP, LP, rfl, hLP, owP⟩⟩
      refine hK.out _ _ hs2 (fun _ => ?_)
      clear hK K hw hLP owP lp hLl
      refine wpAnyH_ready (rs := [7, 8]) (by kernel_rfl) (by simp) ?_
      refine AllReadyH.cons rfl (fun K hK => ?_) ?_
      · skip
        go_simp
        refine (lownG_any ag cg gs _ hgl (HR0.out.g.keep hs2) hcg).mono ?_
        rintro e w3 ⟨gG, cG, rfl, hcG, oz, hw⟩
        have hs3 := belt hs2 hw
        have hzw3 : w2.heap.size ≤ w3.heap.size := hw.size
        have P3 : Hid (OwnPs w1.heap.size w2.heap.size w3 (some ⟨gP, 0, none⟩) ps.length ps) := P2.out.keep hw
        have X3 : Hid (Wire.Bk w3 w00.heap.size #[.int .i64 0, .int .i64 0, .slice none 0 0, .int .i64 0, .slice none 0 0, .slice none 0 0, .slice none 0 0] 36) := X2.out.keep hw
        have G3 : Hid (OwnLs w2.heap.size w3.heap.size w3 (some ⟨gG, 0, none⟩) gs.length gs) := ⟨rfl, .inr ⟨_, rfl, oz.lt, oz⟩⟩
        refine hK.out _ _ hs3 (fun _ => ?_)
        clear hK K hw oz
        refine wpAnyH_ready (rs := [8]) (by kernel_rfl) (by simp) ?_
        refine AllReadyH.cons rfl (fun K hK => ?_) AllReadyH.nil
        go_simp
        have hw : Below w3.heap.size w3 (w3.alloc (.cells #[] 45)) := belA _ _
        have hzz : (w3.alloc (.cells #[] 45)).heap.size = w3.heap.size + 1 := by simp
        have xx : (w3.alloc (.cells #[] 45)).ownsRow w3.heap.size 45 5 (.slice (some ⟨w3.heap.size, 0, none⟩) 0 0) 0 [] := own_lit5 _ _
        have hs4 := belt hs3 hw
        refine hK.out _ _ hs4 (fun _ => ?_)
        clear hK K
        generalize w3.alloc (.cells #[] 45) = w4 at *
        have hzw4 : w3.heap.size + 1 ≤ w4.heap.size := Nat.le_of_eq hzz.symm
        have P4 : Hid (OwnPs w1.heap.size w2.heap.size w4 (some ⟨gP, 0, none⟩) ps.length ps) := P3.out.keep hw
        have G4 : Hid (OwnLs w2.heap.size w3.heap.size w4 (some ⟨gG, 0, none⟩) gs.length gs) := G3.out.keep hw
        have X4 : Hid (Wire.Bk w4 w00.heap.size #[.int .i64 0, .int .i64 0, .slice none 0 0, .int .i64 0, .slice none 0 0, .slice none 0 0, .slice none 0 0] 36) := X3.out.keep hw
        have Z4 : Hid (w4.ownsRow w3.heap.size 45 5 (.slice (some ⟨w3.heap.size, 0, none⟩) 0 0) 0 []) := xx
        clear hw xx hzz
        refine wpAnyH_ready (rs := [11]) (by kernel_rfl) (by simp) ?_
        refine AllReadyH.cons rfl (fun K hK => ?_) AllReadyH.nil
        rw [if_pos (by rfl)]
        have hzl : w3.heap.size < w4.heap.size := (Z4.out.lt _ rfl).2
        refine wp_append_rep _ _ rfl w3.heap.size rfl Z4.out hzl ar cr rs rfl (HR0.out.r.keep hs4) hcr hrl ?_
        intro aA cA w5 zA hoA hzA hzB hbl hgrow
        have hzw5 : w4.heap.size ≤ w5.heap.size := hgrow.size
        have hs5 : Below w0.heap.size w0 w5 := hs4.trans (hgrow.below (by have := hs4.size; omega) (fun z hz => by simp [Value.ownBlock] at hz; have := hs4.size; omega))
        have P5 : Hid (OwnPs w1.heap.size w2.heap.size w5 (some ⟨gP, 0, none⟩) ps.length ps) := P4.out.blocks (fun z h1 h2 h3 => hbl z h3 (by omega))
        have G5 : Hid (OwnLs w2.heap.size w3.heap.size w5 (some ⟨gG, 0, none⟩) gs.length gs) := G4.out.blocks (fun z h1 h2 h3 => hbl z h3 (by omega))
        have X5 : Hid (Wire.Bk w5 w00.heap.size #[.int .i64 0, .int .i64 0, .slice none 0 0, .int .i64 0, .slice none 0 0, .slice none 0 0, .slice none 0 0] 36) := (hbl _ X4.out.lt (by omega)).trans X4.out
        have A5 : Hid (OwnEs tyRp 45 zA (zA + 1) w5 aA rs.length rs) := hoA
        refine hK.out _ _ hs5 (fun _ => ?_)
        clear hK K hgrow hbl hoA
        refine wpAnyH_take (i := 12) (oi := _) (v := _) rfl (by kernel_rfl) (by kernel_rfl) (by kernel_rfl) (fun _ _ _ h => h) (.inl ⟨by rfl, by intro w hSw; go_simp; with_reducible rfl⟩) hs5 ?_
        try simp only [Act.put, List.setIfInBounds_toArray, List.set_cons_zero, List.set_cons_succ]
        refine wpAnyH_ready (rs := [14]) (by kernel_rfl) (by simp) ?_
        refine AllReadyH.cons rfl (fun K hK => ?_) AllReadyH.nil
        obtain ⟨q0, q1, q2, q3, q4, q5, q6⟩ := Wire.Bk.m7 X5.out
        obtain ⟨f0, f1, f2, f3, f4, f5, f6⟩ := Wire.Bk.g7 X5.out
        have xlt := X5.out.lt
        have hsl := hs5.size
        go_simp
        have num : w0.heap.size ≤ w00.heap.size ∧ w0.heap.size ≤ w1.heap.size ∧ w1.heap.size ≤ w2.heap.size ∧ w2.heap.size ≤ w5.heap.size ∧ w0.heap.size ≤ w2.heap.size ∧ w2.heap.size ≤ w3.heap.size ∧ w3.heap.size ≤ w5.heap.size ∧ w0.heap.size ≤ zA ∧ zA < w5.heap.size ∧ (w00.heap.size < w1.heap.size ∨ w2.heap.size ≤ w00.heap.size) ∧ (w00.heap.size < w2.heap.size ∨ w3.heap.size ≤ w00.heap.size) ∧ (w2.heap.size ≤ w2.heap.size ∨ w3.heap.size ≤ w1.heap.size) ∧ (zA < w1.heap.size ∨ w2.heap.size ≤ zA) ∧ (zA < w2.heap.size ∨ w3.heap.size ≤ zA) ∧ ¬ zA = w00.heap.size := by omega
        have bx1 := X5.out.setL [.int .i64 b, .int .i64 d, .slice (some ⟨gP, 0, none⟩) ps.length cP, .int .i64 ttl, .slice none 0 0, .slice (some ⟨gG, 0, none⟩) gs.length cG, .slice aA rs.length cA] 0
        rw [ovrE] at bx1
        have fin : CS w0 (Wire.setL w5 w00.heap.size 0 [.int .i64 b, .int .i64 d, .slice (some ⟨gP, 0, none⟩) ps.length cP, .int .i64 ttl, .slice none 0 0, .slice (some ⟨gG, 0, none⟩) gs.length cG, .slice aA rs.length cA]) w00.heap.size w1.heap.size w2.heap.size w2.heap.size w3.heap.size zA (some ⟨gP, 0, none⟩) (some ⟨gG, 0, none⟩) aA b d ttl ps gs rs cP cG cA (.slice none 0 0) := ⟨Wire.setL_below num.1 _ 0 hs5, bx1, by rw [Wire.setL_size]; exact num, P5.out.blocks (fun z h1 h2 _ => Wire.setL_oth (by omega) _ _ _), G5.out.blocks (fun z h1 h2 _ => Wire.setL_oth (by omega) _ _ _), A5.out.blocks (fun z h1 h2 _ => Wire.setL_oth (by omega) _ _ _), hcG, ⟨_, rfl⟩⟩
        refine hK.out _ _ fin.bel (fun _ => ?_)
        clear hK K q0 q1 q2 q3 q4 q5 q6 f0 f1 f2 f3 f4 f5 f6
        refine wpAnyH_done (by kernel_rfl) ?_ _
        have FIN : Hid (CS w0 _ _ _ _ _ _ _ _ _ _ b d ttl ps gs rs _ _ _ _) := fin
        clear fin bx1 num
        go_wp2_with fail
        go_meet
        exact ⟨_, _, _, _, _, _, _, _, _, _, _, _, rfl, FIN⟩
      refine AllReadyH.cons rfl (fun K hK => ?_) AllReadyH.nil
      go_simp
      have hw : Below w2.heap.size w2 (w2.alloc (.cells #[] 45)) := belA _ _
      have hzz : (w2.alloc (.cells #[] 45)).heap.size = w2.heap.size + 1 := by simp
      have xx : (w2.alloc (.cells #[] 45)).ownsRow w2.heap.size 45 5 (.slice (some ⟨w2.heap.size, 0, none⟩) 0 0) 0 [] := own_lit5 _ _
      have hs3 := belt hs2 hw
      refine hK.out _ _ hs3 (fun _ => ?_)
      clear hK K
      generalize w2.alloc (.cells #[] 45) = w3 at *
      have hzw3 : w2.heap.size + 1 ≤ w3.heap.size := Nat.le_of_eq hzz.symm
      have P3 : Hid (OwnPs w1.heap.size w2.heap.size w3 (some ⟨gP, 0, none⟩) ps.length ps) := P2.out.keep hw
      have X3 : Hid (Wire.Bk w3 w00.heap.size #[.int .i64 0, .int .i64 0, .slice none 0 0, .int .i64 0, .slice none 0 0, .slice none 0 0, .slice none 0 0] 36) := X2.out.keep hw
      have Z3 : Hid (w3.ownsRow w2.heap.size 45 5 (.slice (some ⟨w2.heap.size, 0, none⟩) 0 0) 0 []) := xx
      clear hw xx hzz
      refine wpAnyH_ready (rs := [7]) (by kernel_rfl) (by simp) ?_
      refine AllReadyH.cons rfl (fun K hK => ?_) AllReadyH.nil
      go_simp
      refine (lownG_any ag cg gs _ hgl (HR0.out.g.keep hs3) hcg).mono ?_
      rintro e w4 ⟨gG, cG, rfl, hcG, oz, hw⟩
      have hs4 := belt hs3 hw
      have hzw4 : w3.heap.size ≤ w4.heap.size := hw.size
      have P4 : Hid (OwnPs w1.heap.size w2.heap.size w4 (some ⟨gP, 0, none⟩) ps.length ps) := P3.out.keep hw
      have X4 : Hid (Wire.Bk w4 w00.heap.size #[.int .i64 0, .int .i64 0, .slice none 0 0, .int .i64 0, .slice none 0 0, .slice none 0 0, .slice none 0 0] 36) := X3.out.keep hw
      have Z4 : Hid (w4.ownsRow w2.heap.size 45 5 (.slice (some ⟨w2.heap.size, 0, none⟩) 0 0) 0 []) := own_blocks Z3.out (fun z hz => hw.block z (Z3.out.lt z hz).2)
      have G4 : Hid (OwnLs w3.heap.size w4.heap.size w4 (some ⟨gG, 0, none⟩) gs.length gs) := ⟨rfl, .inr ⟨_, rfl, oz.lt, oz⟩⟩
      refine hK.out _ _ hs4 (fun _ => ?_)
      clear hK K hw oz
      refine wpAnyH_ready (rs := [11]) (by kernel_rfl) (by simp) ?_
      refine AllReadyH.cons rfl (fun K hK => ?_) AllReadyH.nil
      rw [if_pos (by rfl)]
      have hzl : w2.heap.size < w4.heap.size := (Z4.out.lt _ rfl).2
      refine wp_append_rep _ _ rfl w2.heap.size rfl Z4.out hzl ar cr rs rfl (HR0.out.r.keep hs4) hcr hrl ?_
      intro aA cA w5 zA hoA hzA hzB hbl hgrow
      have hzw5 : w4.heap.size ≤ w5.heap.size := hgrow.size
      have hs5 : Below w0.heap.size w0 w5 := hs4.trans (hgrow.below (by have := hs4.size; omega) (fun z hz => by simp [Value.ownBlock] at hz; have := hs4.size; omega))
      have P5 : Hid (OwnPs w1.heap.size w2.heap.size w5 (some ⟨gP, 0, none⟩) ps.length ps) := P4.out.blocks (fun z h1 h2 h3 => hbl z h3 (by omega))
      have G5 : Hid (OwnLs w3.heap.size w4.heap.size w5 (some ⟨gG, 0, none⟩) gs.length gs) := G4.out.blocks (fun z h1 h2 h3 => hbl z h3 (by omega))
      have X5 : Hid (Wire.Bk w5 w00.heap.size #[.int .i64 0, .int .i64 0, .slice none 0 0, .int .i64 0, .slice none 0 0, .slice none 0 0, .slice none 0 0] 36) := (hbl _ X4.out.lt (by omega)).trans X4.out
      have A5 : Hid (OwnEs tyRp 45 zA (zA + 1) w5 aA rs.length rs) := hoA
      refine hK.out _ _ hs5 (fun _ => ?_)
      clear hK K hgrow hbl hoA
      refine wpAnyH_take (i := 12) (oi := _) (v := _) rfl (by kernel_rfl) (by kernel_rfl) (by kernel_rfl) (fun _ _ _ h => h) (.inl ⟨by rfl, by intro w hSw; go_simp; with_reducible rfl⟩) hs5 ?_
      try simp only [Act.put, List.setIfInBounds_toArray, List.set_cons_zero, List.set_cons_succ]
      refine wpAnyH_ready (rs := [14]) (by kernel_rfl) (by simp) ?_
      refine AllReadyH.cons rfl (fun K hK => ?_) AllReadyH.nil
      obtain ⟨q0, q1, q2, q3, q4, q5, q6⟩ := Wire.Bk.m7 X5.out
      obtain ⟨f0, f1, f2, f3, f4, f5, f6⟩ := Wire.Bk.g7 X5.out
      have xlt := X5.out.lt
      have hsl := hs5.size
      go_simp
      have num : w0.heap.size ≤ w00.heap.size ∧ w0.heap.size ≤ w1.heap.size ∧ w1.heap.size ≤ w2.heap.size ∧ w2.heap.size ≤ w5.heap.size ∧ w0.heap.size ≤ w3.heap.size ∧ w3.heap.size ≤ w4.heap.size ∧ w4.heap.size ≤ w5.heap.size ∧ w0.heap.size ≤ zA ∧ zA < w5.heap.size ∧ (w00.heap.size < w1.heap.size ∨ w2.heap.size ≤ w00.heap.size) ∧ (w00.heap.size < w3.heap.size ∨ w4.heap.size ≤ w00.heap.size) ∧ (w2.heap.size ≤ w3.heap.size ∨ w4.heap.size ≤ w1.heap.size) ∧ (zA < w1.heap.size ∨ w2.heap.size ≤ zA) ∧ (zA < w3.heap.size ∨ w4.heap.size ≤ zA) ∧ ¬ zA = w00.heap.size := by omega
      have bx1 := X5.out.setL [.int .i64 b, .int .i64 d, .slice (some ⟨gP, 0, none⟩) ps.length cP, .int .i64 ttl, .slice none 0 0, .slice (some ⟨gG, 0, none⟩) gs.length cG, .slice aA rs.length cA] 0
      rw [ovrE] at bx1
      have fin : CS w0 (Wire.setL w5 w00.heap.size 0 [.int .i64 b, .int .i64 d, .slice (some ⟨gP, 0, none⟩) ps.length cP, .int .i64 ttl, .slice none 0 0, .slice (some ⟨gG, 0, none⟩) gs.length cG, .slice aA rs.length cA]) w00.heap.size w1.heap.size w2.heap.size w3.heap.size w4.heap.size zA (some ⟨gP, 0, none⟩) (some ⟨gG, 0, none⟩) aA b d ttl ps gs rs cP cG cA (.slice none 0 0) := ⟨Wire.setL_below num.1 _ 0 hs5, bx1, by rw [Wire.setL_size]; exact num, P5.out.blocks (fun z h1 h2 _ => Wire.setL_oth (by omega) _ _ _), G5.out.blocks (fun z h1 h2 _ => Wire.setL_oth (by omega) _ _ _), A5.out.blocks (fun z h1 h2 _ => Wire.setL_oth (by omega) _ _ _), hcG, ⟨_, rfl⟩⟩
      refine hK.out _ _ fin.bel (fun _ => ?_)
      clear hK K q0 q1 q2 q3 q4 q5 q6 f0 f1 f2 f3 f4 f5 f6
      refine wpAnyH_done (by kernel_rfl) ?_ _
      have FIN : Hid (CS w0 _ _ _ _ _ _ _ _ _ _ b d ttl ps gs rs _ _ _ _) := fin
      clear fin bx1 num
      go_wp2_with fail
      go_meet
      exact ⟨_, _, _, _, _, _, _, _, _, _, _, _, rfl, FIN⟩
    refine AllReadyH.cons rfl (fun K hK => ?_) AllReadyH.nil
    go_simp
    have hw : Below w1.heap.size w1 (w1.alloc (.cells #[] 45)) := belA _ _
    have hzz : (w1.alloc (.cells #[] 45)).heap.size = w1.heap.size + 1 := by simp
    have xx : (w1.alloc (.cells #[] 45)).ownsRow w1.heap.size 45 5 (.slice (some ⟨w1.heap.size, 0, none⟩) 0 0) 0 [] := own_lit5 _ _
    have hs2 := belt hs1 hw
    refine hK.out _ _ hs2 (fun _ => ?_)
    clear hK K
    generalize w1.alloc (.cells #[] 45) = w2 at *
    have hzw2 : w1.heap.size + 1 ≤ w2.heap.size := Nat.le_of_eq hzz.symm
    have X2 : Hid (Wire.Bk w2 w00.heap.size #[.int .i64 0, .int .i64 0, .slice none 0 0, .int .i64 0, .slice none 0 0, .slice none 0 0, .slice none 0 0] 36) := X1.out.keep hw
    have Z2 : Hid (w2.ownsRow w1.heap.size 45 5 (.slice (some ⟨w1.heap.size, 0, none⟩) 0 0) 0 []) := xx
    clear hw xx hzz
    refine wpAnyH_ready (rs := [2]) (by kernel_rfl) (by simp) ?_
    refine AllReadyH.cons rfl (fun K hK => ?_) AllReadyH.nil
    go_simp
    refine (lownP_any b d ap cp ps _ hpl HB3.out (HR0.out.p.keep hs2)).mono ?_
    rintro e w3 ⟨vl, LP, rfl, hLP, lp, hw⟩
    have hLl : LP.length = ps.length := by rw [← hLP, List.length_map]
    obtain ⟨gP, cP, hvl⟩ := Joins.ownsRow_form lp.own (by rw [hLl]; exact hz1)
    subst hvl
    rw [hLl] at lp
    rw [hLl]
    have owP := lp.ownP
    have hs3 := belt hs2 hw
    have hzw3 : w2.heap.size ≤ w3.heap.size := hw.size
    have X3 : Hid (Wire.Bk w3 w00.heap.size #[.int .i64 0, .int .i64 0, .slice none 0 0, .int .i64 0, .slice none 0 0, .slice none 0 0, .slice none 0 0] 36) := X2.out.keep hw
    have Z3 : Hid (w3.ownsRow w1.heap.size 45 5 (.slice (some ⟨w1.heap.size, 0, none⟩) 0 0) 0 []) := own_blocks Z2.out (fun z hz => hw.block z (Z2.out.lt z hz).2)
    have P3 : Hid (OwnPs w2.heap.size w3.heap.size w3 (some ⟨gP, 0, none⟩) ps.length ps) := ⟨rfl, .inr ⟨gP, LP, rfl, hLP, owP⟩⟩
    refine hK.out _ _ hs3 (fun _ => ?_)
    clear hK K hw hLP owP lp hLl
    refine wpAnyH_ready (rs := [7]) (by kernel_rfl) (by simp) ?_
    refine AllReadyH.cons rfl (fun K hK => ?_) AllReadyH.nil
    go_simp
    refine (lownG_any ag cg gs _ hgl (HR0.out.g.keep hs3) hcg).mono ?_
    rintro e w4 ⟨gG, cG, rfl, hcG, oz, hw⟩
    have hs4 := belt hs3 hw
    have hzw4 : w3.heap.size ≤ w4.heap.size := hw.size
    have P4 : Hid (OwnPs w2.heap.size w3.heap.size w4 (some ⟨gP, 0, none⟩) ps.length ps) := P3.out.keep hw
    have X4 : Hid (Wire.Bk w4 w00.heap.size #[.int .i64 0, .int .i64 0, .slice none 0 0, .int .i64 0, .slice none 0 0, .slice none 0 0, .slice none 0 0] 36) := X3.out.keep hw
    have Z4 : Hid (w4.ownsRow w1.heap.size 45 5 (.slice (some ⟨w1.heap.size, 0, none⟩) 0 0) 0 []) := own_blocks Z3.out (fun z hz => hw.block z (Z3.out.lt z hz).2)
    have G4 : Hid (OwnLs w3.heap.size w4.heap.size w4 (some ⟨gG, 0, none⟩) gs.length gs) := ⟨rfl, .inr ⟨_, rfl, oz.lt, oz⟩⟩
    refine hK.out _ _ hs4 (fun _ => ?_)
    clear hK K hw oz
    refine wpAnyH_ready (rs := [11]) (by kernel_rfl) (by simp) ?_
    refine AllReadyH.cons rfl (fun K hK => ?_) AllReadyH.nil
    rw [if_pos (by rfl)]
    have hzl : w1.heap.size < w4.heap.size := (Z4.out.lt _ rfl).2
    refine wp_append_rep _ _ rfl w1.heap.size rfl Z4.out hzl ar cr rs rfl (HR0.out.r.keep hs4) hcr hrl ?_
    intro aA cA w5 zA hoA hzA hzB hbl hgrow
    have hzw5 : w4.heap.size ≤ w5.heap.size := hgrow.size
    have hs5 : Below w0.heap.size w0 w5 := hs4.trans (hgrow.below (by have := hs4.size; omega) (fun z hz => by simp [Value.ownBlock] at hz; have := hs4.size; omega))
    have P5 : Hid (OwnPs w2.heap.size w3.heap.size w5 (some ⟨gP, 0, none⟩) ps.length ps) := P4.out.blocks (fun z h1 h2 h3 => hbl z h3 (by omega))
    have G5 : Hid (OwnLs w3.heap.size w4.heap.size w5 (some ⟨gG, 0, none⟩) gs.length gs) := G4.out.blocks (fun z h1 h2 h3 => hbl z h3 (by omega))
    have X5 : Hid (Wire.Bk w5 w00.heap.size #[.int .i64 0, .int .i64 0, .slice none 0 0, .int .i64 0, .slice none 0 0, .slice none 0 0, .slice none 0 0] 36) := (hbl _ X4.out.lt (by omega)).trans X4.out
    have A5 : Hid (OwnEs tyRp 45 zA (zA + 1) w5 aA rs.length rs) := hoA
    refine hK.out _ _ hs5 (fun _ => ?_)
    clear hK K hgrow hbl hoA
    refine wpAnyH_take (i := 12) (oi := _) (v := _) rfl (by kernel_rfl) (by kernel_rfl) (by kernel_rfl) (fun _ _ _ h => h) (.inl ⟨by rfl, by intro w hSw; go_simp; with_reducible rfl⟩) hs5 ?_
    try simp only [Act.put, List.setIfInBounds_toArray, List.set_cons_zero, List.set_cons_succ]
    refine wpAnyH_ready (rs := [14]) (by kernel_rfl) (by simp) ?_
    refine AllReadyH.cons rfl (fun K hK => ?_) AllReadyH.nil
    obtain ⟨q0, q1, q2, q3, q4, q5, q6⟩ := Wire.Bk.m7 X5.out
    obtain ⟨f0, f1, f2, f3, f4, f5, f6⟩ := Wire.Bk.g7 X5.out
    have xlt := X5.out.lt
    have hsl := hs5.size
    go_simp
    have num : w0.heap.size ≤ w00.heap.size ∧ w0.heap.size ≤ w2.heap.size ∧ w2.heap.size ≤ w3.heap.size ∧ w3.heap.size ≤ w5.heap.size ∧ w0.heap.size ≤ w3.heap.size ∧ w3.heap.size ≤ w4.heap.size ∧ w4.heap.size ≤ w5.heap.size ∧ w0.heap.size ≤ zA ∧ zA < w5.heap.size ∧ (w00.heap.size < w2.heap.size ∨ w3.heap.size ≤ w00.heap.size) ∧ (w00.heap.size < w3.heap.size ∨ w4.heap.size ≤ w00.heap.size) ∧ (w3.heap.size ≤ w3.heap.size ∨ w4.heap.size ≤ w2.heap.size) ∧ (zA < w2.heap.size ∨ w3.heap.size ≤ zA) ∧ (zA < w3.heap.size ∨ w4.heap.size ≤ zA) ∧ ¬ zA = w00.heap.size := by omega
    have bx1 := X5.out.setL [.int .i64 b, .int .i64 d, .slice (some ⟨gP, 0, none⟩) ps.length cP, .int .i64 ttl, .slice none 0 0, .slice (some ⟨gG, 0, none⟩) gs.length cG, .slice aA rs.length cA] 0
    rw [ovrE] at bx1
    have fin : CS w0 (Wire.setL w5 w00.heap.size 0 [.int .i64 b, .int .i64 d, .slice (some ⟨gP, 0, none⟩) ps.length cP, .int .i64 ttl, .slice none 0 0, .slice (some ⟨gG, 0, none⟩) gs.length cG, .slice aA rs.length cA]) w00.heap.size w2.heap.size w3.heap.size w3.heap.size w4.heap.size zA (some ⟨gP, 0, none⟩) (some ⟨gG, 0, none⟩) aA b d ttl ps gs rs cP cG cA (.slice none 0 0) := ⟨Wire.setL_below num.1 _ 0 hs5, bx1, by rw [Wire.setL_size]; exact num, P5.out.blocks (fun z h1 h2 _ => Wire.setL_oth (by omega) _ _ _), G5.out.blocks (fun z h1 h2 _ => Wire.setL_oth (by omega) _ _ _), A5.out.blocks (fun z h1 h2 _ => Wire.setL_oth (by omega) _ _ _), hcG, ⟨_, rfl⟩⟩
    refine hK.out _ _ fin.bel (fun _ => ?_)
    clear hK K q0 q1 q2 q3 q4 q5 q6 f0 f1 f2 f3 f4 f5 f6
    refine wpAnyH_done (by kernel_rfl) ?_ _
    have FIN : Hid (CS w0 _ _ _ _ _ _ _ _ _ _ b d ttl ps gs rs _ _ _ _) := fin
    clear fin bx1 num
    go_wp2_with fail
    go_meet
    exact ⟨_, _, _, _, _, _, _, _, _, _, _, _, rfl, FIN⟩
  case rest =>
    obtain ⟨X, p0, p1, g0, g1, z, av, gv, rv, cp1, cg1, cr1, rfl, HCS⟩ := hcut
    obtain ⟨i0, hi, hz0, hz1, hz2⟩ := info_msgE
    have HK1 := HK0.out.keep HCS.out.bel
    obtain ⟨j0, j1, j2, j3, j4, j5, j6⟩ := Wire.Bk.m7 HK1
    obtain ⟨m0, hm0⟩ : ∃ m0, m0 = wc.heap.size := ⟨_, rfl⟩
    have HMN : Hid (X < m0 ∧ p1 ≤ m0 ∧ g1 ≤ m0 ∧ z < m0 ∧ w0.heap.size ≤ m0) := by
      have n1 := HCS.out.num
      have n2 := HCS.out.bx.lt
      unfold Hid; omega
    have HSZ0 : Hid (m0 ≤ wc.heap.size) := by unfold Hid; omega
    clear hm0 HK1
    go_wp2_with fail
    clear j0 j1 j2 j3 j4 j5 j6
    go_loopw [22] (fun vi wr => ∃ (k : Nat) (xs : List Value) (am' : Option Addr) (cm' : Nat), k ≤ ms.length ∧ vi = .int .i64 k ∧ Hid (CS w0 wr X p0 p1 g0 g1 z av gv rv b d ttl ps gs rs cp1 cg1 cr1 (.slice am' k cm')) ∧ Hid (wr.ownsRow m0 102 9 (.slice am' k cm') k xs) ∧ Hid (RowN xs ms k) ∧ Hid (m0 ≤ wr.heap.size)) (fun vi _ => ms.length - (intOf vi).toNat)
    case atStart => exact ⟨0, [], none, 0, Nat.zero_le _, rfl, HCS, World.ownsRow_nil _ _ _ _, RowN.nil _, HSZ0⟩
    case round =>
      clear HCS HSZ0
      obtain ⟨k, xs, am', cm', hk, rfl, HC, HOM, HXM, HSZ⟩ := hrel
      by_cases hlt : k < ms.length
      · have HRr : Hid (NetAt wr ap am ag ar ps ms gs rs) := HR0.out.keep HC.out.bel
        obtain ⟨bk, off, rfl⟩ := lsAt_form HRr.out.m (by show 0 < ms.length; omega)
        obtain ⟨hb1, ab, cb, hc, _, _, _, hcb0⟩ := msAt_cell HRr.out.m hlt
        obtain ⟨c0, c1, c2, c3, c4, c5, c6, c7, c8⟩ := hc.m9
        have hl0 := HML.out k hlt
        have HSN : Hid (∀ (a : Option Addr) (c : Nat), (a = none → c = 0) → RowN (xs ++ mgV (ms.getD k mg0) (.slice a 0 c)) ms (k + 1)) := fun a c h => HXM.out.snoc a c h
        rw [hl0] at c8
        simp only [List.length_nil] at c8
        clear hc hl0
        generalize ms.getD k mg0 = p at c0 c1 c2 c3 c4 c5 c6 c7 c8 HSN
        obtain ⟨x0, x1, x2, x3, x4, x5, x6, x7, l⟩ := p
        have HSN : Hid (∀ (a : Option Addr) (c : Nat), (a = none → c = 0) → RowN (xs ++ [.int .i64 x0, .int .i64 x1, .int .i64 x2, .int .i64 x3, .int .i64 x4, .int .i64 x5, .int .i64 x6, .int .i64 x7, .slice a 0 c]) ms (k + 1)) := HSN
        go_wp2_with fail
        obtain ⟨w4, hw4e⟩ : ∃ w4, w4 = wr.alloc (.cells #[.int .i64 x0, .int .i64 x1, .int .i64 x2, .int .i64 x3, .int .i64 x4, .int .i64 x5, .int .i64 x6, .int .i64 x7, .slice ab 0 cb] 102) := ⟨_, rfl⟩
        rw [← hw4e]
        have HB4 : Wire.Bk w4 wr.heap.size #[.int .i64 x0, .int .i64 x1, .int .i64 x2, .int .i64 x3, .int .i64 x4, .int .i64 x5, .int .i64 x6, .int .i64 x7, .slice ab 0 cb] 102 := by rw [hw4e]; exact Wire.Bk.new _ _ _
        have hb4 : Below wr.heap.size wr w4 := by rw [hw4e]; exact belA _ _
        clear hw4e c0 c1 c2 c3 c4 c5 c6 c7 c8
        refine (lownG0_any ab cb w4 hcb0).mono ?_
        rintro e w5 ⟨gL, cL, rfl, hw5⟩
        have HB5 := HB4.keep hw5
        have hb5 := belt hb4 hw5
        obtain ⟨e0, e1, e2, e3, e4, e5, e6, e7, e8⟩ := HB5.c9
        have f8 := HB5.fr 8
        have lt5 := HB5.lt
        have HX5 := HC.out.bx.keep hb5
        have y4 := (Wire.Bk.m7 HX5).2.2.2.2.1
        have HMo := HMN.out
        have hsz := HSZ.out
        have hne : ¬ wr.heap.size = X := by omega
        have hxl : X < w5.heap.size := by omega
        have HOM5 : Hid (w5.ownsRow m0 102 9 (.slice am' k cm') k xs) := own_blocks HOM.out (fun z hz => hb5.block z (HOM.out.lt z hz).2)
        have HOM6 : Hid ((w5.setCell ⟨wr.heap.size, 8, none⟩ (.slice (some ⟨gL, 0, none⟩) 0 cL)).ownsRow m0 102 9 (.slice am' k cm') k xs) := own_blocks HOM5.out (fun z hz => heap_setCell_other _ _ _ _ (by have := (HOM.out.lt z hz).2; simp; omega))
        have HBL : Hid (∀ q, q < m0 → (w5.setCell ⟨wr.heap.size, 8, none⟩ (.slice (some ⟨gL, 0, none⟩) 0 cL)).heap[q]? = wr.heap[q]?) := fun q hq => (heap_setCell_other _ _ _ _ (by simp; omega)).trans (hb5.block q (by omega))
        have HBW : Hid (Below w0.heap.size w0 (w5.setCell ⟨wr.heap.size, 8, none⟩ (.slice (some ⟨gL, 0, none⟩) 0 cL))) := (belt HC.out.bel hb5).setCell (p := ⟨wr.heap.size, 8, none⟩) (by show w0.heap.size ≤ wr.heap.size; omega) _
        have hz6 : (w5.setCell ⟨wr.heap.size, 8, none⟩ (.slice (some ⟨gL, 0, none⟩) 0 cL)).heap.size = w5.heap.size := by simp [World.setCell]
        have HS6 : Hid (wr.heap.size ≤ w5.heap.size) := hb5.size
        clear hb4 hb5 hw5 HB4
        have hzal : ((w5.setCell ⟨wr.heap.size, 8, none⟩ (.slice (some ⟨gL, 0, none⟩) 0 cL)).alloc (.cells #[.int .i64 x0, .int .i64 x1, .int .i64 x2, .int .i64 x3, .int .i64 x4, .int .i64 x5, .int .i64 x6, .int .i64 x7, .slice (some ⟨gL, 0, none⟩) 0 cL] 102)).heap.size = w5.heap.size + 1 := by rw [show ((w5.setCell ⟨wr.heap.size, 8, none⟩ (.slice (some ⟨gL, 0, none⟩) 0 cL)).alloc (.cells #[.int .i64 x0, .int .i64 x1, .int .i64 x2, .int .i64 x3, .int .i64 x4, .int .i64 x5, .int .i64 x6, .int .i64 x7, .slice (some ⟨gL, 0, none⟩) 0 cL] 102)).heap.size = (w5.setCell ⟨wr.heap.size, 8, none⟩ (.slice (some ⟨gL, 0, none⟩) 0 cL)).heap.size + 1 from by simp, hz6]
        have HA2 : Hid (w0.heap.size ≤ ((w5.setCell ⟨wr.heap.size, 8, none⟩ (.slice (some ⟨gL, 0, none⟩) 0 cL)).alloc (.cells #[.int .i64 x0, .int .i64 x1, .int .i64 x2, .int .i64 x3, .int .i64 x4, .int .i64 x5, .int .i64 x6, .int .i64 x7, .slice (some ⟨gL, 0, none⟩) 0 cL] 102)).heap.size) := by rw [Hid, hzal]; omega
        have HA3 : Hid (∀ q, q < m0 → ((w5.setCell ⟨wr.heap.size, 8, none⟩ (.slice (some ⟨gL, 0, none⟩) 0 cL)).alloc (.cells #[.int .i64 x0, .int .i64 x1, .int .i64 x2, .int .i64 x3, .int .i64 x4, .int .i64 x5, .int .i64 x6, .int .i64 x7, .slice (some ⟨gL, 0, none⟩) 0 cL] 102)).heap[q]? = wr.heap[q]?) := fun q hq => (heap_alloc_old _ _ (by rw [hz6]; omega)).trans (HBL.out q hq)
        have HA4 : Hid (∀ q, q < m0 → q < ((w5.setCell ⟨wr.heap.size, 8, none⟩ (.slice (some ⟨gL, 0, none⟩) 0 cL)).alloc (.cells #[.int .i64 x0, .int .i64 x1, .int .i64 x2, .int .i64 x3, .int .i64 x4, .int .i64 x5, .int .i64 x6, .int .i64 x7, .slice (some ⟨gL, 0, none⟩) 0 cL] 102)).heap.size) := fun q hq => by rw [hzal]; omega
        have HA5 : Hid (Below w0.heap.size w0 ((w5.setCell ⟨wr.heap.size, 8, none⟩ (.slice (some ⟨gL, 0, none⟩) 0 cL)).alloc (.cells #[.int .i64 x0, .int .i64 x1, .int .i64 x2, .int .i64 x3, .int .i64 x4, .int .i64 x5, .int .i64 x6, .int .i64 x7, .slice (some ⟨gL, 0, none⟩) 0 cL] 102))) := HBW.out.alloc (by rw [hz6]; omega) _
        clear hzal
        have HNC : Hid (∀ (j : Nat) (u : Value), ([.int .i64 x0, .int .i64 x1, .int .i64 x2, .int .i64 x3, .int .i64 x4, .int .i64 x5, .int .i64 x6, .int .i64 x7, .slice (some ⟨gL, 0, none⟩) 0 cL] : List Value)[j]? = some u → ((w5.setCell ⟨wr.heap.size, 8, none⟩ (.slice (some ⟨gL, 0, none⟩) 0 cL)).alloc (.cells #[.int .i64 x0, .int .i64 x1, .int .i64 x2, .int .i64 x3, .int .i64 x4, .int .i64 x5, .int .i64 x6, .int .i64 x7, .slice (some ⟨gL, 0, none⟩) 0 cL] 102)).cell? ((⟨w5.heap.size, 0, none⟩ : Addr).add j) = some u) := by
          have hq := new_cells (w5.setCell ⟨wr.heap.size, 8, none⟩ (.slice (some ⟨gL, 0, none⟩) 0 cL)) #[.int .i64 x0, .int .i64 x1, .int .i64 x2, .int .i64 x3, .int .i64 x4, .int .i64 x5, .int .i64 x6, .int .i64 x7, .slice (some ⟨gL, 0, none⟩) 0 cL] 102 _ rfl
          rw [hz6] at hq
          exact hq
        have HOA : Hid (((w5.setCell ⟨wr.heap.size, 8, none⟩ (.slice (some ⟨gL, 0, none⟩) 0 cL)).alloc (.cells #[.int .i64 x0, .int .i64 x1, .int .i64 x2, .int .i64 x3, .int .i64 x4, .int .i64 x5, .int .i64 x6, .int .i64 x7, .slice (some ⟨gL, 0, none⟩) 0 cL] 102)).ownsRow m0 102 9 (.slice am' k cm') k xs) := World.ownsRow.alloc HOM6.out _
        go_wp2_with (at_builtin; refine wpList_append_gw _ rfl _ _ 33 rfl m0 102 i0 _ 9 88 Tryz.underlying33 hi hz0 hz1 hz2 rfl (by decide) _ _ _ rfl HOA.out ⟨w5.heap.size, 0, none⟩ 1 1 [.int .i64 x0, .int .i64 x1, .int .i64 x2, .int .i64 x3, .int .i64 x4, .int .i64 x5, .int .i64 x6, .int .i64 x7, .slice (some ⟨gL, 0, none⟩) 0 cL] rfl rfl HNC.out (by simp [Value.oneCell']) (by unfold maxLen; omega) (by omega) (by simp <;> omega) ?_; intro v8 w8 hown hgrow; have hgr : Gw ((w5.setCell ⟨wr.heap.size, 8, none⟩ (.slice (some ⟨gL, 0, none⟩) 0 cL)).alloc (.cells #[.int .i64 x0, .int .i64 x1, .int .i64 x2, .int .i64 x3, .int .i64 x4, .int .i64 x5, .int .i64 x6, .int .i64 x7, .slice (some ⟨gL, 0, none⟩) 0 cL] 102)) w8 (.slice am' k cm') v8 := hgrow; obtain ⟨g8, q8, hv8⟩ := Joins.ownsRow_form hown (by omega); subst hv8; have HO8 : Hid (w8.ownsRow m0 102 9 (.slice (some ⟨g8, 0, none⟩) (k + 1) q8) (k + 1) (xs ++ [.int .i64 x0, .int .i64 x1, .int .i64 x2, .int .i64 x3, .int .i64 x4, .int .i64 x5, .int .i64 x6, .int .i64 x7, .slice (some ⟨gL, 0, none⟩) 0 cL])) := hown; have hzA : w5.heap.size + 1 ≤ w8.heap.size := (by have := hgr.size; simp at this; omega); have HBE : Below w0.heap.size w0 w8 := HA5.out.trans (hgr.below HA2.out (fun q hq => Nat.le_trans HMo.2.2.2.2 (HOM6.out.lt q hq).1)); have HC8 : Hid (CS w0 w8 X p0 p1 g0 g1 z av gv rv b d ttl ps gs rs cp1 cg1 cr1 (.slice am' k cm')) := HC.out.blk m0 ⟨by omega, by omega, by omega, by omega, by omega, by omega⟩ HBE (by omega) (fun q hq => (hgr.block q (HA4.out q hq) (fun h => absurd (HOM6.out.lt q h).1 (Nat.not_le.2 hq))).trans (HA3.out q hq)); have l8 : X < w8.heap.size := HC8.out.bx.lt; have f4 := HC8.out.bx.fr 4; have c4 := (Wire.Bk.m7 HC8.out.bx).2.2.2.2.1; have HC9 : Hid (CS w0 (w8.setCell ⟨X, 4, none⟩ (.slice (some ⟨g8, 0, none⟩) (k + 1) q8)) X p0 p1 g0 g1 z av gv rv b d ttl ps gs rs cp1 cg1 cr1 (.slice (some ⟨g8, 0, none⟩) (k + 1) q8)) := HC8.out.setb _; have HO9 : Hid ((w8.setCell ⟨X, 4, none⟩ (.slice (some ⟨g8, 0, none⟩) (k + 1) q8)).ownsRow m0 102 9 (.slice (some ⟨g8, 0, none⟩) (k + 1) q8) (k + 1) (xs ++ [.int .i64 x0, .int .i64 x1, .int .i64 x2, .int .i64 x3, .int .i64 x4, .int .i64 x5, .int .i64 x6, .int .i64 x7, .slice (some ⟨gL, 0, none⟩) 0 cL])) := own_blocks HO8.out (fun z hz => heap_setCell_other _ _ _ _ (by have := (HO8.out.lt z hz).1; simp <;> omega)); have HX9 := HSN.out (some ⟨gL, 0, none⟩) cL (fun h => by cases h); have HX9 : Hid (RowN (xs ++ [.int .i64 x0, .int .i64 x1, .int .i64 x2, .int .i64 x3, .int .i64 x4, .int .i64 x5, .int .i64 x6, .int .i64 x7, .slice (some ⟨gL, 0, none⟩) 0 cL]) ms (k + 1)) := HX9; have HS9 : Hid (m0 ≤ (w8.setCell ⟨X, 4, none⟩ (.slice (some ⟨g8, 0, none⟩) (k + 1) q8)).heap.size) := (by simp only [Hid, World.setCell]; simp <;> omega); clear hown hgrow hgr HBE HO8 HC8 HOM6 HOA HNC HBL HBW hzA HA2 HA3 HA4 HA5)
        go_roundw
        case rel => exact ⟨k + 1, _, some ⟨g8, 0, none⟩, q8, by omega, by go_num, HC9, HO9, HX9, HS9⟩
        case measure => simp [intOf]; omega
      · have hke : k = ms.length := by omega
        subst hke
        have hcap : ms.length ≤ cm' := by
          rcases Joins.ownsRow_forms HOM.out with ⟨h1, h2⟩ | ⟨g, cap, h1⟩
          · omega
          · simp only [Value.slice.injEq] at h1
            obtain ⟨rfl, _, rfl⟩ := h1
            exact (owns_cells HOM.out).2.1
        obtain ⟨a9, c9, hv, hes⟩ := rowN_own HOM.out rfl (by omega) HXM.out HML.out
        simp only [Value.slice.injEq] at hv
        obtain ⟨hv1, _, hv2⟩ := hv
        subst hv1 hv2
        have HES : Hid (OwnEs tyMg 102 m0 wr.heap.size wr am' ms.length ms) := hes
        have HRR : Hid (Wire.Bk wr (qq + 1) #[.int .i64 0, .int .i64 0, .slice none 0 0, .int .i64 0, .slice none 0 0, .slice none 0 0, .slice none 0 0] 36) := HRC.out.keepN HC.out.bel (by have := hs0.out; have := HQ.out; omega)
        obtain ⟨x0, x1, x2, x3, x4, x5, x6⟩ := Wire.Bk.m7 HC.out.bx
        obtain ⟨y0, y1, y2, y3, y4, y5, y6⟩ := Wire.Bk.m7 HRR.out
        obtain ⟨f0, f1, f2, f3, f4, f5, f6⟩ := Wire.Bk.g7 HRR.out
        have lrr := HRR.out.lt
        have HSS : Hid (BagS m0 wr.heap.size wr am' cm' ms) := ⟨_, HOM.out, HXM.out, fun z hz => (HOM.out.lt z hz).2⟩
        clear hes HOM HXM
        go_wp2
        have hE := HRR.out.setL [.int .i64 b, .int .i64 d, .slice av ps.length cp1, .int .i64 ttl, .slice am' ms.length cm', .slice gv gs.length cg1, .slice rv rs.length cr1] 0
        rw [ovrE] at hE
        have hoth : ∀ q, w0.heap.size ≤ q → (Wire.setL wr (qq + 1) 0 [.int .i64 b, .int .i64 d, .slice av ps.length cp1, .int .i64 ttl, .slice am' ms.length cm', .slice gv gs.length cg1, .slice rv rs.length cr1]).heap[q]? = wr.heap[q]? := fun q hq => Wire.setL_oth (by have := hs0.out; have := HQ.out; omega) _ _ _
        have hsz : (Wire.setL wr (qq + 1) 0 [.int .i64 b, .int .i64 d, .slice av ps.length cp1, .int .i64 ttl, .slice am' ms.length cm', .slice gv gs.length cg1, .slice rv rs.length cr1]).heap.size = wr.heap.size := Wire.setL_size _ _ _
        have hN : OwnN w.heap.size (Wire.setL wr (qq + 1) 0 [.int .i64 b, .int .i64 d, .slice av ps.length cp1, .int .i64 ttl, .slice am' ms.length cm', .slice gv gs.length cg1, .slice rv rs.length cr1]).heap.size (Wire.setL wr (qq + 1) 0 [.int .i64 b, .int .i64 d, .slice av ps.length cp1, .int .i64 ttl, .slice am' ms.length cm', .slice gv gs.length cg1, .slice rv rs.length cr1]) av am' gv rv ps.length ms.length gs.length rs.length ps ms gs rs := by
          rw [hsz]
          have n1 := HC.out.num
          have n3 := HMN.out
          have n4 := hs0.out
          have n7 := HQ.out
          have n5 := HC.out.bel.size
          have n6 := HSZ.out
          exact ⟨⟨p0, p1, m0, wr.heap.size, g0, g1, z, z + 1, by omega, by omega, HC.out.op.blocks (fun q a1 a2 _ => hoth q (by omega)), HES.out.blocks (fun q a1 a2 _ => hoth q (by omega)), HC.out.og.blocks (fun q a1 a2 _ => hoth q (by omega)), HC.out.orr.blocks (fun q a1 a2 _ => hoth q (by omega))⟩⟩
        have hSp : SpN w.heap.size (Wire.setL wr (qq + 1) 0 [.int .i64 b, .int .i64 d, .slice av ps.length cp1, .int .i64 ttl, .slice am' ms.length cm', .slice gv gs.length cg1, .slice rv rs.length cr1]).heap.size (Wire.setL wr (qq + 1) 0 [.int .i64 b, .int .i64 d, .slice av ps.length cp1, .int .i64 ttl, .slice am' ms.length cm', .slice gv gs.length cg1, .slice rv rs.length cr1]) av am' gv rv cm' cg1 ps ms gs rs := by
          rw [hsz]
          have n1 := HC.out.num
          have n3 := HMN.out
          have n4 := hs0.out
          have n7 := HQ.out
          have n5 := HC.out.bel.size
          have n6 := HSZ.out
          exact ⟨⟨p0, p1, m0, wr.heap.size, g0, g1, z, z + 1, by omega, by omega, HC.out.op.blocks (fun q a1 a2 _ => hoth q (by omega)), HSS.out.blocks (fun q a1 a2 _ => hoth q (by omega)), HC.out.og.blocks (fun q a1 a2 _ => hoth q (by omega)), HC.out.orr.blocks (fun q a1 a2 _ => hoth q (by omega))⟩, HC.out.cgl, HC.out.gss⟩
        have hB : Below w.heap.size w (Wire.setL wr (qq + 1) 0 [.int .i64 b, .int .i64 d, .slice av ps.length cp1, .int .i64 ttl, .slice am' ms.length cm', .slice gv gs.length cg1, .slice rv rs.length cr1]) := Wire.setL_below (by have := HQ.out; omega) _ 0 (HB0.out.trans (HC.out.bel.mono (by have := hs0.out; omega)))
        exact bodyPost_ret (results_cell_row Tryz.results98 _ _ (qq + 1) _ _ _ _ rfl hE Tryz.underlying36 rfl (by kernel_rfl)) rfl ⟨_, _, _, _, _, _, _, _, rfl, hN, hB, hcap, hSp⟩
end Go.Proofs.YtdceimnapbblnaaGreat
namespace Go.Proofs.YtdceimnapbblnaaGreat
open Go.RowKit Go.Deep
set_option linter.unusedVariables false
set_option linter.unusedSimpArgs false
theorem msgs_rows {w : World} {bk off : Nat} {ms : List Mg} (h : LsAt tyMg w (some ⟨bk, off, none⟩) ms) (hl : ∀ i, i < ms.length → (ms.getD i mg0).l = []) (s n : Nat) (hs : s + n ≤ ms.length) :
    ∃ xs : List Value, xs.length = n * 9 ∧ (∀ j u, xs[j]? = some u → w.cell? ((⟨bk, off + s * 9, none⟩ : Addr).add j) = some u) ∧ (∀ u ∈ xs, u.oneCell' = true) ∧
      ∀ i, i < n → ∃ a c, (a = none → c = 0) ∧ ∀ j v, (mgV (ms.getD (s + i) mg0) (.slice a 0 c))[j]? = some v → xs[i * 9 + j]? = some v := by
  have key : ∀ i, i < n → ∃ p : Option Addr × Nat, CellsAt w bk (off + s * 9 + i * 9) (mgV (ms.getD (s + i) mg0) (.slice p.1 0 p.2)) ∧ (p.1 = none → p.2 = 0) := fun i hi => by
    obtain ⟨_, a, c, hc, _, _, _, hn⟩ := msAt_cell h (i := s + i) (by omega)
    rw [hl (s + i) (by omega)] at hc
    refine ⟨(a, c), ?_, hn⟩
    rw [show off + s * 9 + i * 9 = off + (s + i) * 9 from by omega]
    exact hc
  obtain ⟨f, hf⟩ := @choose_lt (Option Addr × Nat) ⟨(none, 0)⟩ _ _ key
  obtain ⟨xs, l1, l2, l3, l4⟩ := cells_row (w := w) (bk := bk) (off := off + s * 9) (n := n) (size := 9) (fun i => mgV (ms.getD (s + i) mg0) (.slice (f i).1 0 (f i).2)) (fun i _ => rfl) (fun i hi => (hf i hi).1) (fun i hi u hu => by
    simp [mgV] at hu
    rcases hu with rfl | rfl | rfl | rfl | rfl | rfl | rfl | rfl | rfl <;> rfl)
  exact ⟨xs, l1, l2, l4, fun i hi => ⟨_, _, (hf i hi).2, l3 i hi⟩⟩
theorem erase_getD (ms : List Mg) (k i : Nat) : (ms.eraseIdx k).getD i mg0 = if i < k then ms.getD i mg0 else ms.getD (i + 1) mg0 := by
  rw [List.getD_eq_getElem?_getD, List.getElem?_eraseIdx]
  split <;> rw [List.getD_eq_getElem?_getD]
/-- the messages ahead of the k-th and those behind it -/
theorem rowN_erase {ms : List Mg} {k : Nat} (hk : k < ms.length) {xs ys : List Value} (h1 : xs.length = k * 9) (h2 : ys.length = (ms.length - (k + 1)) * 9)
    (e1 : ∀ i, i < k → ∃ a c, (a = none → c = 0) ∧ ∀ j v, (mgV (ms.getD (0 + i) mg0) (.slice a 0 c))[j]? = some v → xs[i * 9 + j]? = some v)
    (e2 : ∀ i, i < ms.length - (k + 1) → ∃ a c, (a = none → c = 0) ∧ ∀ j v, (mgV (ms.getD (k + 1 + i) mg0) (.slice a 0 c))[j]? = some v → ys[i * 9 + j]? = some v) :
    RowN (xs ++ ys) (ms.eraseIdx k) (ms.length - 1) := by
  refine ⟨by rw [List.length_append, h1, h2, ← Nat.add_mul]; congr 1; omega, fun i hi => ?_⟩
  rw [erase_getD]
  by_cases hik : i < k
  · rw [if_pos hik]
    obtain ⟨a, c, q1, q2⟩ := e1 i hik
    rw [Nat.zero_add] at q2
    refine ⟨a, c, q1, fun j v hj => ?_⟩
    have hh := q2 j v hj
    rw [List.getElem?_append_left (List.getElem?_eq_some_iff.1 hh).1]
    exact hh
  · rw [if_neg hik]
    obtain ⟨a, c, q1, q2⟩ := e2 (i - k) (by omega)
    rw [show k + 1 + (i - k) = i + 1 from by omega] at q2
    refine ⟨a, c, q1, fun j v hj => ?_⟩
    have hh := q2 j v hj
    have : k * 9 ≤ i * 9 := Nat.mul_le_mul_right _ (by omega)
    rw [List.getElem?_append_right (by omega), h1, show i * 9 + j - k * 9 = (i - k) * 9 + j from by rw [Nat.sub_mul]; omega]
    exact hh
theorem erase_len {ms : List Mg} {k : Nat} (hk : k < ms.length) : (ms.eraseIdx k).length = ms.length - 1 := List.length_eraseIdx_of_lt hk
theorem erase_nil {ms : List Mg} {k : Nat} (hk : k < ms.length) (hl : ∀ i, i < ms.length → (ms.getD i mg0).l = []) : ∀ i, i < (ms.eraseIdx k).length → ((ms.eraseIdx k).getD i mg0).l = [] := fun i hi => by
  rw [erase_len hk] at hi
  rw [erase_getD]
  split
  · exact hl i (by omega)
  · exact hl (i + 1) (by omega)
end Go.Proofs.YtdceimnapbblnaaGreat
namespace Go.Proofs.YtdceimnapbblnaaGreat
open Go.RowKit Go.Deep
set_option linter.unusedVariables false
theorem results_cell_cell {fn : Func} {p q : Tmp} {ty tz : TypeId} (h : fn.results = #[.cell p ty, .cell q tz]) (tmps : Array Value) (w : World) (g k : Nat) (t u : TypeId) (cs ds : Array Value) (fr fs : Nat × Nat) (d e : TypeDesc)
    (hp : tmps.getD p undef = .pointer (some ⟨g, 0, none⟩)) (hq : tmps.getD q undef = .pointer (some ⟨k, 0, none⟩)) (hg : w.heap[g]? = some (.cells cs t fr)) (hk : w.heap[k]? = some (.cells ds u fs))
    (hu : Tryz.prog.underlying ty = some d) (hd : isRowD d = true) (hi : (Tryz.prog.info? ty).map (·.size) = some cs.size)
    (hv : Tryz.prog.underlying tz = some e) (he : isRowD e = true) (hj : (Tryz.prog.info? tz).map (·.size) = some ds.size) :
    (results fn tmps).run Tryz.prog w = .ok (.tuple #[.agg cs, .agg ds]) w := by
  have hp' : tmps[p]?.getD undef = .pointer (some ⟨g, 0, none⟩) := by simpa using hp
  have hq' : tmps[q]?.getD undef = .pointer (some ⟨k, 0, none⟩) := by simpa using hq
  have hl := run_loadVar_row w g t ty cs fr d hg hu (by cases d <;> first | rfl | (simp [isRowD] at hd)) hi
  have hm := run_loadVar_row w k u tz ds fs e hk hv (by cases e <;> first | rfl | (simp [isRowD] at he)) hj
  simp [results, h, hp', hq', asAddr, hl, hm]
end Go.Proofs.YtdceimnapbblnaaGreat
namespace Go.Proofs.YtdceimnapbblnaaGreat
open Go.RowKit Go.Deep
set_option linter.unusedVariables false
set_option linter.unusedSimpArgs false
/-- is k the number of one of n messages? -/
def isNo (k : Int) (n : Nat) : Bool := decide (0 ≤ k) && decide (k < (n : Int))
theorem isNo_true {k : Int} {n : Nat} (h : isNo k n = true) : 0 ≤ k ∧ k.toNat < n ∧ k = (k.toNat : Int) := by
  unfold isNo at h
  simp only [Bool.and_eq_true, decide_eq_true_iff] at h
  omega
theorem inB_isNo (k : Int) (n : Nat) : inB k 0 ((n : Int) - 1) = isNo k n := by
  unfold inB isNo
  by_cases h1 : 0 ≤ k <;> by_cases h2 : k < (n : Int)
  · simp [h1, h2]; omega
  · simp [h1, h2]; omega
  · simp [h1, h2]
  · simp [h1, h2]
set_option maxHeartbeats 3200000 in
theorem isInBag_any (q : Nat) (b d ttl : Int) (ap am ag ar : Option Addr) (cp cm cg cr : Nat) (ps : List Pr) (ms : List Mg) (gs : List Int) (rs : List Rp) (k : Int) (w : World) (hk : Wire.Bk w q #[.int .i64 b, .int .i64 d, .slice ap ps.length cp, .int .i64 ttl, .slice am ms.length cm, .slice ag gs.length cg, .slice ar rs.length cr] 36) (hm : ms.length ≤ 1048576) :
    Calls Tryz.prog 91 #[.pointer (some ⟨q, 0, none⟩), .int .i64 k] w fun e w' => e = .returned (.bool (isNo k ms.length)) ∧ w' = w := by
  obtain ⟨j0, j1, j2, j3, j4, j5, j6⟩ := Wire.Bk.m7 hk
  have hq := hk.lt
  clear hk
  by_cases h1 : 0 ≤ k
  · by_cases h2 : k < (ms.length : Int)
    · have HV : Hid (isNo k ms.length = true) := by unfold isNo; simp [Hid, h1, h2]
      go_enter Tryz.func91, Tryz.ntmps91
      go_wp2
      go_ret
      exact ⟨ret_bool HV.out.symm, rfl⟩
    · have HV : Hid (isNo k ms.length = false) := by unfold isNo; simp [Hid, h1, h2]
      have h2 : (ms.length : Int) ≤ k := by omega
      go_enter Tryz.func91, Tryz.ntmps91
      go_wp2
      go_ret
      exact ⟨ret_bool HV.out.symm, rfl⟩
  · have HV : Hid (isNo k ms.length = false) := by unfold isNo; simp [Hid, h1]
    have h1 : k < 0 := by omega
    go_enter Tryz.func91, Tryz.ntmps91
    go_wp2
    go_ret
    exact ⟨ret_bool HV.out.symm, rfl⟩
end Go.Proofs.YtdceimnapbblnaaGreat
