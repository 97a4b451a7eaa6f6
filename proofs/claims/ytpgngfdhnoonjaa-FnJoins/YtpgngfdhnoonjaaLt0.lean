/- What the laws of chapter 7 say, in numbers: puts, drops, joins, arcs. -/
import Derived.Test.YtpgngfdhnoonjaaMp6
namespace Go.Proofs.Ytpgngfdhnoonjaa.Tb
open Go.RowKit Wire Go.Deep
set_option linter.unusedVariables false
set_option linter.unusedSimpArgs false
theorem rf_lk {b d : Int} {ms : List Rw} (G : GT b d ms) (key : Int) : rfB b d ms key = (lk ms key).isSome ∧ rfV b d ms key = (lk ms key).getD rw0 := by
  have h1 : rfB b d ms key = hasK ms key := by unfold rfB; rw [gt_goodT G]; rfl
  unfold rfV
  rw [h1, lk_has G.inc]
  cases hasK ms key <;> exact ⟨rfl, rfl⟩
theorem gt_lk {b d : Int} {ms : List Rw} (G : GT b d ms) {key : Int} {r : Rw} (h : lk ms key = some r) : gtB b d ms key = !r.b ∧ (r.b = false → gtV b d ms key = r.x2) := by
  obtain ⟨h1, h2⟩ := rf_lk G key
  rw [h] at h1 h2
  have hb : gtB b d ms key = !r.b := by unfold gtB; rw [h1, h2]; rfl
  refine ⟨hb, fun hr => ?_⟩
  unfold gtV
  rw [hb, hr, if_pos (by rfl), h2]
  rfl
theorem gt_put {b d : Int} {ms : List Rw} (G : GT b d ms) {r : Rw} (hr : rowB b d r = true) (hp : plB ms r.x0 = true) : GT b d (putL ms r) :=
  ⟨G.gs, plB_room G hp, putL_inc G.inc r, fun q hq => by
    rcases (putL_mem G.inc r q).1 hq with rfl | ⟨hq, _⟩
    · exact hr
    · exact G.row q hq⟩
theorem newR_row {b d : Int} {ms : List Rw} (G : GT b d ms) {key val : Int} {gone : Bool} (hk : numB b d key = true) (hv : inB val 0 1000000 = true) (hg : gone = true → val = 0) (hp : plB ms key = true) : rowB b d (newR ms key val gone) = true := by
  have hver : inB (newR ms key val gone).x1 1 1000000 = true := by
    unfold newR
    unfold plB at hp
    by_cases hh : hasK ms key = true
    · rw [if_pos hh] at hp ⊢
      have hat := (of_decide_eq_true hh).1
      have h1 := (rowB_true (G.row (ms.getD (atK ms key) rw0) (by rw [getD_at hat]; exact List.getElem_mem hat))).2.1
      have h2 := of_decide_eq_true hp
      refine inB_yes ?_ ?_ <;> dsimp only <;> omega
    · rw [if_neg hh]
      refine inB_yes ?_ ?_ <;> dsimp only <;> omega
  have h0 : (newR ms key val gone).x0 = key := rfl
  have h2 : (newR ms key val gone).x2 = val := rfl
  have h3 : (newR ms key val gone).b = gone := rfl
  unfold rowB
  rw [hver, h0, h2, h3, hk, hv]
  cases gone
  · rfl
  · rw [hg rfl]; rfl
/-- what a table is behind a put that was told true -/
structure PutF (b d : Int) (ms : List Rw) (key val : Int) (P : List Rw) (r : Rw) : Prop where
  good : goodT b d P = true
  gt : GT b d P
  one : gtB b d P key = true
  val_ : gtV b d P key = val
  three : rfB b d P key = true
  row : rfV b d P key = r
  was : rfB b d ms key = true → r.x1 = (rfV b d ms key).x1 + 1
  new : rfB b d ms key = false → r.x1 = 1
  two : dpB b d P key = decide (r.x1 < 1000000)
  four : dpB b d P key = true → gtB b d (dpL b d P key) key = false
  len : dpB b d P key = true → (dpL b d P key).length = P.length
  ver : 1 ≤ r.x1 ∧ r.x1 ≤ 1000000
theorem putF {b d : Int} {ms : List Rw} {key val : Int} (h : ptB b d ms key val = true) : PutF b d ms key val (ptL b d ms key val) (newR ms key val false) := by
  rw [ptL_yes h]
  unfold ptB at h
  rw [Bool.and_eq_true, Bool.and_eq_true, Bool.and_eq_true] at h
  obtain ⟨⟨⟨hg, hk⟩, hv⟩, hp⟩ := h
  have G := goodT_gt hg
  have hrow := newR_row (gone := false) G hk hv (fun h => by cases h) hp
  have GP : GT b d (putL ms (newR ms key val false)) := gt_put G hrow hp
  have hlk : lk (putL ms (newR ms key val false)) key = some (newR ms key val false) := by
    rw [lk_put G.inc]
    exact if_pos rfl
  obtain ⟨r1, r2⟩ := rf_lk GP key
  obtain ⟨g1, g2⟩ := gt_lk GP hlk
  obtain ⟨o1, o2⟩ := rf_lk G key
  rw [hlk] at r1 r2
  have hn := newR_lk G key val false
  have hone : gtB b d (putL ms (newR ms key val false)) key = true := g1
  have hhas : hasK (putL ms (newR ms key val false)) key = true := by
    have h1 := lk_has GP.inc key
    rw [hlk] at h1
    cases hh : hasK (putL ms (newR ms key val false)) key
    · rw [hh] at h1; cases h1
    · rfl
  have hgd : (putL ms (newR ms key val false)).getD (atK (putL ms (newR ms key val false)) key) rw0 = newR ms key val false := by
    have h1 := lk_has GP.inc key
    rw [hlk, if_pos hhas] at h1
    exact (Option.some.inj h1).symm
  have hpl : plB (putL ms (newR ms key val false)) key = decide ((newR ms key val false).x1 < 1000000) := by
    unfold plB
    rw [if_pos hhas, hgd]
  have hdp : dpB b d (putL ms (newR ms key val false)) key = decide ((newR ms key val false).x1 < 1000000) := by
    unfold dpB
    rw [hone, hpl]
    rfl
  have hver := (rowB_true hrow).2.1
  refine ⟨gt_goodT GP, GP, hone, g2 rfl, r1, r2, fun hw => ?_, fun hw => ?_, hdp, fun hd => ?_, fun hd => ?_, hver⟩
  · rw [o2, hn]
  · rw [o1] at hw
    rw [hn]
    cases hl : lk ms key
    · rfl
    · rw [hl] at hw; cases hw
  · have hp2 : plB (putL ms (newR ms key val false)) key = true := by rw [hpl, ← hdp]; exact hd
    have hrow2 := newR_row (key := key) (val := 0) (gone := true) GP hk (inB_yes (by omega) (by omega)) (fun _ => rfl) hp2
    have GD : GT b d (putL (putL ms (newR ms key val false)) (newR (putL ms (newR ms key val false)) key 0 true)) := gt_put GP hrow2 hp2
    have hl2 : lk (putL (putL ms (newR ms key val false)) (newR (putL ms (newR ms key val false)) key 0 true)) key = some (newR (putL ms (newR ms key val false)) key 0 true) := by
      rw [lk_put GP.inc]
      exact if_pos rfl
    rw [dpL_yes hd]
    exact (gt_lk GD hl2).1
  · rw [dpL_yes hd, putL_len]
    show (if hasK (putL ms (newR ms key val false)) key = true then _ else _) = _
    rw [if_pos hhas]
/-- of two rows of a key the newer one -/
def mrg (p q : Option Rw) : Option Rw := match q with
  | none => p
  | some r => if newB r (p.getD rw0) = true then some r else p
theorem foldF_mrg : ∀ {ns : List Rw} (f : Int → Option Rw) (k : Int), Inc ns → foldF f ns k = mrg (f k) (lk ns k)
  | [], f, k, _ => rfl
  | r :: ns, f, k, h => by
    have h1 : Inc ns := (List.pairwise_cons.1 h).2
    have h2 := (List.pairwise_cons.1 h).1
    show foldF (stepF f r) ns k = _
    rw [foldF_mrg (stepF f r) k h1, lk_cons]
    by_cases hk : r.x0 = k
    · subst hk
      have hn : lk ns r.x0 = none := lk_none (fun q hq => by have := h2 q hq; omega)
      rw [if_pos rfl, hn]
      show stepF f r r.x0 = if newB r ((f r.x0).getD rw0) = true then some r else f r.x0
      unfold stepF
      split
      · exact if_pos rfl
      · rfl
    · rw [if_neg hk]
      have : stepF f r k = f k := by
        unfold stepF
        split
        · exact if_neg (fun e => hk e.symm)
        · rfl
      rw [this]
theorem newB_asym {a c : Rw} (h : newB a c = true) : newB c a = false := by
  unfold newB at h ⊢
  by_cases h1 : a.x1 = c.x1
  · rw [if_pos h1] at h
    rw [if_pos h1.symm]
    by_cases h2 : a.b = c.b
    · rw [if_pos h2] at h
      rw [if_pos h2.symm]
      have := of_decide_eq_true h
      exact decide_eq_false (by omega)
    · rw [if_neg h2] at h
      rw [if_neg (fun e => h2 e.symm)]
      cases hc : c.b
      · rfl
      · rw [h, hc] at h2; exact absurd rfl h2
  · rw [if_neg h1] at h
    rw [if_neg (fun e => h1 e.symm)]
    have := of_decide_eq_true h
    exact decide_eq_false (by omega)
theorem newB_irr (a : Rw) : newB a a = false := by
  cases h : newB a a
  · rfl
  · have := newB_asym h; rw [h] at this; cases this
theorem newB_tot {a c : Rw} (h0 : a.x0 = c.x0) (h1 : newB a c = false) (h2 : newB c a = false) : a = c := by
  unfold newB at h1 h2
  by_cases e1 : a.x1 = c.x1
  · rw [if_pos e1] at h1
    rw [if_pos e1.symm] at h2
    by_cases e2 : a.b = c.b
    · rw [if_pos e2] at h1
      rw [if_pos e2.symm] at h2
      have a1 := of_decide_eq_false h1
      have a2 := of_decide_eq_false h2
      obtain ⟨p0, p1, p2, pb⟩ := a
      obtain ⟨q0, q1, q2, qb⟩ := c
      dsimp only at *
      have : p2 = q2 := by omega
      subst h0 e1 e2 this
      rfl
    · rw [if_neg e2] at h1
      rw [if_neg (fun e => e2 e.symm)] at h2
      rw [h1, h2] at e2
      exact absurd rfl e2
  · rw [if_neg e1] at h1
    rw [if_neg (fun e => e1 e.symm)] at h2
    have a1 := of_decide_eq_false h1
    have a2 := of_decide_eq_false h2
    omega
theorem mrg_self (p : Option Rw) : mrg p p = p := by
  cases p with
  | none => rfl
  | some r => show (if newB r r = true then some r else some r) = some r; split <;> rfl
theorem mrg_again (p q : Option Rw) : mrg (mrg p q) p = mrg p q := by
  cases p with
  | none => rfl
  | some a =>
    cases q with
    | none => exact mrg_self _
    | some c =>
      show (if newB a ((if newB c a = true then some c else some a : Option Rw).getD rw0) = true then some a else (if newB c a = true then some c else some a)) = (if newB c a = true then some c else some a)
      by_cases h : newB c a = true
      · rw [if_pos h]
        show (if newB a c = true then some a else some c) = some c
        rw [newB_asym h]
        rfl
      · rw [if_neg h]
        show (if newB a a = true then some a else some a) = some a
        split <;> rfl
theorem mrg_comm {p q : Option Rw} {k : Int} (hp : ∀ r, p = some r → r.x0 = k ∧ 1 ≤ r.x1) (hq : ∀ r, q = some r → r.x0 = k ∧ 1 ≤ r.x1) : mrg p q = mrg q p := by
  cases p with
  | none =>
    cases q with
    | none => rfl
    | some c =>
      show (if newB c rw0 = true then some c else none) = some c
      rw [if_pos (newB_zero (hq c rfl).2)]
  | some a =>
    cases q with
    | none =>
      show some a = (if newB a rw0 = true then some a else none)
      rw [if_pos (newB_zero (hp a rfl).2)]
    | some c =>
      show (if newB c a = true then some c else some a) = (if newB a c = true then some a else some c)
      by_cases h : newB c a = true
      · rw [if_pos h, newB_asym h]; rfl
      · rw [if_neg h]
        by_cases h2 : newB a c = true
        · rw [if_pos h2]
        · rw [if_neg h2]
          have := newB_tot ((hp a rfl).1.trans (hq c rfl).1.symm) (by simpa using h2) (by simpa using h)
          rw [this]
theorem lk_join {b d : Int} {ms ns : List Rw} (G : GT b d ms) (H : GT b d ns) (k : Int) : lk (joinL ms ns) k = mrg (lk ms k) (lk ns k) := by
  rw [lk_joinL G.inc H.ver]
  exact foldF_mrg _ _ H.inc
theorem lk_ver {b d : Int} {ms : List Rw} (G : GT b d ms) {k : Int} : ∀ r, lk ms k = some r → r.x0 = k ∧ 1 ≤ r.x1 := fun r h => ⟨(lk_some h).2, G.ver r (lk_some h).1⟩
theorem join_ext {L M : List Rw} (hL : Inc L) (hM : Inc M) (h : ∀ k, lk L k = lk M k) : L = M := inc_lk hL hM (fun r _ => h _)
theorem join_comm {b d : Int} {ms ns : List Rw} (G : GT b d ms) (H : GT b d ns) : joinL ns ms = joinL ms ns :=
  join_ext (joinL_inc H.inc) (joinL_inc G.inc) (fun k => by rw [lk_join H G, lk_join G H]; exact mrg_comm (lk_ver H) (lk_ver G))
theorem join_gt {b d : Int} {ms ns : List Rw} (G : GT b d ms) (H : GT b d ns) (hl : (joinL ms ns).length ≤ 8) : GT b d (joinL ms ns) :=
  ⟨G.gs, hl, joinL_inc G.inc, fun r hr => by
    have h1 := lk_mem (joinL_inc G.inc) hr
    rw [lk_join G H] at h1
    cases h2 : lk ns r.x0 with
    | none =>
      rw [h2] at h1
      exact G.row r (lk_some h1).1
    | some c =>
      rw [h2] at h1
      have h3 : (if newB c ((lk ms r.x0).getD rw0) = true then some c else lk ms r.x0) = some r := h1
      split at h3
      · cases h3
        exact H.row _ (lk_some h2).1
      · exact G.row r (lk_some h3).1⟩
/-- what a join that was told true is -/
structure JoinF (b d : Int) (ms ns J : List Rw) : Prop where
  good : goodT b d J = true
  gt : GT b d J
  back : jnB b d ns ms = true
  backL : jnL b d ns ms = J
  again : jnB b d J ms = true
  againL : jnL b d J ms = J
  same : jnB b d J J = true
  sameL : jnL b d J J = J
  row : ∀ r ∈ ms ++ ns, rfB b d J r.x0 = true ∧ r.x1 ≤ (rfV b d J r.x0).x1
  key : ∀ r ∈ ms ++ ns, 0 ≤ r.x0 ∧ r.x0 ≤ 4096
theorem newB_ver {a c : Rw} (h : newB a c = true) : c.x1 ≤ a.x1 := by
  unfold newB at h
  by_cases h1 : a.x1 = c.x1
  · omega
  · rw [if_neg h1] at h
    have := of_decide_eq_true h
    omega
theorem newB_ver' {a c : Rw} (h : ¬ newB a c = true) : a.x1 ≤ c.x1 := by
  unfold newB at h
  by_cases h1 : a.x1 = c.x1
  · omega
  · rw [if_neg h1] at h
    have : ¬ (c.x1 < a.x1) := fun e => h (decide_eq_true e)
    omega
theorem joinF {b d : Int} {ms ns : List Rw} (h : jnB b d ms ns = true) : JoinF b d ms ns (jnL b d ms ns) := by
  rw [jnL_yes h]
  unfold jnB at h
  rw [Bool.and_eq_true, Bool.and_eq_true] at h
  obtain ⟨⟨g1, g2⟩, hl⟩ := h
  have hl := of_decide_eq_true hl
  have G := goodT_gt g1
  have H := goodT_gt g2
  have J := join_gt G H hl
  have gj := gt_goodT J
  have hc := join_comm G H
  have ha : joinL (joinL ms ns) ms = joinL ms ns := join_ext (joinL_inc J.inc) J.inc (fun k => by rw [lk_join J G, lk_join G H]; exact mrg_again _ _)
  have hs : joinL (joinL ms ns) (joinL ms ns) = joinL ms ns := join_ext (joinL_inc J.inc) J.inc (fun k => by rw [lk_join J J]; exact mrg_self _)
  have e1 : jnB b d ns ms = true := by unfold jnB; rw [g2, g1, hc, decide_eq_true hl]; rfl
  have e2 : jnB b d (joinL ms ns) ms = true := by unfold jnB; rw [gj, g1, ha, decide_eq_true hl]; rfl
  have e3 : jnB b d (joinL ms ns) (joinL ms ns) = true := by unfold jnB; rw [gj, hs, decide_eq_true hl]; rfl
  refine ⟨gj, J, e1, by rw [jnL_yes e1, hc], e2, by rw [jnL_yes e2, ha], e3, by rw [jnL_yes e3, hs], fun r hr => ?_, fun r hr => ?_⟩
  · obtain ⟨r1, r2⟩ := rf_lk J r.x0
    rw [lk_join G H] at r1 r2
    rw [r1, r2]
    rcases List.mem_append.1 hr with hr | hr
    · rw [lk_mem G.inc hr]
      cases hq : lk ns r.x0 with
      | none => exact ⟨rfl, Int.le_refl _⟩
      | some c =>
        show (if newB c r = true then some c else some r : Option Rw).isSome = true ∧ r.x1 ≤ ((if newB c r = true then some c else some r : Option Rw).getD rw0).x1
        split
        · rename_i hn; exact ⟨rfl, newB_ver hn⟩
        · exact ⟨rfl, Int.le_refl _⟩
    · rw [lk_mem H.inc hr]
      show (if newB r ((lk ms r.x0).getD rw0) = true then some r else lk ms r.x0 : Option Rw).isSome = true ∧ r.x1 ≤ ((if newB r ((lk ms r.x0).getD rw0) = true then some r else lk ms r.x0 : Option Rw).getD rw0).x1
      split
      · exact ⟨rfl, Int.le_refl _⟩
      · rename_i hn
        cases hp : lk ms r.x0 with
        | none =>
          rw [hp] at hn
          exact absurd (newB_zero (H.ver r hr)) hn
        | some a =>
          rw [hp] at hn
          exact ⟨rfl, newB_ver' hn⟩
  · rcases List.mem_append.1 hr with hr | hr
    · exact G.key r hr
    · exact H.key r hr
theorem jn_back {b d : Int} {ms ns : List Rw} (h : jnB b d ms ns = false) : jnB b d ns ms = false := by
  cases h2 : jnB b d ns ms
  · rfl
  · rw [(joinF h2).back] at h; cases h
theorem arc_cover {b f t x : Int} (f1 : 0 ≤ f) (f2 : f < sz b) (t1 : 0 ≤ t) (t2 : t < sz b) (x1 : 0 ≤ x) (x2 : x < sz b) (h : ¬ f = t) (hn : arcB b f x t = false) : arcB b t x f = true := by
  have h1 := of_decide_eq_false hn
  rw [dist_eq f1 f2 x1 x2, dist_eq f1 f2 t1 t2] at h1
  refine decide_eq_true ?_
  rw [dist_eq t1 t2 x1 x2, dist_eq t1 t2 f1 f2]
  repeat' split at h1
  all_goals repeat' split
  all_goals omega
/-- rows of an arc, and of the arc back: all rows -/
structure ArcF (b d : Int) (ms : List Rw) (f t : Int) : Prop where
  back : riB b d ms t f = true
  both : jnB b d (riL b d ms f t) (riL b d ms t f) = true
  bothL : jnL b d (riL b d ms f t) (riL b d ms t f) = ms
theorem gt_arc {b d : Int} {ms : List Rw} (G : GT b d ms) (f t : Int) : GT b d (arcF b f t ms) :=
  ⟨G.gs, Nat.le_trans arcF_len G.len, arcF_inc G.inc, fun r hr => G.row r (List.mem_filter.1 hr).1⟩
theorem arcF2 {b d : Int} {ms : List Rw} {f t : Int} (h : riB b d ms f t = true) (hne : ¬ f = t) : ArcF b d ms f t := by
  have h0 := h
  unfold riB at h0
  rw [Bool.and_eq_true, Bool.and_eq_true] at h0
  obtain ⟨⟨hg, hf⟩, ht⟩ := h0
  have G := goodT_gt hg
  have hb : riB b d ms t f = true := by unfold riB; rw [hg, hf, ht]; rfl
  obtain ⟨_, f1, f2⟩ := numB_true hf
  obtain ⟨_, t1, t2⟩ := numB_true ht
  have e : joinL (arcF b f t ms) (arcF b t f ms) = ms := join_ext (joinL_inc (arcF_inc G.inc)) G.inc (fun k => by
    rw [lk_join (gt_arc G f t) (gt_arc G t f), arcF_lk G.inc, arcF_lk G.inc]
    cases hk : lk ms k with
    | none =>
      have e1 : (if arcB b f k t = true then (none : Option Rw) else none) = none := by split <;> rfl
      have e2 : (if arcB b t k f = true then (none : Option Rw) else none) = none := by split <;> rfl
      rw [e1, e2]
      rfl
    | some r =>
      have hr := (rowB_true (G.row r (lk_some hk).1)).1
      have hv := G.ver r (lk_some hk).1
      rw [(lk_some hk).2] at hr
      by_cases ha : arcB b f k t = true
      · rw [if_pos ha]
        by_cases hc : arcB b t k f = true
        · rw [if_pos hc]; exact mrg_self _
        · rw [if_neg hc]; rfl
      · rw [if_neg ha, if_pos (arc_cover f1 f2 t1 t2 hr.1 hr.2 hne (by simpa using ha))]
        show (if newB r rw0 = true then some r else none) = some r
        rw [if_pos (newB_zero hv)])
  have e2 : jnB b d (riL b d ms f t) (riL b d ms t f) = true := by
    rw [riL_yes h, riL_yes hb]
    unfold jnB
    rw [gt_goodT (gt_arc G f t), gt_goodT (gt_arc G t f), e, decide_eq_true G.len]
    rfl
  refine ⟨hb, e2, ?_⟩
  rw [jnL_yes e2, riL_yes h, riL_yes hb, e]
end Go.Proofs.Ytpgngfdhnoonjaa.Tb
