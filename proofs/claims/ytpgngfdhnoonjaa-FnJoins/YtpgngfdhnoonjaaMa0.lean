/- Tables as lists that rise by key, and as what they tell of each key: put, joined, cut by an arc; two that tell alike are one. -/
import Derived.Test.YtpgngfdhnoonjaaTb1
namespace Go.Proofs.Ytpgngfdhnoonjaa.Tb
set_option linter.unusedVariables false
set_option linter.unusedSimpArgs false
def Inc (ms : List Rw) : Prop := ms.Pairwise (fun p q => p.x0 < q.x0)
def lk (ms : List Rw) (k : Int) : Option Rw := ms.find? (fun r => r.x0 == k)
theorem lk_some {ms : List Rw} {k : Int} {r : Rw} (h : lk ms k = some r) : r ∈ ms ∧ r.x0 = k := ⟨List.mem_of_find?_eq_some h, by simpa using List.find?_some h⟩
theorem lk_nil (k : Int) : lk [] k = none := rfl
theorem lk_cons (r : Rw) (ms : List Rw) (k : Int) : lk (r :: ms) k = if r.x0 = k then some r else lk ms k := by
  unfold lk
  rw [List.find?_cons]
  by_cases h : r.x0 = k
  · simp [h]
  · have : (r.x0 == k) = false := by simpa using h
    simp [this, h]
theorem lk_append (l m : List Rw) (k : Int) : lk (l ++ m) k = (lk l k).or (lk m k) := by
  unfold lk
  rw [List.find?_append]
theorem lk_mem {ms : List Rw} (h : Inc ms) {r : Rw} (hr : r ∈ ms) : lk ms r.x0 = some r := by
  induction ms with
  | nil => simp at hr
  | cons a l ih =>
    obtain ⟨h1, h2⟩ := List.pairwise_cons.1 h
    rw [lk_cons]
    rcases List.mem_cons.1 hr with rfl | hr
    · simp
    · have := h1 r hr
      rw [if_neg (by omega)]
      exact ih h2 hr
theorem lk_none {ms : List Rw} {k : Int} (h : ∀ r ∈ ms, ¬ r.x0 = k) : lk ms k = none := by
  unfold lk
  rw [List.find?_eq_none]
  intro x hx
  simpa using h x hx
theorem inc_ext : ∀ {L M : List Rw}, Inc L → Inc M → (∀ r, r ∈ L ↔ r ∈ M) → L = M
  | [], [], _, _, _ => rfl
  | [], b :: M, _, _, h => by have := (h b).2 (by simp); simp at this
  | a :: L, [], _, _, h => by have := (h a).1 (by simp); simp at this
  | a :: L, b :: M, hL, hM, h => by
    obtain ⟨l1, l2⟩ := List.pairwise_cons.1 hL
    obtain ⟨m1, m2⟩ := List.pairwise_cons.1 hM
    have hab : a = b := by
      have ha := (h a).1 (by simp)
      have hb := (h b).2 (by simp)
      rcases List.mem_cons.1 ha with ha | ha
      · exact ha
      · rcases List.mem_cons.1 hb with hb | hb
        · exact hb.symm
        · have := m1 a ha
          have := l1 b hb
          omega
    subst hab
    congr 1
    refine inc_ext l2 m2 (fun r => ⟨fun hr => ?_, fun hr => ?_⟩)
    · rcases List.mem_cons.1 ((h r).1 (List.mem_cons_of_mem _ hr)) with e | e
      · have := l1 r hr; rw [e] at this; omega
      · exact e
    · rcases List.mem_cons.1 ((h r).2 (List.mem_cons_of_mem _ hr)) with e | e
      · have := m1 r hr; rw [e] at this; omega
      · exact e
theorem inc_lk {L M : List Rw} (hL : Inc L) (hM : Inc M) (h : ∀ r ∈ L ++ M, lk L r.x0 = lk M r.x0) : L = M := by
  refine inc_ext hL hM (fun r => ⟨fun hr => ?_, fun hr => ?_⟩)
  · have := lk_mem hL hr
    rw [h r (by simp [hr])] at this
    exact (lk_some this).1
  · have := lk_mem hM hr
    rw [← h r (by simp [hr])] at this
    exact (lk_some this).1
theorem getD_at {ms : List Rw} {i : Nat} (hi : i < ms.length) : ms.getD i rw0 = ms[i] := by rw [List.getD_eq_getElem?_getD, List.getElem?_eq_getElem hi]; rfl
theorem atK_lt {ms : List Rw} {key : Int} {i : Nat} (h : i < atK ms key) (hl : i < ms.length) : (ms.getD i rw0).x0 < key := by
  rw [getD_at hl]
  have := List.not_of_lt_findIdx (p := fun r : Rw => !decide (r.x0 < key)) h
  simpa using this
theorem atK_ge {ms : List Rw} {key : Int} (h : atK ms key < ms.length) : ¬ (ms.getD (atK ms key) rw0).x0 < key := by
  rw [getD_at h]
  have := List.findIdx_getElem (p := fun r : Rw => !decide (r.x0 < key)) (w := h)
  intro hc
  rw [Bool.not_eq_true'] at this
  exact absurd hc (of_decide_eq_false this)
/-- a sorted table in three parts: what lies ahead of a key, its row, what lies behind -/
theorem cut3 {ms : List Rw} (h : Inc ms) (key : Int) : (∀ r ∈ ms.take (atK ms key), r.x0 < key) ∧ (hasK ms key = true → (ms.getD (atK ms key) rw0).x0 = key ∧ atK ms key < ms.length ∧ ms = ms.take (atK ms key) ++ ms.getD (atK ms key) rw0 :: ms.drop (atK ms key + 1) ∧ ∀ r ∈ ms.drop (atK ms key + 1), key < r.x0) ∧ (hasK ms key = false → ∀ r ∈ ms.drop (atK ms key), key < r.x0) := by
  have hle := atK_le ms key
  refine ⟨fun r hr => ?_, fun hh => ?_, fun hh r hr => ?_⟩
  · obtain ⟨i, hi, he⟩ := List.mem_take_iff_getElem.1 hr
    rw [← he, ← getD_at (by omega)]
    exact atK_lt (by omega) (by omega)
  · obtain ⟨h1, h2⟩ := of_decide_eq_true hh
    refine ⟨h2, h1, ?_, fun r hr => ?_⟩
    · conv => lhs; rw [← List.take_append_drop (atK ms key) ms, List.drop_eq_getElem_cons h1, ← getD_at h1]
    · obtain ⟨i, hi, he⟩ := List.mem_drop_iff_getElem.1 hr
      have := (List.pairwise_iff_getElem.1 h) (atK ms key) (atK ms key + 1 + i) h1 (by omega) (by omega)
      rw [getD_at h1] at h2
      rw [← he]
      omega
  · obtain ⟨i, hi, he⟩ := List.mem_drop_iff_getElem.1 hr
    have hlt : atK ms key < ms.length := by omega
    have h1 := atK_ge hlt
    have h2 : ¬ (ms.getD (atK ms key) rw0).x0 = key := fun e => by
      have : hasK ms key = true := decide_eq_true ⟨hlt, e⟩
      rw [hh] at this
      cases this
    rw [getD_at hlt] at h1 h2
    rw [← he]
    by_cases h0 : i = 0
    · subst h0
      simp only [Nat.add_zero]
      omega
    · have := (List.pairwise_iff_getElem.1 h) (atK ms key) (atK ms key + i) hlt (by omega) (by omega)
      omega
theorem lk_has {ms : List Rw} (h : Inc ms) (key : Int) : lk ms key = if hasK ms key = true then some (ms.getD (atK ms key) rw0) else none := by
  obtain ⟨c1, c2, c3⟩ := cut3 h key
  by_cases hh : hasK ms key = true
  · rw [if_pos hh]
    obtain ⟨d1, d2, d3, d4⟩ := c2 hh
    have := lk_mem h (r := ms.getD (atK ms key) rw0) (by rw [getD_at d2]; exact List.getElem_mem d2)
    rw [d1] at this
    exact this
  · rw [if_neg hh]
    refine lk_none (fun r hr e => ?_)
    rw [← List.take_append_drop (atK ms key) ms] at hr
    rcases List.mem_append.1 hr with hr | hr
    · have := c1 r hr; omega
    · have := c3 (by cases hv : hasK ms key; rfl; exact absurd hv hh) r hr; omega
def putL (ms : List Rw) (r : Rw) : List Rw := ms.take (atK ms r.x0) ++ r :: ms.drop (if hasK ms r.x0 = true then atK ms r.x0 + 1 else atK ms r.x0)
theorem putL_tail {ms : List Rw} (h : Inc ms) (r : Rw) : ∀ q ∈ ms.drop (if hasK ms r.x0 = true then atK ms r.x0 + 1 else atK ms r.x0), r.x0 < q.x0 := by
  obtain ⟨c1, c2, c3⟩ := cut3 h r.x0
  by_cases hh : hasK ms r.x0 = true
  · rw [if_pos hh]; exact (c2 hh).2.2.2
  · rw [if_neg hh]; exact c3 (by cases hv : hasK ms r.x0; rfl; exact absurd hv hh)
theorem putL_inc {ms : List Rw} (h : Inc ms) (r : Rw) : Inc (putL ms r) := by
  obtain ⟨c1, c2, c3⟩ := cut3 h r.x0
  have ht := putL_tail h r
  refine List.pairwise_append.2 ⟨h.sublist (List.take_sublist _ _), List.pairwise_cons.2 ⟨fun q hq => ht q hq, h.sublist (List.drop_sublist _ _)⟩, fun a ha q hq => ?_⟩
  have h1 := c1 a ha
  rcases List.mem_cons.1 hq with rfl | hq
  · exact h1
  · have := ht q hq; omega
theorem putL_mem {ms : List Rw} (h : Inc ms) (r q : Rw) : q ∈ putL ms r ↔ q = r ∨ (q ∈ ms ∧ ¬ q.x0 = r.x0) := by
  obtain ⟨c1, c2, c3⟩ := cut3 h r.x0
  have ht := putL_tail h r
  unfold putL
  rw [List.mem_append, List.mem_cons]
  constructor
  · rintro (hq | rfl | hq)
    · have := c1 q hq; exact .inr ⟨(List.take_sublist _ _).subset hq, by omega⟩
    · exact .inl rfl
    · have := ht q hq; exact .inr ⟨(List.drop_sublist _ _).subset hq, by omega⟩
  · rintro (rfl | ⟨hq, hne⟩)
    · exact .inr (.inl rfl)
    · by_cases hh : hasK ms r.x0 = true
      · rw [if_pos hh]
        obtain ⟨d1, d2, d3, d4⟩ := c2 hh
        rw [d3] at hq
        rcases List.mem_append.1 hq with hq | hq
        · exact .inl hq
        · rcases List.mem_cons.1 hq with e | hq
          · rw [e] at hne; exact absurd d1 hne
          · exact .inr (.inr hq)
      · rw [if_neg hh]
        rw [← List.take_append_drop (atK ms r.x0) ms] at hq
        rcases List.mem_append.1 hq with hq | hq
        · exact .inl hq
        · exact .inr (.inr hq)
theorem lk_put {ms : List Rw} (h : Inc ms) (r : Rw) (k : Int) : lk (putL ms r) k = if k = r.x0 then some r else lk ms k := by
  have hp := putL_inc h r
  by_cases hk : k = r.x0
  · subst hk
    rw [if_pos rfl]
    exact lk_mem hp ((putL_mem h r r).2 (.inl rfl))
  · rw [if_neg hk]
    cases e : lk ms k with
    | none =>
      refine lk_none (fun q hq he => ?_)
      rcases (putL_mem h r q).1 hq with e1 | ⟨hq, _⟩
      · rw [e1] at he; exact hk he.symm
      · have := lk_mem h hq
        rw [he, e] at this
        cases this
    | some q =>
      obtain ⟨h1, h2⟩ := lk_some e
      have := lk_mem hp ((putL_mem h r q).2 (.inr ⟨h1, by omega⟩))
      rw [h2] at this
      exact this
theorem putL_len (ms : List Rw) (r : Rw) : (putL ms r).length = if hasK ms r.x0 = true then ms.length else ms.length + 1 := by
  have hle := atK_le ms r.x0
  unfold putL
  rw [List.length_append, List.length_cons, List.length_take, List.length_drop]
  by_cases hh : hasK ms r.x0 = true
  · have := (of_decide_eq_true hh).1
    rw [if_pos hh, if_pos hh]; omega
  · rw [if_neg hh, if_neg hh]; omega
/-- which of two rows stays -/
def newB (a b : Rw) : Bool := if a.x1 = b.x1 then (if a.b = b.b then decide (b.x2 < a.x2) else a.b) else decide (b.x1 < a.x1)
theorem newB_zero {r : Rw} (h : 1 ≤ r.x1) : newB r rw0 = true := by
  unfold newB
  rw [if_neg (by show ¬ r.x1 = 0; omega)]
  exact decide_eq_true (by show (0 : Int) < r.x1; omega)
def stepF (f : Int → Option Rw) (r : Rw) : Int → Option Rw := if newB r ((f r.x0).getD rw0) = true then (fun k => if k = r.x0 then some r else f k) else f
def foldF (f : Int → Option Rw) (ms : List Rw) : Int → Option Rw := ms.foldl stepF f
theorem foldF_snoc (f : Int → Option Rw) (ms : List Rw) (r : Rw) : foldF f (ms ++ [r]) = stepF (foldF f ms) r := by simp [foldF]
def joinS (out : List Rw) (r : Rw) : List Rw := if hasK out r.x0 = true ∧ newB r (out.getD (atK out r.x0) rw0) = false then out else putL out r
def joinL (a b : List Rw) : List Rw := b.foldl joinS a
theorem joinL_snoc (a b : List Rw) (r : Rw) : joinL a (b ++ [r]) = joinS (joinL a b) r := by simp [joinL]
theorem joinS_inc {out : List Rw} (h : Inc out) (r : Rw) : Inc (joinS out r) := by
  unfold joinS
  split
  · exact h
  · exact putL_inc h r
theorem joinL_inc : ∀ {b a : List Rw}, Inc a → Inc (joinL a b)
  | [], _, h => h
  | r :: b, a, h => joinL_inc (b := b) (joinS_inc h r)
theorem lk_joinS {out : List Rw} (h : Inc out) {r : Rw} (hr : 1 ≤ r.x1) : lk (joinS out r) = stepF (lk out) r := by
  have hl := lk_has h r.x0
  unfold joinS stepF
  by_cases hh : hasK out r.x0 = true
  · rw [if_pos hh] at hl
    rw [hl]
    simp only [Option.getD_some]
    by_cases hn : newB r (out.getD (atK out r.x0) rw0) = true
    · rw [if_neg (fun hc => by rw [hn] at hc; cases hc.2), if_pos hn]
      funext k
      exact lk_put h r k
    · rw [if_pos ⟨hh, by cases e : newB r (out.getD (atK out r.x0) rw0); rfl; exact absurd e hn⟩, if_neg hn]
  · rw [if_neg hh] at hl
    rw [hl]
    simp only [Option.getD_none, newB_zero hr, if_true]
    rw [if_neg (fun hc => hh hc.1)]
    funext k
    exact lk_put h r k
theorem lk_joinL : ∀ {b a : List Rw}, Inc a → (∀ r ∈ b, 1 ≤ r.x1) → lk (joinL a b) = foldF (lk a) b
  | [], _, _, _ => rfl
  | r :: b, a, h, hr => by
    show lk (joinL (joinS a r) b) = foldF (stepF (lk a) r) b
    rw [lk_joinL (joinS_inc h r) (fun q hq => hr q (List.mem_cons_of_mem _ hq)), lk_joinS h (hr r (by simp))]
theorem foldF_lk : ∀ {ms P : List Rw}, Inc (P ++ ms) → (∀ r ∈ ms, 1 ≤ r.x1) → foldF (lk P) ms = lk (P ++ ms)
  | [], P, _, _ => by rw [List.append_nil]; rfl
  | r :: ms, P, h, hr => by
    have hP : lk P r.x0 = none := lk_none (fun q hq e => by
      have := (List.pairwise_append.1 h).2.2 q hq r (by simp)
      omega)
    have hs : stepF (lk P) r = lk (P ++ [r]) := by
      unfold stepF
      rw [hP]
      simp only [Option.getD_none, newB_zero (hr r (by simp)), if_true]
      funext k
      rw [lk_append, lk_cons, lk_nil]
      by_cases hk : k = r.x0
      · subst hk; simp [hP]
      · rw [if_neg hk, if_neg (fun e => hk e.symm)]; simp
    show foldF (stepF (lk P) r) ms = _
    rw [hs, foldF_lk (by rw [List.append_assoc]; exact h) (fun q hq => hr q (List.mem_cons_of_mem _ hq)), List.append_assoc]
    rfl
theorem foldF_one {ms : List Rw} (h : Inc ms) (hr : ∀ r ∈ ms, 1 ≤ r.x1) : foldF (fun _ => none) ms = lk ms := by
  have := foldF_lk (P := []) (ms := ms) (by simpa using h) hr
  rw [List.nil_append] at this
  exact this
/-- what a good table is -/
structure GT (b d : Int) (ms : List Rw) : Prop where
  gs : gsB b d = true
  len : ms.length ≤ 8
  inc : Inc ms
  row : ∀ r ∈ ms, rowB b d r = true
theorem rowB_true {b d : Int} {r : Rw} (h : rowB b d r = true) : (0 ≤ r.x0 ∧ r.x0 < sz b) ∧ (1 ≤ r.x1 ∧ r.x1 ≤ 1000000) ∧ (0 ≤ r.x2 ∧ r.x2 ≤ 1000000) ∧ (r.b = true → r.x2 = 0) ∧ gsB b d = true := by
  unfold rowB at h
  rw [Bool.and_eq_true, Bool.and_eq_true, Bool.and_eq_true] at h
  obtain ⟨⟨⟨h1, h2⟩, h3⟩, h4⟩ := h
  obtain ⟨hg, a1, a2⟩ := numB_true h1
  refine ⟨⟨a1, a2⟩, inB_true h2, inB_true h3, fun hb => ?_, hg⟩
  rw [hb] at h4
  simpa using h4
theorem inc_of {ms : List Rw} (h : ∀ i, i + 1 < ms.length → (ms.getD i rw0).x0 < (ms.getD (i + 1) rw0).x0) : Inc ms := by
  refine List.pairwise_iff_getElem.2 (fun i j hi hj hij => ?_)
  have key : ∀ k, i < k → k < ms.length → (ms.getD i rw0).x0 < (ms.getD k rw0).x0 := by
    intro k
    induction k with
    | zero => intro h0; omega
    | succ k ih =>
      intro h1 h2
      have h3 := h k h2
      by_cases hk : i = k
      · subst hk; exact h3
      · have := ih (by omega) (by omega); omega
  have := key j hij hj
  rw [getD_at hi, getD_at hj] at this
  exact this
theorem goodT_gt {b d : Int} {ms : List Rw} (h : goodT b d ms = true) : GT b d ms := by
  obtain ⟨h1, h2, h3⟩ := goodT_true h
  have tk : ∀ i, i < ms.length → rowB b d (ms.getD i rw0) = true ∧ (i = 0 ∨ (ms.getD (i - 1) rw0).x0 < (ms.getD i rw0).x0) := fun i hi => by
    have := h3 i hi
    unfold tokB at this
    rw [Bool.and_eq_true, Bool.or_eq_true, decide_eq_true_eq, decide_eq_true_eq] at this
    exact this
  refine ⟨h1, h2, inc_of (fun i hi => ?_), fun r hr => ?_⟩
  · rcases (tk (i + 1) hi).2 with h0 | h0
    · omega
    · simpa using h0
  · obtain ⟨i, hi, rfl⟩ := List.getElem_of_mem hr
    rw [← getD_at hi]
    exact (tk i hi).1
theorem gt_goodT {b d : Int} {ms : List Rw} (h : GT b d ms) : goodT b d ms = true := by
  rw [goodT_yes (fun i hi => ?_), h.gs, decide_eq_true h.len]
  · rfl
  · unfold tokB
    rw [Bool.and_eq_true, Bool.or_eq_true, decide_eq_true_eq, decide_eq_true_eq]
    refine ⟨h.row _ (by rw [getD_at hi]; exact List.getElem_mem hi), ?_⟩
    by_cases h0 : i = 0
    · exact .inl h0
    · right
      have := (List.pairwise_iff_getElem.1 h.inc) (i - 1) i (by omega) hi (by omega)
      rw [getD_at (by omega), getD_at hi]
      exact this
theorem GT.ver {b d : Int} {ms : List Rw} (h : GT b d ms) : ∀ r ∈ ms, 1 ≤ r.x1 := fun r hr => (rowB_true (h.row r hr)).2.1.1
theorem GT.fold {b d : Int} {ms : List Rw} (h : GT b d ms) : foldF (fun _ => none) ms = lk ms := foldF_one h.inc h.ver
theorem GT.key {b d : Int} {ms : List Rw} (h : GT b d ms) : ∀ r ∈ ms, 0 ≤ r.x0 ∧ r.x0 ≤ 4096 := fun r hr => by
  have h1 := (rowB_true (h.row r hr)).1
  obtain ⟨b1, b2, _⟩ := gsB_true h.gs
  have := sz_bd b1 b2
  omega
end Go.Proofs.Ytpgngfdhnoonjaa.Tb
