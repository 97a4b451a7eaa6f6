/- A region that draws its order, whose operations but the last leave the class of worlds, and whose last one waits for all of them (a store): the last one is run behind the others. -/
import Derived.Test.YtpgngfdhnoonjaaA0
namespace Go.Proofs.Ytpgngfdhnoonjaa
open Go.RowKit
set_option linter.unusedVariables false
section
variable {P : Program} {Q : Exit → Act → World → Prop}
/-- every operation waits for earlier ones alone, and the last for all -/
def lastB (l : List Oper) (o : Oper) : Bool :=
  ((List.range l.length).all fun i => o.after.any fun e => Region.binds .any e && e.on == i) &&
  (o.after.all fun e => !Region.binds .any e || decide (e.on < l.length)) &&
  ((List.range l.length).all fun j => match l[j]? with
    | some oj => (oj.after.all fun e => !Region.binds .any e || decide (e.on < j)) && (match oj.guard with | none => true | some (g, _) => decide (g < l.length))
    | none => true) && o.guard.isNone
structure LastP (l : List Oper) (o : Oper) : Prop where
  all : ∀ i, i < l.length → ∃ e ∈ o.after, Region.binds .any e = true ∧ e.on = i
  lt : ∀ e ∈ o.after, Region.binds .any e = true → e.on < l.length
  up : ∀ (j : Nat) (oj : Oper), l[j]? = some oj → ∀ e ∈ oj.after, Region.binds .any e = true → e.on < j
  gd : ∀ (j : Nat) (oj : Oper), l[j]? = some oj → ∀ (g : Nat) (b : Bool), oj.guard = some (g, b) → g < l.length
  no : o.guard = none
theorem lastP {l : List Oper} {o : Oper} (h : lastB l o = true) : LastP l o := by
  unfold lastB at h
  simp only [Bool.and_eq_true] at h
  obtain ⟨⟨⟨h1, h2⟩, h3⟩, h4⟩ := h
  rw [List.all_eq_true] at h1 h3
  rw [Array.all_eq_true_iff_forall_mem] at h2
  have h3' : ∀ (j : Nat) (oj : Oper), l[j]? = some oj → (oj.after.all fun e => !Region.binds .any e || decide (e.on < j)) = true ∧ (match oj.guard with | none => true | some (g, _) => decide (g < l.length)) = true := fun j oj hj => by
    have := h3 j (List.mem_range.2 (List.getElem?_eq_some_iff.1 hj).1)
    simp only [hj, Bool.and_eq_true] at this
    exact this
  refine ⟨fun i hi => ?_, fun e he hb => ?_, fun j oj hj e he hb => ?_, fun j oj hj g b hg => ?_, by simpa using h4⟩
  · have := h1 i (List.mem_range.2 hi)
    rw [Array.any_eq_true'] at this
    obtain ⟨e, he, hb⟩ := this
    simp only [Bool.and_eq_true, beq_iff_eq] at hb
    exact ⟨e, he, hb.1, hb.2⟩
  · have := h2 e he
    rw [hb] at this
    simpa using this
  · have := (h3' j oj hj).1
    rw [Array.all_eq_true_iff_forall_mem] at this
    have := this e he
    rw [hb] at this
    simpa using this
  · have := (h3' j oj hj).2
    rw [hg] at this
    simpa using this
def lastQ (P : Program) (ops : Array Oper) (Q : Exit → Act → World → Prop) (n : Nat) : Exit → Act → World → Prop
  | .normal, a, w => wpOp P ops Q n (Q .normal) a w
  | e, a, w => Q e a w
theorem upon_last {ops : Array Oper} {n : Nat} {o : Oper} {a : Act} {w : World} {K K' : Act → World → Prop} (h : ∀ a w, K a w → K' a w) (hh : o.wp P a w K (lastQ P ops Q n)) : o.wp P a w K' Q := by
  unfold Oper.wp at *
  generalize (execOp a.eval o).run P w = r at *
  cases r with
  | ok x w' =>
    cases x <;> simp only [Oper.upon] at hh ⊢ <;>
      first
        | exact h _ _ hh
        | exact Calls.mono hh (fun e w'' he => by cases e <;> first | exact h _ _ he | exact he)
        | exact Rows.mono hh (fun _ _ he => h _ _ he)
  | halt x w' => cases x <;> simp only [Oper.upon] at hh ⊢ <;> exact hh
theorem ops_head {l : List Oper} {o : Oper} {j : Nat} (hj : j < l.length) : (l ++ [o]).toArray[j]? = l.toArray[j]? := by
  rw [List.getElem?_toArray, List.getElem?_toArray, List.getElem?_append_left hj]
theorem ops_last {l : List Oper} {o : Oper} : (l ++ [o]).toArray[l.length]? = some o := by
  rw [List.getElem?_toArray, List.getElem?_append_right (Nat.le_refl _)]
  simp
theorem getD_f {L L' : Array Bool} {n : Nat} (s1 : L.size = n + 1) (s2 : L'.size = n) (he : ∀ i, i < n → L[i]? = L'[i]?) (hn : L.getD n true = false) (j : Nat) : L.getD j false = L'.getD j false := by
  rw [Array.getD_eq_getD_getElem?, Array.getD_eq_getD_getElem?]
  by_cases h : j < n
  · rw [he j h]
  · rw [Array.getElem?_eq_none (xs := L') (by omega)]
    by_cases h2 : j = n
    · subst h2
      rw [Array.getD_eq_getD_getElem?] at hn
      cases hx : L[j]? with
      | none => rfl
      | some b => rw [hx] at hn; simpa using hn
    · rw [Array.getElem?_eq_none (by omega)]
theorem getD_t {L L' : Array Bool} {n : Nat} (he : ∀ i, i < n → L[i]? = L'[i]?) {j : Nat} (hj : j < n) : L.getD j true = L'.getD j true := by
  rw [Array.getD_eq_getD_getElem?, Array.getD_eq_getD_getElem?, he j hj]
theorem ready_head {l : List Oper} {o : Oper} {L L' : Array Bool} (s1 : L.size = l.length + 1) (s2 : L'.size = l.length) (he : ∀ i, i < l.length → L[i]? = L'[i]?) (hn : L.getD l.length true = false) {j : Nat} (hj : j < l.length) :
    j ∈ Region.ready .any (l ++ [o]).toArray L ↔ j ∈ Region.ready .any l.toArray L' := by
  rw [mem_ready, mem_ready, ops_head hj, getD_t he hj]
  constructor
  · rintro ⟨h1, oj, h2, h3⟩
    exact ⟨h1, oj, h2, fun e hm hb => by rw [← getD_f s1 s2 he hn]; exact h3 e hm hb⟩
  · rintro ⟨h1, oj, h2, h3⟩
    exact ⟨h1, oj, h2, fun e hm hb => by rw [getD_f s1 s2 he hn]; exact h3 e hm hb⟩
theorem ready_lt {l : List Oper} {L' : Array Bool} {j : Nat} (h : j ∈ Region.ready .any l.toArray L') : j < l.length := by
  obtain ⟨_, oj, h2, _⟩ := mem_ready.1 h
  rw [List.getElem?_toArray] at h2
  exact (List.getElem?_eq_some_iff.1 h2).1
/-- where none may come up, all have -/
theorem all_listed {l : List Oper} {o : Oper} (H : LastP l o) {L' : Array Bool} (s2 : L'.size = l.length) (hr : Region.ready .any l.toArray L' = []) : ∀ n i, i < n → i < l.length → L'.getD i true = true := by
  intro n
  induction n with
  | zero => intro i h; omega
  | succ n ih =>
    intro i hi hl
    cases hx : L'.getD i true with
    | true => rfl
    | false =>
      exfalso
      have hm : i ∈ Region.ready .any l.toArray L' := by
        refine mem_ready.2 ⟨hx, l[i], by rw [List.getElem?_toArray, List.getElem?_eq_getElem hl], fun e he hb => ?_⟩
        have hlt := H.up i l[i] (List.getElem?_eq_getElem hl) e he hb
        have h1 := ih e.on (by omega) (by omega)
        rw [Array.getD_eq_getD_getElem?, Array.getElem?_eq_getElem (by omega)] at h1 ⊢
        simpa using h1
      rw [hr] at hm
      cases hm
theorem any_end {l : List Oper} {o : Oper} (H : LastP l o) (fuel : Nat) (L L' : Array Bool) (a : Act) (w : World) (s1 : L.size = l.length + 1) (s2 : L'.size = l.length) (he : ∀ i, i < l.length → L[i]? = L'[i]?) (hn : L.getD l.length true = false)
    (hr : Region.ready .any l.toArray L' = []) (h : wpOp P (l ++ [o]).toArray Q l.length (Q .normal) a w) : wpAny P .any (l ++ [o]).toArray Q (fuel + 1) L a w := by
  have hall := all_listed H s2 hr l.length
  have hlast : l.length ∈ Region.ready .any (l ++ [o]).toArray L := by
    refine mem_ready.2 ⟨hn, o, ops_last, fun e hm hb => ?_⟩
    have hlt := H.lt e hm hb
    have h1 := hall e.on hlt hlt
    rw [getD_f s1 s2 he hn, Array.getD_eq_getD_getElem?, Array.getElem?_eq_getElem (by omega)]
    rw [Array.getD_eq_getD_getElem?, Array.getElem?_eq_getElem (by omega)] at h1
    simpa using h1
  refine ⟨fun h0 => (by rw [h0] at hlast; cases hlast), fun i hi => ?_⟩
  have hin : i = l.length := by
    by_cases hil : i < l.length
    · have := (ready_head s1 s2 he hn hil).1 hi
      rw [hr] at this
      cases this
    · obtain ⟨_, oi, h2, _⟩ := mem_ready.1 hi
      have := (Array.getElem?_eq_some_iff.1 h2).1
      simp at this
      omega
  subst hin
  refine wpOp_mono (fun a' w' hq => ?_) h
  have hnone : Region.ready .any (l ++ [o]).toArray (L.setIfInBounds l.length true) = [] := by
    cases hx : Region.ready .any (l ++ [o]).toArray (L.setIfInBounds l.length true) with
    | nil => rfl
    | cons j js =>
      exfalso
      have hj : j ∈ Region.ready .any (l ++ [o]).toArray (L.setIfInBounds l.length true) := by rw [hx]; simp
      obtain ⟨h1, oj, h2, _⟩ := mem_ready.1 hj
      have hlt := (Array.getElem?_eq_some_iff.1 h2).1
      simp at hlt
      by_cases hjn : j = l.length
      · subst hjn
        rw [Array.getD_eq_getD_getElem?, Array.getElem?_setIfInBounds] at h1
        simp [s1] at h1
      · have h3 := hall j (by omega) (by omega)
        rw [getD_set_ne true (by omega), getD_t he (by omega), h3] at h1
        cases h1
  cases fuel with
  | zero => exact ⟨hnone, hq⟩
  | succ f => exact ⟨fun _ => hq, fun i hi => by rw [hnone] at hi; cases hi⟩
theorem any_snoc {l : List Oper} {o : Oper} (H : LastP l o) : ∀ (fuel : Nat) (L L' : Array Bool) (a : Act) (w : World), L.size = l.length + 1 → L'.size = l.length → (∀ i, i < l.length → L[i]? = L'[i]?) → L.getD l.length true = false →
    wpAny P .any l.toArray (lastQ P (l ++ [o]).toArray Q l.length) fuel L' a w → wpAny P .any (l ++ [o]).toArray Q (fuel + 1) L a w := by
  intro fuel
  induction fuel with
  | zero =>
    intro L L' a w s1 s2 he hn h
    exact any_end H 0 L L' a w s1 s2 he hn h.1 h.2
  | succ fuel ih =>
    intro L L' a w s1 s2 he hn h
    by_cases hr : Region.ready .any l.toArray L' = []
    · exact any_end H (fuel + 1) L L' a w s1 s2 he hn hr (h.1 hr)
    · refine ⟨fun h0 => ?_, fun i hi => ?_⟩
      · exfalso
        cases hx : Region.ready .any l.toArray L' with
        | nil => exact hr hx
        | cons j js =>
          have hj : j ∈ Region.ready .any l.toArray L' := by rw [hx]; simp
          have := (ready_head (o := o) s1 s2 he hn (ready_lt hj)).2 hj
          rw [h0] at this
          cases this
      · have hil : i < l.length := by
          by_cases hil : i < l.length
          · exact hil
          · exfalso
            obtain ⟨_, oi, h2, h3⟩ := mem_ready.1 hi
            have hlt := (Array.getElem?_eq_some_iff.1 h2).1
            simp at hlt
            obtain rfl : i = l.length := by omega
            rw [ops_last] at h2
            obtain rfl : o = oi := Option.some.inj h2
            cases hx : Region.ready .any l.toArray L' with
            | nil => exact hr hx
            | cons j js =>
              have hj : j ∈ Region.ready .any l.toArray L' := by rw [hx]; simp
              have hjl := ready_lt hj
              obtain ⟨e, hm, hb, he2⟩ := H.all j hjl
              have h4 := h3 e hm hb
              rw [he2, getD_f s1 s2 he hn] at h4
              have h5 := (mem_ready.1 hj).1
              rw [Array.getD_eq_getD_getElem?, Array.getElem?_eq_getElem (by omega)] at h4 h5
              simp at h4 h5
              rw [h4] at h5
              cases h5
        have h1 := h.2 i ((ready_head s1 s2 he hn hil).1 hi)
        unfold wpOp at h1 ⊢
        rw [ops_head hil]
        have hg : l.toArray[i]? = some l[i] := by rw [List.getElem?_toArray, List.getElem?_eq_getElem hil]
        rw [hg] at h1 ⊢
        simp only at h1 ⊢
        have hw : Region.wanted l[i] (yielded (l ++ [o]).toArray a.tmps) = Region.wanted l[i] (yielded l.toArray a.tmps) := by
          unfold Region.wanted
          cases hgd : l[i].guard with
          | none => rfl
          | some gb =>
            obtain ⟨g, b⟩ := gb
            have hgl := H.gd i l[i] (List.getElem?_eq_getElem hil) g b hgd
            simp only [yielded, ops_head hgl]
        rw [hw]
        have hnext : ∀ a' w', wpAny P .any l.toArray (lastQ P (l ++ [o]).toArray Q l.length) fuel (L'.setIfInBounds i true) a' w' → wpAny P .any (l ++ [o]).toArray Q (fuel + 1) (L.setIfInBounds i true) a' w' := fun a' w' hh => by
          refine ih (L.setIfInBounds i true) (L'.setIfInBounds i true) a' w' (by simpa using s1) (by simpa using s2) (fun k hk => ?_) ?_ hh
          · rw [Array.getElem?_setIfInBounds, Array.getElem?_setIfInBounds, he k hk]
            simp [s1, s2, hil, show i < l.length + 1 by omega]
          · rw [getD_set_ne true (by omega)]
            exact hn
        by_cases hwt : Region.wanted l[i] (yielded l.toArray a.tmps) = true
        · rw [if_pos hwt] at h1 ⊢
          rcases h1 with h1 | ⟨h1, h2⟩
          · exact .inl (upon_last hnext h1)
          · exact .inr ⟨h1, h2⟩
        · rw [if_neg hwt] at h1 ⊢
          exact hnext _ _ h1
/-- all operations but the last in a class of worlds, then the last -/
theorem region_kin_last {id : Nat} {a : Act} {w : World} {L : List Oper} {o : Oper} (n B : Nat) (ho : L.drop n = [o]) (hm : P.follows .mixedOrders = true) (hB : Region.lexB .any (L.take n).toArray = true) (hL : lastB (L.take n) o = true)
    (h : Nonempty (Kin B w) → wpQuiet P (L.take n).toArray (fun w' => ∃ p : Kin B w, w' = p.v) (fun a' => ∀ w', (∃ p : Kin B w, w' = p.v) → wpList P L.toArray Q [o] a' w') (L.take n) a) : (Code.region id L.toArray true).wp P Q a w := by
  have e : L = L.take n ++ [o] := by rw [← ho, List.take_append_drop]
  generalize L.take n = l at *
  subst e
  have H := lastP hL
  refine wp_region_any hm ?_
  have hop : ∀ a' w', wpList P (l ++ [o]).toArray Q [o] a' w' → wpOp P (l ++ [o]).toArray Q l.length (Q .normal) a' w' := fun a' w' hh => by
    unfold wpOp
    rw [ops_last]
    exact hh
  have h0 := h (kinNe B w)
  simp only [Region.lexB, Bool.and_eq_true] at hB
  have h1 := wpAnyQ_lex (P := P) (C := fun w' => ∃ p : Kin B w, w' = p.v) (md := .any) hB.1 l 0 (Array.replicate l.length false) a (by simp) (by simpa using hB.2) h0
  have h2 : wpAny P .any l.toArray (lastQ P (l ++ [o]).toArray Q l.length) l.length (Array.replicate l.length false) a { w with drawn := w.drawn + 1 } :=
    wpAny_of_quiet (Q := fun a' => ∀ w', (∃ p : Kin B w, w' = p.v) → wpList P (l ++ [o]).toArray Q [o] a' w') (fun a' w' hw' hq => hop a' w' (hq w' hw')) _ _ _ _ ⟨⟨w.drew, (Below.refl _ _).drew⟩, rfl⟩ h1
  have h3 := any_snoc H l.length (Array.replicate (l.length + 1) false) (Array.replicate l.length false) a _ (by simp) (by simp) (fun i hi => by simp [hi, show i < l.length + 1 by omega]) (by simp) h2
  simpa using h3
end
end Go.Proofs.Ytpgngfdhnoonjaa
