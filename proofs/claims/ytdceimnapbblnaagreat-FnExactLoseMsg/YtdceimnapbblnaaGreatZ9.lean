/- A region that draws its order, whose operations but the last leave the class of worlds, and whose last one waits for all of them (a store): the last one is run behind the others. A region that draws its order, held, whose last operation waits for all the others (a store into a cell that earlier ones read): the last one stands apart. A bag without one message, by the specification. LoseMsg, the program and the specification. A law's argument that is a net, opened. -/
import Derived.Deep.RegionHeld
import Derived.Deep.DeepCutAuto
import Derived.Test.YtdceimnapbblnaaGreatZ0
import Derived.Test.YtdceimnapbblnaaGreatZ1
import Derived.Test.YtdceimnapbblnaaGreatZ2
import Derived.Test.YtdceimnapbblnaaGreatZ3
import Derived.Test.YtdceimnapbblnaaGreatZ4
import Derived.Test.YtdceimnapbblnaaGreatZ5
import Derived.Test.YtdceimnapbblnaaGreatZ6
import Derived.Test.YtdceimnapbblnaaGreatZ7
import Derived.Test.YtdceimnapbblnaaGreatZ8
namespace Go.Proofs.YtdceimnapbblnaaGreat
open Go.RowKit
set_option linter.unusedVariables false
section
variable {P : Program} {Q : Exit → Act → World → Prop}
/-- every operation waits for earlier ones alone, and the last for all -/
def lastB (l : List Oper) (o : Oper) : Bool :=
  ((List.range l.length).all fun i => o.after.any fun e => Region.binds .any e && e.on == i) &&
  (o.after.all fun e => !Region.binds .any e || decide (e.on < l.length)) &&
  ((List.range l.length).all fun j => match l[j]? with
    | some oj => (oj.after.all fun e => !Region.binds .any e || decide (e.on < j)) && (match oj.guard with | none => true | some (g, _) => decide (g < l.length))
    | none => true) && o.guard.isNone
structure LastP (l : List Oper) (o : Oper) : Prop where
  all : ∀ i, i < l.length → ∃ e ∈ o.after, Region.binds .any e = true ∧ e.on = i
  lt : ∀ e ∈ o.after, Region.binds .any e = true → e.on < l.length
  up : ∀ (j : Nat) (oj : Oper), l[j]? = some oj → ∀ e ∈ oj.after, Region.binds .any e = true → e.on < j
  gd : ∀ (j : Nat) (oj : Oper), l[j]? = some oj → ∀ (g : Nat) (b : Bool), oj.guard = some (g, b) → g < l.length
  no : o.guard = none
theorem lastP {l : List Oper} {o : Oper} (h : lastB l o = true) : LastP l o := by
  unfold lastB at h
  simp only [Bool.and_eq_true] at h
  obtain ⟨⟨⟨h1, h2⟩, h3⟩, h4⟩ := h
  rw [List.all_eq_true] at h1 h3
  rw [Array.all_eq_true_iff_forall_mem] at h2
  have h3' : ∀ (j : Nat) (oj : Oper), l[j]? = some oj → (oj.after.all fun e => !Region.binds .any e || decide (e.on < j)) = true ∧ (match oj.guard with | none => true | some (g, _) => decide (g < l.length)) = true := fun j oj hj => by
    have := h3 j (List.mem_range.2 (List.getElem?_eq_some_iff.1 hj).1)
    simp only [hj, Bool.and_eq_true] at this
    exact this
  refine ⟨fun i hi => ?_, fun e he hb => ?_, fun j oj hj e he hb => ?_, fun j oj hj g b hg => ?_, by simpa using h4⟩
  · have := h1 i (List.mem_range.2 hi)
    rw [Array.any_eq_true'] at this
    obtain ⟨e, he, hb⟩ := this
    simp only [Bool.and_eq_true, beq_iff_eq] at hb
    exact ⟨e, he, hb.1, hb.2⟩
  · have := h2 e he
    rw [hb] at this
    simpa using this
  · have := (h3' j oj hj).1
    rw [Array.all_eq_true_iff_forall_mem] at this
    have := this e he
    rw [hb] at this
    simpa using this
  · have := (h3' j oj hj).2
    rw [hg] at this
    simpa using this
def lastQ (P : Program) (ops : Array Oper) (Q : Exit → Act → World → Prop) (n : Nat) : Exit → Act → World → Prop
  | .normal, a, w => wpOp P ops Q n (Q .normal) a w
  | e, a, w => Q e a w
theorem upon_last {ops : Array Oper} {n : Nat} {o : Oper} {a : Act} {w : World} {K K' : Act → World → Prop} (h : ∀ a w, K a w → K' a w) (hh : o.wp P a w K (lastQ P ops Q n)) : o.wp P a w K' Q := by
  unfold Oper.wp at *
  generalize (execOp a.eval o).run P w = r at *
  cases r with
  | ok x w' =>
    cases x <;> simp only [Oper.upon] at hh ⊢ <;>
      first
        | exact h _ _ hh
        | exact Calls.mono hh (fun e w'' he => by cases e <;> first | exact h _ _ he | exact he)
        | exact Rows.mono hh (fun _ _ he => h _ _ he)
  | halt x w' => cases x <;> simp only [Oper.upon] at hh ⊢ <;> exact hh
theorem ops_head {l : List Oper} {o : Oper} {j : Nat} (hj : j < l.length) : (l ++ [o]).toArray[j]? = l.toArray[j]? := by
  rw [List.getElem?_toArray, List.getElem?_toArray, List.getElem?_append_left hj]
theorem ops_last {l : List Oper} {o : Oper} : (l ++ [o]).toArray[l.length]? = some o := by
  rw [List.getElem?_toArray, List.getElem?_append_right (Nat.le_refl _)]
  simp
theorem getD_f {L L' : Array Bool} {n : Nat} (s1 : L.size = n + 1) (s2 : L'.size = n) (he : ∀ i, i < n → L[i]? = L'[i]?) (hn : L.getD n true = false) (j : Nat) : L.getD j false = L'.getD j false := by
  rw [Array.getD_eq_getD_getElem?, Array.getD_eq_getD_getElem?]
  by_cases h : j < n
  · rw [he j h]
  · rw [Array.getElem?_eq_none (xs := L') (by omega)]
    by_cases h2 : j = n
    · subst h2
      rw [Array.getD_eq_getD_getElem?] at hn
      cases hx : L[j]? with
      | none => rfl
      | some b => rw [hx] at hn; simpa using hn
    · rw [Array.getElem?_eq_none (by omega)]
theorem getD_t {L L' : Array Bool} {n : Nat} (he : ∀ i, i < n → L[i]? = L'[i]?) {j : Nat} (hj : j < n) : L.getD j true = L'.getD j true := by
  rw [Array.getD_eq_getD_getElem?, Array.getD_eq_getD_getElem?, he j hj]
theorem ready_head {l : List Oper} {o : Oper} {L L' : Array Bool} (s1 : L.size = l.length + 1) (s2 : L'.size = l.length) (he : ∀ i, i < l.length → L[i]? = L'[i]?) (hn : L.getD l.length true = false) {j : Nat} (hj : j < l.length) :
    j ∈ Region.ready .any (l ++ [o]).toArray L ↔ j ∈ Region.ready .any l.toArray L' := by
  rw [mem_ready, mem_ready, ops_head hj, getD_t he hj]
  constructor
  · rintro ⟨h1, oj, h2, h3⟩
    exact ⟨h1, oj, h2, fun e hm hb => by rw [← getD_f s1 s2 he hn]; exact h3 e hm hb⟩
  · rintro ⟨h1, oj, h2, h3⟩
    exact ⟨h1, oj, h2, fun e hm hb => by rw [getD_f s1 s2 he hn]; exact h3 e hm hb⟩
theorem ready_lt {l : List Oper} {L' : Array Bool} {j : Nat} (h : j ∈ Region.ready .any l.toArray L') : j < l.length := by
  obtain ⟨_, oj, h2, _⟩ := mem_ready.1 h
  rw [List.getElem?_toArray] at h2
  exact (List.getElem?_eq_some_iff.1 h2).1
/-- where none may come up, all have -/
theorem all_listed {l : List Oper} {o : Oper} (H : LastP l o) {L' : Array Bool} (s2 : L'.size = l.length) (hr : Region.ready .any l.toArray L' = []) : ∀ n i, i < n → i < l.length → L'.getD i true = true := by
  intro n
  induction n with
  | zero => intro i h; omega
  | succ n ih =>
    intro i hi hl
    cases hx : L'.getD i true with
    | true => rfl
    | false =>
      exfalso
      have hm : i ∈ Region.ready .any l.toArray L' := by
        refine mem_ready.2 ⟨hx, l[i], by rw [List.getElem?_toArray, List.getElem?_eq_getElem hl], fun e he hb => ?_⟩
        have hlt := H.up i l[i] (List.getElem?_eq_getElem hl) e he hb
        have h1 := ih e.on (by omega) (by omega)
        rw [Array.getD_eq_getD_getElem?, Array.getElem?_eq_getElem (by omega)] at h1 ⊢
        simpa using h1
      rw [hr] at hm
      cases hm
theorem any_end {l : List Oper} {o : Oper} (H : LastP l o) (fuel : Nat) (L L' : Array Bool) (a : Act) (w : World) (s1 : L.size = l.length + 1) (s2 : L'.size = l.length) (he : ∀ i, i < l.length → L[i]? = L'[i]?) (hn : L.getD l.length true = false)
    (hr : Region.ready .any l.toArray L' = []) (h : wpOp P (l ++ [o]).toArray Q l.length (Q .normal) a w) : wpAny P .any (l ++ [o]).toArray Q (fuel + 1) L a w := by
  have hall := all_listed H s2 hr l.length
  have hlast : l.length ∈ Region.ready .any (l ++ [o]).toArray L := by
    refine mem_ready.2 ⟨hn, o, ops_last, fun e hm hb => ?_⟩
    have hlt := H.lt e hm hb
    have h1 := hall e.on hlt hlt
    rw [getD_f s1 s2 he hn, Array.getD_eq_getD_getElem?, Array.getElem?_eq_getElem (by omega)]
    rw [Array.getD_eq_getD_getElem?, Array.getElem?_eq_getElem (by omega)] at h1
    simpa using h1
  refine ⟨fun h0 => (by rw [h0] at hlast; cases hlast), fun i hi => ?_⟩
  have hin : i = l.length := by
    by_cases hil : i < l.length
    · have := (ready_head s1 s2 he hn hil).1 hi
      rw [hr] at this
      cases this
    · obtain ⟨_, oi, h2, _⟩ := mem_ready.1 hi
      have := (Array.getElem?_eq_some_iff.1 h2).1
      simp at this
      omega
  subst hin
  refine wpOp_mono (fun a' w' hq => ?_) h
  have hnone : Region.ready .any (l ++ [o]).toArray (L.setIfInBounds l.length true) = [] := by
    cases hx : Region.ready .any (l ++ [o]).toArray (L.setIfInBounds l.length true) with
    | nil => rfl
    | cons j js =>
      exfalso
      have hj : j ∈ Region.ready .any (l ++ [o]).toArray (L.setIfInBounds l.length true) := by rw [hx]; simp
      obtain ⟨h1, oj, h2, _⟩ := mem_ready.1 hj
      have hlt := (Array.getElem?_eq_some_iff.1 h2).1
      simp at hlt
      by_cases hjn : j = l.length
      · subst hjn
        rw [Array.getD_eq_getD_getElem?, Array.getElem?_setIfInBounds] at h1
        simp [s1] at h1
      · have h3 := hall j (by omega) (by omega)
        rw [getD_set_ne true (by omega), getD_t he (by omega), h3] at h1
        cases h1
  cases fuel with
  | zero => exact ⟨hnone, hq⟩
  | succ f => exact ⟨fun _ => hq, fun i hi => by rw [hnone] at hi; cases hi⟩
theorem any_snoc {l : List Oper} {o : Oper} (H : LastP l o) : ∀ (fuel : Nat) (L L' : Array Bool) (a : Act) (w : World), L.size = l.length + 1 → L'.size = l.length → (∀ i, i < l.length → L[i]? = L'[i]?) → L.getD l.length true = false →
    wpAny P .any l.toArray (lastQ P (l ++ [o]).toArray Q l.length) fuel L' a w → wpAny P .any (l ++ [o]).toArray Q (fuel + 1) L a w := by
  intro fuel
  induction fuel with
  | zero =>
    intro L L' a w s1 s2 he hn h
    exact any_end H 0 L L' a w s1 s2 he hn h.1 h.2
  | succ fuel ih =>
    intro L L' a w s1 s2 he hn h
    by_cases hr : Region.ready .any l.toArray L' = []
    · exact any_end H (fuel + 1) L L' a w s1 s2 he hn hr (h.1 hr)
    · refine ⟨fun h0 => ?_, fun i hi => ?_⟩
      · exfalso
        cases hx : Region.ready .any l.toArray L' with
        | nil => exact hr hx
        | cons j js =>
          have hj : j ∈ Region.ready .any l.toArray L' := by rw [hx]; simp
          have := (ready_head (o := o) s1 s2 he hn (ready_lt hj)).2 hj
          rw [h0] at this
          cases this
      · have hil : i < l.length := by
          by_cases hil : i < l.length
          · exact hil
          · exfalso
            obtain ⟨_, oi, h2, h3⟩ := mem_ready.1 hi
            have hlt := (Array.getElem?_eq_some_iff.1 h2).1
            simp at hlt
            obtain rfl : i = l.length := by omega
            rw [ops_last] at h2
            obtain rfl : o = oi := Option.some.inj h2
            cases hx : Region.ready .any l.toArray L' with
            | nil => exact hr hx
            | cons j js =>
              have hj : j ∈ Region.ready .any l.toArray L' := by rw [hx]; simp
              have hjl := ready_lt hj
              obtain ⟨e, hm, hb, he2⟩ := H.all j hjl
              have h4 := h3 e hm hb
              rw [he2, getD_f s1 s2 he hn] at h4
              have h5 := (mem_ready.1 hj).1
              rw [Array.getD_eq_getD_getElem?, Array.getElem?_eq_getElem (by omega)] at h4 h5
              simp at h4 h5
              rw [h4] at h5
              cases h5
        have h1 := h.2 i ((ready_head s1 s2 he hn hil).1 hi)
        unfold wpOp at h1 ⊢
        rw [ops_head hil]
        have hg : l.toArray[i]? = some l[i] := by rw [List.getElem?_toArray, List.getElem?_eq_getElem hil]
        rw [hg] at h1 ⊢
        simp only at h1 ⊢
        have hw : Region.wanted l[i] (yielded (l ++ [o]).toArray a.tmps) = Region.wanted l[i] (yielded l.toArray a.tmps) := by
          unfold Region.wanted
          cases hgd : l[i].guard with
          | none => rfl
          | some gb =>
            obtain ⟨g, b⟩ := gb
            have hgl := H.gd i l[i] (List.getElem?_eq_getElem hil) g b hgd
            simp only [yielded, ops_head hgl]
        rw [hw]
        have hnext : ∀ a' w', wpAny P .any l.toArray (lastQ P (l ++ [o]).toArray Q l.length) fuel (L'.setIfInBounds i true) a' w' → wpAny P .any (l ++ [o]).toArray Q (fuel + 1) (L.setIfInBounds i true) a' w' := fun a' w' hh => by
          refine ih (L.setIfInBounds i true) (L'.setIfInBounds i true) a' w' (by simpa using s1) (by simpa using s2) (fun k hk => ?_) ?_ hh
          · rw [Array.getElem?_setIfInBounds, Array.getElem?_setIfInBounds, he k hk]
            simp [s1, s2, hil, show i < l.length + 1 by omega]
          · rw [getD_set_ne true (by omega)]
            exact hn
        by_cases hwt : Region.wanted l[i] (yielded l.toArray a.tmps) = true
        · rw [if_pos hwt] at h1 ⊢
          rcases h1 with h1 | ⟨h1, h2⟩
          · exact .inl (upon_last hnext h1)
          · exact .inr ⟨h1, h2⟩
        · rw [if_neg hwt] at h1 ⊢
          exact hnext _ _ h1
/-- all operations but the last in a class of worlds, then the last -/
theorem region_kin_last {id : Nat} {a : Act} {w : World} {L : List Oper} {o : Oper} (n B : Nat) (ho : L.drop n = [o]) (hm : P.follows .mixedOrders = true) (hB : Region.lexB .any (L.take n).toArray = true) (hL : lastB (L.take n) o = true)
    (h : Nonempty (Kin B w) → wpQuiet P (L.take n).toArray (fun w' => ∃ p : Kin B w, w' = p.v) (fun a' => ∀ w', (∃ p : Kin B w, w' = p.v) → wpList P L.toArray Q [o] a' w') (L.take n) a) : (Code.region id L.toArray true).wp P Q a w := by
  have e : L = L.take n ++ [o] := by rw [← ho, List.take_append_drop]
  generalize L.take n = l at *
  subst e
  have H := lastP hL
  refine wp_region_any hm ?_
  have hop : ∀ a' w', wpList P (l ++ [o]).toArray Q [o] a' w' → wpOp P (l ++ [o]).toArray Q l.length (Q .normal) a' w' := fun a' w' hh => by
    unfold wpOp
    rw [ops_last]
    exact hh
  have h0 := h (kinNe B w)
  simp only [Region.lexB, Bool.and_eq_true] at hB
  have h1 := wpAnyQ_lex (P := P) (C := fun w' => ∃ p : Kin B w, w' = p.v) (md := .any) hB.1 l 0 (Array.replicate l.length false) a (by simp) (by simpa using hB.2) h0
  have h2 : wpAny P .any l.toArray (lastQ P (l ++ [o]).toArray Q l.length) l.length (Array.replicate l.length false) a { w with drawn := w.drawn + 1 } :=
    wpAny_of_quiet (Q := fun a' => ∀ w', (∃ p : Kin B w, w' = p.v) → wpList P (l ++ [o]).toArray Q [o] a' w') (fun a' w' hw' hq => hop a' w' (hq w' hw')) _ _ _ _ ⟨⟨w.drew, (Below.refl _ _).drew⟩, rfl⟩ h1
  have h3 := any_snoc H l.length (Array.replicate (l.length + 1) false) (Array.replicate l.length false) a _ (by simp) (by simp) (fun i hi => by simp [hi, show i < l.length + 1 by omega]) (by simp) h2
  simpa using h3
end
end Go.Proofs.YtdceimnapbblnaaGreat
namespace Go.Proofs.YtdceimnapbblnaaGreat
open Go.RowKit
set_option linter.unusedVariables false
section
variable {P : Program} {Q : Exit → Act → World → Prop}
theorem region_held_last {id : Nat} {a : Act} {w : World} {L : List Oper} {o : Oper} {S : World → Prop} (n : Nat) (ho : L.drop n = [o]) (hm : P.follows .mixedOrders = true) (hL : lastB (L.take n) o = true) (hS : S w.drew)
    (h : S w.drew → wpAnyH P .any (L.take n).toArray (lastQ P L.toArray Q (L.take n).length) S (L.take n).length (Array.replicate (L.take n).length false) a w.drew) : (Code.region id L.toArray true).wp P Q a w := by
  have e : L = L.take n ++ [o] := by rw [← ho, List.take_append_drop]
  generalize L.take n = l at *
  subst e
  have H := lastP hL
  refine wp_region_any hm ?_
  have h2 : wpAny P .any l.toArray (lastQ P (l ++ [o]).toArray Q l.length) l.length (Array.replicate l.length false) a { w with drawn := w.drawn + 1 } := wpAny_of_held _ _ _ _ (h hS)
  have h3 := any_snoc H l.length (Array.replicate (l.length + 1) false) (Array.replicate l.length false) a _ (by simp) (by simp) (fun i hi => by simp [hi, show i < l.length + 1 by omega]) (by simp) h2
  simpa using h3
/-- the last operation, as a list walks it -/
theorem lastQ_done {ops : Array Oper} {n : Nat} {o : Oper} {a : Act} {w : World} (ho : ops[n]? = some o) (h : wpList P ops Q [o] a w) : lastQ P ops Q n .normal a w := by
  show wpOp P ops Q n (Q .normal) a w
  unfold wpOp
  rw [ho]
  exact h
end
end Go.Proofs.YtdceimnapbblnaaGreat
namespace Go.Proofs.YtdceimnapbblnaaGreat
open Go.RowKit Go.Deep
set_option linter.unusedVariables false
set_option linter.unusedSimpArgs false
set_option maxRecDepth 100000 in
set_option maxHeartbeats 12800000 in
theorem l6Take_any (b d ttl : Int) (ap am ag ar : Option Addr) (cp cm cg cr : Nat) (ps : List Pr) (ms : List Mg) (gs : List Int) (rs : List Rp) (k : Nat) (w : World) (hg : goodN b d ttl ps ms gs rs = true) (hb : BigN ps ms gs rs) (hr : NetAt w ap am ag ar ps ms gs rs) (hcm : am = none → cm = 0) (hcg : ag = none → cg = 0) (hcr : ar = none → cr = 0) (hk : k < ms.length) :
    Calls Tryz.prog 66 #[.agg #[.int .i64 b, .int .i64 d, .slice ap ps.length cp, .int .i64 ttl, .slice am ms.length cm, .slice ag gs.length cg, .slice ar rs.length cr], .int .i64 k] w fun e w' => ∃ (ap' am' ag' ar' : Option Addr) (cp' cm' cg' cr' : Nat) (sa : Option Addr) (sc : Nat), e = .returned (.tuple #[.agg #[.int .i64 b, .int .i64 d, .slice ap' ps.length cp', .int .i64 ttl, .slice am' (ms.length - 1) cm', .slice ag' gs.length cg', .slice ar' rs.length cr'], .agg (mgV (ms.getD k mg0) (.slice sa 0 sc)).toArray]) ∧ OwnN w.heap.size w'.heap.size w' ap' am' ag' ar' ps.length (ms.length - 1) gs.length rs.length ps (ms.eraseIdx k) gs rs ∧ Below w.heap.size w w' := by
  have hlen := goodN_len hg
  have HML : Hid (∀ i, i < ms.length → (ms.getD i mg0).l = []) := fun i hi => by
    unfold goodN at hg
    simp only [Bool.and_eq_true, decide_eq_true_eq] at hg
    exact okMg_l (hg.1.2 i hi)
  have hml : ms.length ≤ 12 := by omega
  obtain ⟨qq, hqq⟩ : ∃ qq, qq = w.heap.size := ⟨_, rfl⟩
  obtain ⟨w0, hw0⟩ : ∃ w0, w0 = ((w.alloc (.cells #[.int .i64 b, .int .i64 d, .slice ap ps.length cp, .int .i64 ttl, .slice am ms.length cm, .slice ag gs.length cg, .slice ar rs.length cr] 36)).alloc (.cells #[.int .i64 0, .int .i64 0, .slice none 0 0, .int .i64 0, .slice none 0 0, .slice none 0 0, .slice none 0 0] 36)).alloc (.cells #[.int .i64 0, .int .i64 0, .int .i64 0, .int .i64 0, .int .i64 0, .int .i64 0, .int .i64 0, .int .i64 0, .slice none 0 0] 102) := ⟨_, rfl⟩
  have HB0 : Hid (Below w.heap.size w w0) := by rw [hw0]; exact belt (belt (belA _ _) (belA _ _)) (belA _ _)
  have hs0 : Hid (w0.heap.size = w.heap.size + 3) := by rw [Hid, hw0]; simp
  have HR1 : Hid (Wire.Bk w0 (qq + 1) #[.int .i64 0, .int .i64 0, .slice none 0 0, .int .i64 0, .slice none 0 0, .slice none 0 0, .slice none 0 0] 36) := by
    rw [hqq]
    have h1 : (w.alloc (.cells #[.int .i64 b, .int .i64 d, .slice ap ps.length cp, .int .i64 ttl, .slice am ms.length cm, .slice ag gs.length cg, .slice ar rs.length cr] 36)).heap.size = w.heap.size + 1 := by simp
    have h2 := Wire.Bk.new (w.alloc (.cells #[.int .i64 b, .int .i64 d, .slice ap ps.length cp, .int .i64 ttl, .slice am ms.length cm, .slice ag gs.length cg, .slice ar rs.length cr] 36)) #[.int .i64 0, .int .i64 0, .slice none 0 0, .int .i64 0, .slice none 0 0, .slice none 0 0, .slice none 0 0] 36
    rw [h1] at h2
    rw [hw0]
    exact h2.alloc _
  have HR2 : Hid (Wire.Bk w0 (qq + 2) #[.int .i64 0, .int .i64 0, .int .i64 0, .int .i64 0, .int .i64 0, .int .i64 0, .int .i64 0, .int .i64 0, .slice none 0 0] 102) := by
    rw [hqq]
    have h1 : ((w.alloc (.cells #[.int .i64 b, .int .i64 d, .slice ap ps.length cp, .int .i64 ttl, .slice am ms.length cm, .slice ag gs.length cg, .slice ar rs.length cr] 36)).alloc (.cells #[.int .i64 0, .int .i64 0, .slice none 0 0, .int .i64 0, .slice none 0 0, .slice none 0 0, .slice none 0 0] 36)).heap.size = w.heap.size + 2 := by simp
    have h2 := Wire.Bk.new ((w.alloc (.cells #[.int .i64 b, .int .i64 d, .slice ap ps.length cp, .int .i64 ttl, .slice am ms.length cm, .slice ag gs.length cg, .slice ar rs.length cr] 36)).alloc (.cells #[.int .i64 0, .int .i64 0, .slice none 0 0, .int .i64 0, .slice none 0 0, .slice none 0 0, .slice none 0 0] 36)) #[.int .i64 0, .int .i64 0, .int .i64 0, .int .i64 0, .int .i64 0, .int .i64 0, .int .i64 0, .int .i64 0, .slice none 0 0] 102
    rw [h1] at h2
    rw [hw0]
    exact h2
  have HQ : Hid (qq = w.heap.size) := hqq
  have HRR : NetAt w0 ap am ag ar ps ms gs rs := hr.keep HB0.out
  have CO := l6Own_any b d ttl ap am ag ar cp cm cg cr ps ms gs rs w0 hg hb HRR hcm hcg hcr
  clear hr hg hb HRR hlen
  go_enter Tryz.func66, Tryz.ntmps66
  go_wp2_with fail
  rw [← hqq]
  rw [← hw0]
  clear hw0 hqq
  refine CO.mono ?_
  rintro e w1 ⟨ap', am', ag', ar', cp', cm', cg', cr', rfl, hN, hw1, hcap0, hSpX⟩
  clear hSpX
  clear CO
  obtain ⟨bk, off, rfl⟩ := lsAt_form hN.at.m (by show 0 < ms.length; omega)
  have HM1 := hN.at.m
  obtain ⟨hb1, ab, cb, hc, _, _, _, hcb0⟩ := msAt_cell HM1 hk
  obtain ⟨c0, c1, c2, c3, c4, c5, c6, c7, c8⟩ := hc.m9
  have hl0 := HML.out k hk
  rw [hl0] at c8
  simp only [List.length_nil] at c8
  clear hc
  have HV : Hid ((mgV (ms.getD k mg0) (.slice ab 0 cb)).toArray = (mgV (ms.getD k mg0) (.slice ab 0 cb)).toArray) := rfl
  generalize hp : ms.getD k mg0 = p at c0 c1 c2 c3 c4 c5 c6 c7 c8
  have HP : Hid (ms.getD k mg0 = p) := hp
  clear hp hl0 HV
  obtain ⟨x0, x1, x2, x3, x4, x5, x6, x7, l⟩ := p
  have hidx : (k : Int) < (ms.length : Int) := by omega
  have HN1 : Hid (OwnN w0.heap.size w1.heap.size w1 ap' (some ⟨bk, off, none⟩) ag' ar' ps.length ms.length gs.length rs.length ps ms gs rs) := hN
  clear hN HM1
  go_wp2_with fail
  obtain ⟨w2, hw2e⟩ : ∃ w2, w2 = (w1.alloc (.cells #[.int .i64 b, .int .i64 d, .slice ap' ps.length cp', .int .i64 ttl, .slice (some ⟨bk, off, none⟩) ms.length cm', .slice ag' gs.length cg', .slice ar' rs.length cr'] 36)).alloc (.cells #[.int .i64 x0, .int .i64 x1, .int .i64 x2, .int .i64 x3, .int .i64 x4, .int .i64 x5, .int .i64 x6, .int .i64 x7, .slice ab 0 cb] 102) := ⟨_, rfl⟩
  rw [← hw2e]
  have HX2 : Hid (Wire.Bk w2 w1.heap.size #[.int .i64 b, .int .i64 d, .slice ap' ps.length cp', .int .i64 ttl, .slice (some ⟨bk, off, none⟩) ms.length cm', .slice ag' gs.length cg', .slice ar' rs.length cr'] 36) := by rw [hw2e]; exact (Wire.Bk.new _ _ _).alloc _
  have HY2 : Hid (Wire.Bk w2 (w1.heap.size + 1) #[.int .i64 x0, .int .i64 x1, .int .i64 x2, .int .i64 x3, .int .i64 x4, .int .i64 x5, .int .i64 x6, .int .i64 x7, .slice ab 0 cb] 102) := by
    have h1 : (w1.alloc (.cells #[.int .i64 b, .int .i64 d, .slice ap' ps.length cp', .int .i64 ttl, .slice (some ⟨bk, off, none⟩) ms.length cm', .slice ag' gs.length cg', .slice ar' rs.length cr'] 36)).heap.size = w1.heap.size + 1 := by simp
    have h2 := Wire.Bk.new (w1.alloc (.cells #[.int .i64 b, .int .i64 d, .slice ap' ps.length cp', .int .i64 ttl, .slice (some ⟨bk, off, none⟩) ms.length cm', .slice ag' gs.length cg', .slice ar' rs.length cr'] 36)) #[.int .i64 x0, .int .i64 x1, .int .i64 x2, .int .i64 x3, .int .i64 x4, .int .i64 x5, .int .i64 x6, .int .i64 x7, .slice ab 0 cb] 102
    rw [h1] at h2
    rw [hw2e]
    exact h2
  have hb2 : Below w1.heap.size w1 w2 := by rw [hw2e]; exact belt (belA _ _) (belA _ _)
  have hz2 : Hid (w2.heap.size = w1.heap.size + 2) := by rw [Hid, hw2e]; simp
  have hz12 : w1.heap.size + 2 ≤ w2.heap.size := Nat.le_of_eq hz2.out.symm
  clear hw2e
  have HN2 : Hid (OwnN w0.heap.size w1.heap.size w2 ap' (some ⟨bk, off, none⟩) ag' ar' ps.length ms.length gs.length rs.length ps ms gs rs) := HN1.out.blocks (fun z _ _ h => hb2.block z h)
  have HB2 : Hid (Below w0.heap.size w0 w2) := belt hw1 hb2
  clear HN1 hb2 c0 c1 c2 c3 c4 c5 c6 c7 c8
  have hcap : ms.length ≤ cm' := hcap0
  have hk1 : k ≤ cm' := by omega
  have hk2 : k + 1 ≤ cm' := by omega
  have hk3 : k + 1 ≤ ms.length := hk
  have hwr : Hid (IntKind.i64.wrap ((k : Int) + 1) = ((k + 1 : Nat) : Int)) := by
    unfold Hid
    have hk12 : k < 12 := by omega
    show IntKind.i64.wrap ((k : Int) + 1) = _
    rw [IntKind.wrap_i64] <;> omega
  obtain ⟨i0, hi, hz0, hz1, hz2⟩ := info_msgE
  refine region_held_last (S := fun w' => Below w2.heap.size w2 w') 13 rfl (by kernel_rfl) (by kernel_rfl) ((Below.refl _ _).drew) (fun hs0 => ?_)
  simp only [List.take_succ_cons, List.take_zero]
  have hz3 : Hid (w2.drew.heap.size = w2.heap.size) := rfl
  generalize w2.drew = w3 at *
  have hz23 : w2.heap.size ≤ w3.heap.size := Nat.le_of_eq hz3.out.symm
  have j4 := (Wire.Bk.m7 HX2.out).2.2.2.2.1
  have jlt := HX2.out.lt
  refine wpAnyH_take (i := 1) (oi := _) (v := _) rfl (by kernel_rfl) (by kernel_rfl) (by kernel_rfl) (fun _ _ _ h => h) (.inl ⟨by rfl, by intro w hSw; go_simp; with_reducible rfl⟩) hs0 ?_
  try simp only [Act.put, List.setIfInBounds_toArray, List.set_cons_zero, List.set_cons_succ]
  refine wpAnyH_take (i := 2) (oi := _) (v := _) rfl (by kernel_rfl) (by kernel_rfl) (by kernel_rfl) (fun _ _ _ h => h) (.inl ⟨by rfl, by intro w hSw; have hc4 := (hSw.cell (p := ⟨w1.heap.size, 4, none⟩) jlt).trans j4; go_simp; with_reducible rfl⟩) hs0 ?_
  try simp only [Act.put, List.setIfInBounds_toArray, List.set_cons_zero, List.set_cons_succ]
  refine wpAnyH_take (i := 3) (oi := _) (v := _) rfl (by kernel_rfl) (by kernel_rfl) (by kernel_rfl) (fun _ _ _ h => h) (.inl ⟨by rfl, by intro w hSw; go_simp; with_reducible rfl⟩) hs0 ?_
  try simp only [Act.put, List.setIfInBounds_toArray, List.set_cons_zero, List.set_cons_succ]
  refine wpAnyH_take (i := 4) (oi := _) (v := _) rfl (by kernel_rfl) (by kernel_rfl) (by kernel_rfl) (fun _ _ _ h => h) (.inl ⟨by rfl, by intro w hSw; go_simp; with_reducible rfl⟩) hs0 ?_
  try simp only [Act.put, List.setIfInBounds_toArray, List.set_cons_zero, List.set_cons_succ]
  refine wpAnyH_take (i := 6) (oi := _) (v := _) rfl (by kernel_rfl) (by kernel_rfl) (by kernel_rfl) (fun _ _ _ h => h) (.inl ⟨by rfl, by intro w hSw; go_simp; with_reducible rfl⟩) hs0 ?_
  try simp only [Act.put, List.setIfInBounds_toArray, List.set_cons_zero, List.set_cons_succ]
  refine wpAnyH_take (i := 7) (oi := _) (v := _) rfl (by kernel_rfl) (by kernel_rfl) (by kernel_rfl) (fun _ _ _ h => h) (.inl ⟨by rfl, by intro w hSw; have hc4 := (hSw.cell (p := ⟨w1.heap.size, 4, none⟩) jlt).trans j4; go_simp; with_reducible rfl⟩) hs0 ?_
  try simp only [Act.put, List.setIfInBounds_toArray, List.set_cons_zero, List.set_cons_succ]
  refine wpAnyH_take (i := 8) (oi := _) (v := _) rfl (by kernel_rfl) (by kernel_rfl) (by kernel_rfl) (fun _ _ _ h => h) (.inl ⟨by rfl, by intro w hSw; go_simp; with_reducible rfl⟩) hs0 ?_
  try simp only [Act.put, List.setIfInBounds_toArray, List.set_cons_zero, List.set_cons_succ]
  refine wpAnyH_take (i := 9) (oi := _) (v := _) rfl (by kernel_rfl) (by kernel_rfl) (by kernel_rfl) (fun _ _ _ h => h) (.inl ⟨by rfl, by intro w hSw; go_simp; rw [hwr.out]⟩) hs0 ?_
  try simp only [Act.put, List.setIfInBounds_toArray, List.set_cons_zero, List.set_cons_succ]
  refine wpAnyH_take (i := 10) (oi := _) (v := _) rfl (by kernel_rfl) (by kernel_rfl) (by kernel_rfl) (fun _ _ _ h => h) (.inl ⟨by rfl, by intro w hSw; go_simp; rw [if_pos ⟨by omega, by omega⟩]⟩) hs0 ?_
  try simp only [Act.put, List.setIfInBounds_toArray, List.set_cons_zero, List.set_cons_succ]
  refine wpAnyH_ready (rs := [0]) (by kernel_rfl) (by simp) ?_
  refine AllReadyH.cons rfl (fun K hK => ?_) AllReadyH.nil
  go_simp
  have hw4 : Below w3.heap.size w3 (w3.alloc (.cells #[] 102)) := belA _ _
  have Z4 : (w3.alloc (.cells #[] 102)).ownsRow w3.heap.size 102 9 (.slice (some ⟨w3.heap.size, 0, none⟩) 0 0) 0 [] := World.ownsRow_lit w3 #[] 0 (Nat.le_refl _) (Nat.zero_le _) rfl
  have hs4 := belt hs0 hw4
  refine hK.out _ _ hs4 (fun _ => ?_)
  clear hK K
  try simp only [Act.put, List.setIfInBounds_toArray, List.set_cons_zero, List.set_cons_succ]
  generalize w3.alloc (.cells #[] 102) = w4 at *
  have hz4 : w3.heap.size ≤ w4.heap.size := hw4.size
  have HM4 : LsAt tyMg w4 (some ⟨bk, off, none⟩) ms := HN2.out.at.m.keep hs4
  obtain ⟨xs, l1, l2, l3, l4⟩ := msgs_rows HM4 HML.out 0 k (by omega)
  rw [Nat.zero_mul, Nat.add_zero] at l2
  refine wpAnyH_ready (rs := [5]) (by kernel_rfl) (by simp) ?_
  refine AllReadyH.cons rfl (fun K hK => ?_) AllReadyH.nil
  rw [if_pos (by rfl)]
  refine wp_append_gw _ _ _ 33 rfl w3.heap.size 102 i0 _ 9 88 Tryz.underlying33 hi hz0 hz1 hz2 rfl (by decide) (.slice (some ⟨w3.heap.size, 0, none⟩) 0 0) 0 [] (by rfl) Z4 ⟨bk, off, none⟩ k cm' xs (by rfl) l1 l2 l3 (by unfold maxLen; omega) (by omega) hz4 ?_
  intro v5 w5 hown5 hgr5r
  have hgr5 : Gw w4 w5 (.slice (some ⟨w3.heap.size, 0, none⟩) 0 0) v5 := hgr5r
  clear hgr5r
  rw [Nat.zero_add, List.nil_append] at hown5
  have hs5 : Below w2.heap.size w2 w5 := hs4.trans (hgr5.below (by omega) (fun z hz => by simp [Value.ownBlock] at hz; omega))
  have hz5 : w4.heap.size ≤ w5.heap.size := hgr5.size
  refine hK.out _ _ hs5 (fun _ => ?_)
  clear hK K hgr5 Z4 l2 l3 HM4
  have HM5 : LsAt tyMg w5 (some ⟨bk, off, none⟩) ms := HN2.out.at.m.keep hs5
  obtain ⟨ys, m1, m2, m3, m4⟩ := msgs_rows HM5 HML.out (k + 1) (ms.length - (k + 1)) (by omega)
  try simp only [Act.put, List.setIfInBounds_toArray, List.set_cons_zero, List.set_cons_succ]
  refine wpAnyH_ready (rs := [11]) (by kernel_rfl) (by simp) ?_
  refine AllReadyH.cons rfl (fun K hK => ?_) AllReadyH.nil
  rw [if_pos (by rfl)]
  have hlo5 : ∀ z, v5.ownBlock = some z → w3.heap.size ≤ z := fun z hz => (hown5.lt z hz).1
  obtain ⟨ad, had⟩ : ∃ ad : Addr, (if cm' = k + 1 then some (⟨bk, off, none⟩ : Addr) else some ⟨bk, off + (k + 1) * 9, none⟩) = some ad := by
    split <;> exact ⟨_, rfl⟩
  have hcel : ∀ j u, ys[j]? = some u → w5.cell? (ad.add j) = some u := by
    intro j u hj
    by_cases hE : cm' = k + 1
    · have : ys.length = 0 := by rw [m1, show ms.length - (k + 1) = 0 from by omega]
      have := List.length_eq_zero_iff.1 this
      subst this
      simp at hj
    · rw [if_neg hE] at had
      have : ad = ⟨bk, off + (k + 1) * 9, none⟩ := by simpa using had.symm
      rw [this]
      exact m2 j u hj
  refine wp_append_gw _ _ _ 33 rfl w3.heap.size 102 i0 _ 9 88 Tryz.underlying33 hi hz0 hz1 hz2 rfl (by decide) v5 k xs (by rfl) hown5 ad (ms.length - (k + 1)) (cm' - (k + 1)) ys (by rw [← had]; rfl) m1 hcel m3 (by unfold maxLen; omega) (by omega) (by omega) ?_
  intro v6 w6 hown6 hgr6r
  have hgr6 : Gw w5 w6 v5 v6 := hgr6r
  clear hgr6r
  have hs6 : Below w2.heap.size w2 w6 := hs5.trans (hgr6.below (by omega) (fun z hz => by have := hlo5 z hz; omega))
  refine hK.out _ _ hs6 (fun _ => ?_)
  clear hK K
  try simp only [Act.put, List.setIfInBounds_toArray, List.set_cons_zero, List.set_cons_succ]
  generalize (if cm' = k + 1 then some (⟨bk, off, none⟩ : Addr) else some ⟨bk, off + (k + 1) * 9, none⟩) = oa
  refine wpAnyH_take (i := 12) (oi := _) (v := _) rfl (by kernel_rfl) (by kernel_rfl) (by kernel_rfl) (fun _ _ _ h => h) (.inl ⟨by rfl, by intro w hSw; go_simp; with_reducible rfl⟩) hs6 ?_
  try simp only [Act.put, List.setIfInBounds_toArray, List.set_cons_zero, List.set_cons_succ]
  have hn6 : k + (ms.length - (k + 1)) = ms.length - 1 := by omega
  rw [hn6] at hown6
  obtain ⟨a9, c9, rfl, hes⟩ := rowN_own hown6 (erase_len hk) (by omega) (rowN_erase hk l1 m1 l4 m4) (erase_nil hk HML.out)
  have HES : Hid (OwnEs tyMg 102 w3.heap.size w6.heap.size w6 a9 (ms.length - 1) (ms.eraseIdx k)) := hes
  have HX6 : Hid (Wire.Bk w6 w1.heap.size #[.int .i64 b, .int .i64 d, .slice ap' ps.length cp', .int .i64 ttl, .slice (some ⟨bk, off, none⟩) ms.length cm', .slice ag' gs.length cg', .slice ar' rs.length cr'] 36) := HX2.out.keep hs6
  have HY6 : Hid (Wire.Bk w6 (w1.heap.size + 1) #[.int .i64 x0, .int .i64 x1, .int .i64 x2, .int .i64 x3, .int .i64 x4, .int .i64 x5, .int .i64 x6, .int .i64 x7, .slice ab 0 cb] 102) := HY2.out.keep hs6
  have HN6 : Hid (OwnN w0.heap.size w1.heap.size w6 ap' (some ⟨bk, off, none⟩) ag' ar' ps.length ms.length gs.length rs.length ps ms gs rs) := HN2.out.blocks (fun z _ _ h => hs6.block z h)
  have HB6 : Hid (Below w0.heap.size w0 w6) := belt HB2.out hs6
  have HZ6 : Hid (w1.heap.size + 2 ≤ w3.heap.size ∧ w3.heap.size ≤ w6.heap.size ∧ w0.heap.size ≤ w1.heap.size) := ⟨by omega, by have h1 := hgr6.size; have h2 := hz4; have h3 := hz5; omega, hw1.size⟩
  refine wpAnyH_done (by kernel_rfl) (lastQ_done rfl ?_) _
  have f4 := HX6.out.fr 4
  have xl6 := HX6.out.lt
  have cx4 := (Wire.Bk.m7 HX6.out).2.2.2.2.1
  clear hes hown6 hown5 hgr6 hlo5 hcel had m1 m2 m3 m4 l1 l4 hs0 hs4 hs5 hs6 HM5 hz4 hz5 hz23 hz3 hz12 hz2 j4 jlt HX2 HY2 HN2 HB2 hwr hi hz0 hz1
  go_wp2_with fail
  obtain ⟨w7, hw7⟩ : ∃ w7, w7 = w6.setCell ⟨w1.heap.size, 4, none⟩ (.slice a9 (ms.length - 1) c9) := ⟨_, rfl⟩
  rw [← hw7]
  have HB7 : Hid (Below w0.heap.size w0 w7) := by rw [Hid, hw7]; exact HB6.out.setCell (p := ⟨w1.heap.size, 4, none⟩) HZ6.out.2.2 _
  have HX7 : Hid (Wire.Bk w7 w1.heap.size #[.int .i64 b, .int .i64 d, .slice ap' ps.length cp', .int .i64 ttl, .slice a9 (ms.length - 1) c9, .slice ag' gs.length cg', .slice ar' rs.length cr'] 36) := by rw [hw7]; exact HX6.out.set 4 _
  have HY7 : Hid (Wire.Bk w7 (w1.heap.size + 1) #[.int .i64 x0, .int .i64 x1, .int .i64 x2, .int .i64 x3, .int .i64 x4, .int .i64 x5, .int .i64 x6, .int .i64 x7, .slice ab 0 cb] 102) := by rw [hw7]; exact HY6.out.oth (by omega) _ _
  have HS7 : Hid (w7.heap.size = w6.heap.size) := by rw [Hid, hw7]; simp [World.setCell]
  have HO7 : Hid (∀ z, ¬ z = w1.heap.size → w7.heap[z]? = w6.heap[z]?) := fun z hz => by rw [hw7]; exact heap_setCell_other _ _ _ _ (by simpa using hz)
  have HR17 : Hid (Wire.Bk w7 (qq + 1) #[.int .i64 0, .int .i64 0, .slice none 0 0, .int .i64 0, .slice none 0 0, .slice none 0 0, .slice none 0 0] 36) := HR1.out.keepN HB7.out (by have := hs0.out; have := HQ.out; omega)
  have HR27 : Hid (Wire.Bk w7 (qq + 2) #[.int .i64 0, .int .i64 0, .int .i64 0, .int .i64 0, .int .i64 0, .int .i64 0, .int .i64 0, .int .i64 0, .slice none 0 0] 102) := HR2.out.keepN HB7.out (by have := hs0.out; have := HQ.out; omega)
  clear hw7 HX6 HY6 f4 xl6 cx4
  obtain ⟨q0, q1, q2, q3, q4, q5, q6⟩ := Wire.Bk.m7 HX7.out
  obtain ⟨y0, y1, y2, y3, y4, y5, y6, y7, y8⟩ := Wire.Bk.c9 HY7.out
  obtain ⟨r0, r1, r2, r3, r4, r5, r6⟩ := Wire.Bk.m7 HR17.out
  obtain ⟨s0, s1, s2, s3, s4, s5, s6, s7, s8⟩ := Wire.Bk.c9 HR27.out
  obtain ⟨f0, f1, f2, f3, f4, f5, f6⟩ := Wire.Bk.g7 HR17.out
  obtain ⟨g0, g1, g2, g3, g4, g5, g6, g7, g8⟩ := Wire.Bk.f9 HR27.out
  have lq := HX7.out.lt
  have ly := HY7.out.lt
  have lr1 := HR17.out.lt
  have lr2 := HR27.out.lt
  have ne1 : qq + 2 < w1.heap.size := by have h1 := HZ6.out.2.2; have h2 := hs0.out; have h3 := HQ.out; omega
  have ne2 : qq + 1 < w1.heap.size := by omega
  go_region
  change Exit.then _ _ _ _ (Wire.setL (Wire.setL w7 (qq + 1) 0 [.int .i64 b, .int .i64 d, .slice ap' ps.length cp', .int .i64 ttl, .slice a9 (ms.length - 1) c9, .slice ag' gs.length cg', .slice ar' rs.length cr']) (qq + 2) 0 [.int .i64 x0, .int .i64 x1, .int .i64 x2, .int .i64 x3, .int .i64 x4, .int .i64 x5, .int .i64 x6, .int .i64 x7, .slice ab 0 cb]).drew
  obtain ⟨w8, hw8⟩ : ∃ w8, w8 = Wire.setL w7 (qq + 1) 0 [.int .i64 b, .int .i64 d, .slice ap' ps.length cp', .int .i64 ttl, .slice a9 (ms.length - 1) c9, .slice ag' gs.length cg', .slice ar' rs.length cr'] := ⟨_, rfl⟩
  obtain ⟨w9, hw9⟩ : ∃ w9, w9 = Wire.setL w8 (qq + 2) 0 [.int .i64 x0, .int .i64 x1, .int .i64 x2, .int .i64 x3, .int .i64 x4, .int .i64 x5, .int .i64 x6, .int .i64 x7, .slice ab 0 cb] := ⟨_, rfl⟩
  rw [← hw8, ← hw9]
  have E1 : Wire.Bk w9 (qq + 1) [.int .i64 b, .int .i64 d, .slice ap' ps.length cp', .int .i64 ttl, .slice a9 (ms.length - 1) c9, .slice ag' gs.length cg', .slice ar' rs.length cr'].toArray 36 := by
    have h1 := HR17.out.setL [.int .i64 b, .int .i64 d, .slice ap' ps.length cp', .int .i64 ttl, .slice a9 (ms.length - 1) c9, .slice ag' gs.length cg', .slice ar' rs.length cr'] 0
    rw [ovrE, ← hw8] at h1
    rw [hw9]
    exact (Wire.setL_oth (by omega) _ _ _).trans h1
  have E2 : Wire.Bk w9 (qq + 2) [.int .i64 x0, .int .i64 x1, .int .i64 x2, .int .i64 x3, .int .i64 x4, .int .i64 x5, .int .i64 x6, .int .i64 x7, .slice ab 0 cb].toArray 102 := by
    have h1 : Wire.Bk w8 (qq + 2) #[.int .i64 0, .int .i64 0, .int .i64 0, .int .i64 0, .int .i64 0, .int .i64 0, .int .i64 0, .int .i64 0, .slice none 0 0] 102 := by rw [hw8]; exact (Wire.setL_oth (by omega) _ _ _).trans HR27.out
    have h2 := h1.setL [.int .i64 x0, .int .i64 x1, .int .i64 x2, .int .i64 x3, .int .i64 x4, .int .i64 x5, .int .i64 x6, .int .i64 x7, .slice ab 0 cb] 0
    rw [← hw9] at h2
    exact h2
  have hq3 : qq + 3 = w0.heap.size := by have h2 := hs0.out; have h3 := HQ.out; omega
  have hoth : ∀ z, w0.heap.size ≤ z → ¬ z = w1.heap.size → w9.heap[z]? = w6.heap[z]? := fun z hz hx => by
    rw [hw9, Wire.setL_oth (by omega) _ _ _, hw8, Wire.setL_oth (by omega) _ _ _]
    exact HO7.out z hx
  have hsz : w9.heap.size = w6.heap.size := by rw [hw9, Wire.setL_size, hw8, Wire.setL_size]; exact HS7.out
  have hB : Below w.heap.size w w9 := by
    rw [hw9, hw8]
    exact Wire.setL_below (by have := HQ.out; omega) _ 0 (Wire.setL_below (by have := HQ.out; omega) _ 0 (HB0.out.trans (HB7.out.mono (by have := hs0.out; omega))))
  have hN : OwnN w.heap.size w9.heap.size w9 ap' a9 ag' ar' ps.length (ms.length - 1) gs.length rs.length ps (ms.eraseIdx k) gs rs := by
    obtain ⟨p0, p1, m0, m1, g0, g1, r0, r1, hA, hBB, o1, o2, o3, o4⟩ := HN6.out.ex
    have n1 := HZ6.out
    have n2 := hs0.out
    rw [hsz]
    exact ⟨⟨p0, p1, w3.heap.size, w6.heap.size, g0, g1, r0, r1, by omega, by omega, o1.blocks (fun z a1 a2 _ => hoth z (by omega) (by omega)), HES.out.blocks (fun z a1 a2 _ => hoth z (by omega) (by omega)), o3.blocks (fun z a1 a2 _ => hoth z (by omega) (by omega)), o4.blocks (fun z a1 a2 _ => hoth z (by omega) (by omega))⟩⟩
  have HE1 : Hid (Wire.Bk w9 (qq + 1) [.int .i64 b, .int .i64 d, .slice ap' ps.length cp', .int .i64 ttl, .slice a9 (ms.length - 1) c9, .slice ag' gs.length cg', .slice ar' rs.length cr'].toArray 36) := E1
  have HE2 : Hid (Wire.Bk w9 (qq + 2) [.int .i64 x0, .int .i64 x1, .int .i64 x2, .int .i64 x3, .int .i64 x4, .int .i64 x5, .int .i64 x6, .int .i64 x7, .slice ab 0 cb].toArray 102) := E2
  have HNN : Hid (OwnN w.heap.size w9.heap.size w9 ap' a9 ag' ar' ps.length (ms.length - 1) gs.length rs.length ps (ms.eraseIdx k) gs rs) := hN
  have HBB : Hid (Below w.heap.size w w9) := hB
  clear hN hB hsz hoth E1 E2 hw8 hw9 hq3 q0 q1 q2 q3 q4 q5 q6 y0 y1 y2 y3 y4 y5 y6 y7 y8 r0 r1 r2 r3 r4 r5 r6 s0 s1 s2 s3 s4 s5 s6 s7 s8 f0 f1 f2 f3 f4 f5 f6 g0 g1 g2 g3 g4 g5 g6 g7 g8 HX7 HY7 HR17 HR27 HO7 HB7
  go_wp2
  exact bodyPost_ret (results_cell_cell Tryz.results66 _ _ (qq + 1) (qq + 2) _ _ _ _ _ _ _ _ rfl rfl HE1.out HE2.out Tryz.underlying36 rfl (by kernel_rfl) Tryz.underlying102 rfl (by kernel_rfl)) rfl ⟨ap', a9, ag', ar', cp', c9, cg', cr', ab, cb, by rw [HP.out]; rfl, HNN.out.blocks (w1 := w9.drew) (fun z _ _ _ => rfl), HBB.out.drew⟩
end Go.Proofs.YtdceimnapbblnaaGreat
namespace Go.Proofs.YtdceimnapbblnaaGreat
open Go.RowKit Go.Deep
set_option linter.unusedVariables false
set_option linter.unusedSimpArgs false
theorem rowAt_none {w : World} {gs : List Int} (h : RowAt w none gs) : gs = [] := by
  rcases h with h | ⟨bk, off, h, _⟩
  · exact h
  · cases h
theorem nil_capM {w : World} {ap am ag ar : Option Addr} {ps : List Pr} {ms : List Mg} {gs : List Int} {rs : List Rp} (hr : NetAt w ap am ag ar ps ms gs rs) : am = none → ms.length = 0 := fun h => by
  have h1 := hr.m
  rw [h] at h1
  have h2 : ms = [] := lsAt_none h1
  rw [h2]; rfl
theorem nil_capR {w : World} {ap am ag ar : Option Addr} {ps : List Pr} {ms : List Mg} {gs : List Int} {rs : List Rp} (hr : NetAt w ap am ag ar ps ms gs rs) : ar = none → rs.length = 0 := fun h => by
  have h1 := hr.r
  rw [h] at h1
  have h2 : rs = [] := lsAt_none h1
  rw [h2]; rfl
theorem nil_capG {w : World} {ap am ag ar : Option Addr} {ps : List Pr} {ms : List Mg} {gs : List Int} {rs : List Rp} (hr : NetAt w ap am ag ar ps ms gs rs) : ag = none → gs.length = 0 := fun h => by
  have h1 := hr.g
  rw [h] at h1
  rw [rowAt_none h1]; rfl
def loseB (b d ttl : Int) (ps : List Pr) (ms : List Mg) (gs : List Int) (rs : List Rp) (k : Int) : Bool := goodN b d ttl ps ms gs rs && isNo k ms.length
def loseA (b d ttl : Int) (ps : List Pr) (ms : List Mg) (gs : List Int) (rs : List Rp) (k : Int) : Nt := if loseB b d ttl ps ms gs rs k = true then ⟨b, d, ttl, ps, ms.eraseIdx k.toNat, gs, rs⟩ else nt0
theorem sumL_erase {α : Type} (c : α → Nat) : ∀ (l : List α) (k : Nat), sumL c (l.eraseIdx k) ≤ sumL c l
  | [], k => by simp [sumL]
  | x :: xs, 0 => by simp [sumL]
  | x :: xs, k + 1 => by
    have := sumL_erase c xs k
    simp only [List.eraseIdx_cons_succ, sumL]
    omega
theorem big_erase {ps : List Pr} {ms : List Mg} {gs : List Int} {rs : List Rp} (h : BigN ps ms gs rs) (k : Nat) : BigN ps (ms.eraseIdx k) gs rs := by
  refine ⟨h.p, ?_, h.g, h.r⟩
  have h1 := h.m
  have h2 := List.length_eraseIdx_le ms k
  have h3 : lsum (ms.eraseIdx k) ≤ lsum ms := sumL_erase _ ms k
  omega
theorem loseA_big {b d ttl : Int} {ps : List Pr} {ms : List Mg} {gs : List Int} {rs : List Rp} (h : BigN ps ms gs rs) (k : Int) : BigN (loseA b d ttl ps ms gs rs k).ps (loseA b d ttl ps ms gs rs k).ms (loseA b d ttl ps ms gs rs k).gs (loseA b d ttl ps ms gs rs k).rs := by
  unfold loseA
  split
  · exact big_erase h _
  · exact nt0_big
theorem goodN_nil {b d ttl : Int} {ps : List Pr} {ms : List Mg} {gs : List Int} {rs : List Rp} (hg : goodN b d ttl ps ms gs rs = true) : ∀ i, i < ms.length → (ms.getD i mg0).l = [] := fun i hi => by
  unfold goodN at hg
  simp only [Bool.and_eq_true, decide_eq_true_eq] at hg
  exact okMg_l (hg.1.2 i hi)
set_option maxRecDepth 100000 in
set_option maxHeartbeats 6400000 in
theorem lLoseMsg_any (b d ttl : Int) (ap am ag ar : Option Addr) (cp cm cg cr : Nat) (ps : List Pr) (ms : List Mg) (gs : List Int) (rs : List Rp) (k : Int) (w : World) (hb : BigN ps ms gs rs) (hr : NetAt w ap am ag ar ps ms gs rs) (hcm : am = none → cm = 0) (hcg : ag = none → cg = 0) (hcr : ar = none → cr = 0) :
    Calls Tryz.prog 30 #[.agg #[.int .i64 b, .int .i64 d, .slice ap ps.length cp, .int .i64 ttl, .slice am ms.length cm, .slice ag gs.length cg, .slice ar rs.length cr], .int .i64 k] w (NetSay w (loseA b d ttl ps ms gs rs k) (loseB b d ttl ps ms gs rs k)) := by
  have N0 : Hid (T2 w ((w.alloc (.cells #[.int .i64 b, .int .i64 d, .slice ap ps.length cp, .int .i64 ttl, .slice am ms.length cm, .slice ag gs.length cg, .slice ar rs.length cr] 36)).alloc (.cells #[.int .i64 0, .int .i64 0, .slice none 0 0, .int .i64 0, .slice none 0 0, .slice none 0 0, .slice none 0 0] 36)) #[.int .i64 b, .int .i64 d, .slice ap ps.length cp, .int .i64 ttl, .slice am ms.length cm, .slice ag gs.length cg, .slice ar rs.length cr] 36 #[.int .i64 0, .int .i64 0, .slice none 0 0, .int .i64 0, .slice none 0 0, .slice none 0 0, .slice none 0 0] 36) := t20 w _ _ _ _
  have HR : Hid (NetAt w ap am ag ar ps ms gs rs) := hr
  have HBG : Hid (BigN ps ms gs rs) := hb
  have CG := lgoodN_any b d ttl ap am ag ar cp cm cg cr ps ms gs rs _ hb (hr.keep N0.out.bel)
  have hm : ms.length ≤ 1048576 := by have := hb.m; omega
  clear hr hb
  cases hg : goodN b d ttl ps ms gs rs
  · have HV : Hid (loseB b d ttl ps ms gs rs k = false) := by unfold Hid loseB; rw [hg]; rfl
    rw [loseA, if_neg (by rw [HV.out]; simp), HV.out]
    rw [hg] at CG
    clear hg
    go_enter Tryz.func30, Tryz.ntmps30
    go_wp2_with fail
    refine CG.mono ?_
    rintro e w1 ⟨rfl, HW⟩
    have N1 : Hid (T2 w w1 #[.int .i64 b, .int .i64 d, .slice ap ps.length cp, .int .i64 ttl, .slice am ms.length cm, .slice ag gs.length cg, .slice ar rs.length cr] 36 #[.int .i64 0, .int .i64 0, .slice none 0 0, .int .i64 0, .slice none 0 0, .slice none 0 0, .slice none 0 0] 36) := N0.out.keep HW
    clear CG N0 HW
    obtain ⟨r0, r1, r2, r3, r4, r5, r6⟩ := Wire.Bk.m7 N1.out.kr
    obtain ⟨s0, s1, s2, s3, s4, s5, s6⟩ := Wire.Bk.g7 N1.out.kr
    go_wp2
    obtain ⟨E1, E2⟩ := netOut_no N1.out
    exact bodyPost_ret (results_cell_tmp Tryz.results30 _ _ (w.heap.size + 1) _ _ _ _ _ rfl rfl E1 Tryz.underlying36 rfl (by kernel_rfl)) rfl E2.say
  have HG : Hid (goodN b d ttl ps ms gs rs = true) := hg
  have hlen := goodN_len hg
  rw [hg] at CG
  cases hk : isNo k ms.length
  · have HV : Hid (loseB b d ttl ps ms gs rs k = false) := by unfold Hid loseB; rw [hk, Bool.and_false]
    rw [loseA, if_neg (by rw [HV.out]; simp), HV.out]
    have HK : Hid (isNo k ms.length = false) := hk
    clear hg hk
    go_enter Tryz.func30, Tryz.ntmps30
    go_wp2_with fail
    refine CG.mono ?_
    rintro e w1 ⟨rfl, HW⟩
    have N1 : Hid (T2 w w1 #[.int .i64 b, .int .i64 d, .slice ap ps.length cp, .int .i64 ttl, .slice am ms.length cm, .slice ag gs.length cg, .slice ar rs.length cr] 36 #[.int .i64 0, .int .i64 0, .slice none 0 0, .int .i64 0, .slice none 0 0, .slice none 0 0, .slice none 0 0] 36) := N0.out.keep HW
    clear CG N0 HW
    obtain ⟨q0, q1, q2, q3, q4, q5, q6⟩ := Wire.Bk.m7 N1.out.ka
    go_wp2_with fail
    refine (lin_any _ 0 ((ms.length : Int) - 1) w1).mono ?_
    rintro e w2 ⟨rfl, he⟩
    have he' := he.symm
    subst he'
    clear he
    rw [inB_isNo]
    rw [HK.out]
    obtain ⟨r0, r1, r2, r3, r4, r5, r6⟩ := Wire.Bk.m7 N1.out.kr
    obtain ⟨s0, s1, s2, s3, s4, s5, s6⟩ := Wire.Bk.g7 N1.out.kr
    go_wp2
    obtain ⟨E1, E2⟩ := netOut_no N1.out
    exact bodyPost_ret (results_cell_tmp Tryz.results30 _ _ (w.heap.size + 1) _ _ _ _ _ rfl rfl E1 Tryz.underlying36 rfl (by kernel_rfl)) rfl E2.say
  have HV : Hid (loseB b d ttl ps ms gs rs k = true) := by unfold Hid loseB; rw [hk, hg]; rfl
  rw [loseA, if_pos HV.out, HV.out]
  obtain ⟨hk0, hk1, hk2⟩ := isNo_true hk
  have HK : Hid (isNo k ms.length = true) := hk
  generalize hkk : k.toNat = kk at hk1 hk2
  clear hg hk hkk hk0
  subst hk2
  go_enter Tryz.func30, Tryz.ntmps30
  go_wp2_with fail
  refine CG.mono ?_
  rintro e w1 ⟨rfl, HW⟩
  have N1 : Hid (T2 w w1 #[.int .i64 b, .int .i64 d, .slice ap ps.length cp, .int .i64 ttl, .slice am ms.length cm, .slice ag gs.length cg, .slice ar rs.length cr] 36 #[.int .i64 0, .int .i64 0, .slice none 0 0, .int .i64 0, .slice none 0 0, .slice none 0 0, .slice none 0 0] 36) := N0.out.keep HW
  clear CG N0 HW
  obtain ⟨q0, q1, q2, q3, q4, q5, q6⟩ := Wire.Bk.m7 N1.out.ka
  go_wp2_with fail
  refine (lin_any _ 0 ((ms.length : Int) - 1) w1).mono ?_
  rintro e w2 ⟨rfl, he⟩
  have he' := he.symm
  subst he'
  clear he
  rw [inB_isNo]
  rw [HK.out]
  clear q0 q1 q2 q3 q4 q5 q6
  obtain ⟨q0, q1, q2, q3, q4, q5, q6⟩ := Wire.Bk.m7 N1.out.ka
  go_wp2_with fail
  refine (l6Take_any b d ttl ap am ag ar cp cm cg cr ps ms gs rs kk w1 HG.out HBG.out (HR.out.keep N1.out.bel) hcm hcg hcr hk1).mono ?_
  rintro e w2 ⟨ap', am', ag', ar', cp', cm', cg', cr', sa, sc, rfl, hN, HW⟩
  clear q0 q1 q2 q3 q4 q5 q6
  have HN2 : Hid (OwnN w1.heap.size w2.heap.size w2 ap' am' ag' ar' ps.length (ms.length - 1) gs.length rs.length ps (ms.eraseIdx kk) gs rs) := hN
  have hw1 : w.heap.size + 1 < w1.heap.size := N1.out.kr.lt
  have N2 : Hid (T2 w w2 #[.int .i64 b, .int .i64 d, .slice ap ps.length cp, .int .i64 ttl, .slice am ms.length cm, .slice ag gs.length cg, .slice ar rs.length cr] 36 #[.int .i64 0, .int .i64 0, .slice none 0 0, .int .i64 0, .slice none 0 0, .slice none 0 0, .slice none 0 0] 36) := N1.out.keep HW
  have hle : (ms.eraseIdx kk).length = ms.length - 1 := List.length_eraseIdx_of_lt hk1
  clear hN HW N1
  generalize ms.getD kk mg0 = p
  obtain ⟨x0, x1, x2, x3, x4, x5, x6, x7, l⟩ := p
  simp only [mgV]
  have hb3 : Below w2.heap.size w2 ((w2.alloc (.cells #[.int .i64 b, .int .i64 d, .slice ap' ps.length cp', .int .i64 ttl, .slice am' (ms.length - 1) cm', .slice ag' gs.length cg', .slice ar' rs.length cr'] 36)).alloc (.cells #[.int .i64 x0, .int .i64 x1, .int .i64 x2, .int .i64 x3, .int .i64 x4, .int .i64 x5, .int .i64 x6, .int .i64 x7, .slice sa 0 sc] 102)) := belt (belA _ _) (belA _ _)
  have N3 : Hid (T2 w ((w2.alloc (.cells #[.int .i64 b, .int .i64 d, .slice ap' ps.length cp', .int .i64 ttl, .slice am' (ms.length - 1) cm', .slice ag' gs.length cg', .slice ar' rs.length cr'] 36)).alloc (.cells #[.int .i64 x0, .int .i64 x1, .int .i64 x2, .int .i64 x3, .int .i64 x4, .int .i64 x5, .int .i64 x6, .int .i64 x7, .slice sa 0 sc] 102)) #[.int .i64 b, .int .i64 d, .slice ap ps.length cp, .int .i64 ttl, .slice am ms.length cm, .slice ag gs.length cg, .slice ar rs.length cr] 36 #[.int .i64 0, .int .i64 0, .slice none 0 0, .int .i64 0, .slice none 0 0, .slice none 0 0, .slice none 0 0] 36) := N2.out.keep hb3
  have HN3 : Hid (OwnN w1.heap.size w2.heap.size ((w2.alloc (.cells #[.int .i64 b, .int .i64 d, .slice ap' ps.length cp', .int .i64 ttl, .slice am' (ms.length - 1) cm', .slice ag' gs.length cg', .slice ar' rs.length cr'] 36)).alloc (.cells #[.int .i64 x0, .int .i64 x1, .int .i64 x2, .int .i64 x3, .int .i64 x4, .int .i64 x5, .int .i64 x6, .int .i64 x7, .slice sa 0 sc] 102)) ap' am' ag' ar' ps.length (ms.length - 1) gs.length rs.length ps (ms.eraseIdx kk) gs rs) := HN2.out.keep hb3
  have HX3 : Hid (Wire.Bk ((w2.alloc (.cells #[.int .i64 b, .int .i64 d, .slice ap' ps.length cp', .int .i64 ttl, .slice am' (ms.length - 1) cm', .slice ag' gs.length cg', .slice ar' rs.length cr'] 36)).alloc (.cells #[.int .i64 x0, .int .i64 x1, .int .i64 x2, .int .i64 x3, .int .i64 x4, .int .i64 x5, .int .i64 x6, .int .i64 x7, .slice sa 0 sc] 102)) w2.heap.size #[.int .i64 b, .int .i64 d, .slice ap' ps.length cp', .int .i64 ttl, .slice am' (ms.length - 1) cm', .slice ag' gs.length cg', .slice ar' rs.length cr'] 36) := (Wire.Bk.new _ _ _).alloc _
  clear hb3 N2 HN2
  obtain ⟨q0, q1, q2, q3, q4, q5, q6⟩ := Wire.Bk.m7 HX3.out
  obtain ⟨r0, r1, r2, r3, r4, r5, r6⟩ := Wire.Bk.m7 N3.out.kr
  obtain ⟨s0, s1, s2, s3, s4, s5, s6⟩ := Wire.Bk.g7 N3.out.kr
  go_wp2
  have N5 := N3.out.res 0 [.int .i64 b, .int .i64 d, .slice ap' ps.length cp', .int .i64 ttl, .slice am' (ms.length - 1) cm', .slice ag' gs.length cg', .slice ar' rs.length cr']
  rw [ovrE] at N5
  have hot : NetAt (Wire.setL ((w2.alloc (.cells #[.int .i64 b, .int .i64 d, .slice ap' ps.length cp', .int .i64 ttl, .slice am' (ms.length - 1) cm', .slice ag' gs.length cg', .slice ar' rs.length cr'] 36)).alloc (.cells #[.int .i64 x0, .int .i64 x1, .int .i64 x2, .int .i64 x3, .int .i64 x4, .int .i64 x5, .int .i64 x6, .int .i64 x7, .slice sa 0 sc] 102)) (w.heap.size + 1) 0 [.int .i64 b, .int .i64 d, .slice ap' ps.length cp', .int .i64 ttl, .slice am' (ms.length - 1) cm', .slice ag' gs.length cg', .slice ar' rs.length cr']) ap' am' ag' ar' ps (ms.eraseIdx kk) gs rs := (HN3.out.blocks (fun z a1 a2 _ => Wire.setL_oth (by omega) _ _ _)).at
  refine bodyPost_ret (w := Wire.setL ((w2.alloc (.cells #[.int .i64 b, .int .i64 d, .slice ap' ps.length cp', .int .i64 ttl, .slice am' (ms.length - 1) cm', .slice ag' gs.length cg', .slice ar' rs.length cr'] 36)).alloc (.cells #[.int .i64 x0, .int .i64 x1, .int .i64 x2, .int .i64 x3, .int .i64 x4, .int .i64 x5, .int .i64 x6, .int .i64 x7, .slice sa 0 sc] 102)) (w.heap.size + 1) 0 [.int .i64 b, .int .i64 d, .slice ap' ps.length cp', .int .i64 ttl, .slice am' (ms.length - 1) cm', .slice ag' gs.length cg', .slice ar' rs.length cr']) (results_cell_tmp Tryz.results30 _ _ (w.heap.size + 1) _ _ _ _ _ rfl rfl N5.kr Tryz.underlying36 rfl (by kernel_rfl)) rfl ?_
  exact ⟨ap', am', ag', ar', cp', cm', cg', cr', by simp only [hle]; rfl, hot, N5.bel⟩
set_option maxRecDepth 100000 in
set_option maxHeartbeats 6400000 in
theorem LoseMsg_any (b d ttl : Int) (ap am ag ar : Option Addr) (cp cm cg cr : Nat) (ps : List Pr) (ms : List Mg) (gs : List Int) (rs : List Rp) (k : Int) (w : World) (hb : BigN ps ms gs rs) (hr : NetAt w ap am ag ar ps ms gs rs) (hcm : am = none → cm = 0) (hcg : ag = none → cg = 0) (hcr : ar = none → cr = 0) :
    Calls Tryz.prog 29 #[.agg #[.int .i64 b, .int .i64 d, .slice ap ps.length cp, .int .i64 ttl, .slice am ms.length cm, .slice ag gs.length cg, .slice ar rs.length cr], .int .i64 k] w (NetOut w (loseA b d ttl ps ms gs rs k) (loseB b d ttl ps ms gs rs k)) := by
  have N0 : Hid (T2 w ((w.alloc (.cells #[.int .i64 b, .int .i64 d, .slice ap ps.length cp, .int .i64 ttl, .slice am ms.length cm, .slice ag gs.length cg, .slice ar rs.length cr] 36)).alloc (.cells #[.int .i64 0, .int .i64 0, .slice none 0 0, .int .i64 0, .slice none 0 0, .slice none 0 0, .slice none 0 0] 36)) #[.int .i64 b, .int .i64 d, .slice ap ps.length cp, .int .i64 ttl, .slice am ms.length cm, .slice ag gs.length cg, .slice ar rs.length cr] 36 #[.int .i64 0, .int .i64 0, .slice none 0 0, .int .i64 0, .slice none 0 0, .slice none 0 0, .slice none 0 0] 36) := t20 w _ _ _ _
  have HR : Hid (NetAt w ap am ag ar ps ms gs rs) := hr
  have HBG : Hid (BigN ps ms gs rs) := hb
  have CG := GoodNet_any b d ttl ap am ag ar cp cm cg cr ps ms gs rs _ hb (hr.keep N0.out.bel)
  have hm : ms.length ≤ 1048576 := by have := hb.m; omega
  clear hr hb
  cases hg : goodN b d ttl ps ms gs rs
  · have HV : Hid (loseB b d ttl ps ms gs rs k = false) := by unfold Hid loseB; rw [hg]; rfl
    rw [loseA, if_neg (by rw [HV.out]; simp), HV.out]
    rw [hg] at CG
    clear hg
    go_enter Tryz.func29, Tryz.ntmps29
    go_wp2_with fail
    refine CG.mono ?_
    rintro e w1 ⟨rfl, HW⟩
    have N1 : Hid (T2 w w1 #[.int .i64 b, .int .i64 d, .slice ap ps.length cp, .int .i64 ttl, .slice am ms.length cm, .slice ag gs.length cg, .slice ar rs.length cr] 36 #[.int .i64 0, .int .i64 0, .slice none 0 0, .int .i64 0, .slice none 0 0, .slice none 0 0, .slice none 0 0] 36) := N0.out.keep HW
    clear CG N0 HW
    obtain ⟨r0, r1, r2, r3, r4, r5, r6⟩ := Wire.Bk.m7 N1.out.kr
    obtain ⟨s0, s1, s2, s3, s4, s5, s6⟩ := Wire.Bk.g7 N1.out.kr
    go_wp2
    obtain ⟨E1, E2⟩ := netOut_no N1.out
    exact bodyPost_ret (results_cell_tmp Tryz.results29 _ _ (w.heap.size + 1) _ _ _ _ _ rfl rfl E1 Tryz.underlying36 rfl (by kernel_rfl)) rfl E2
  have HG : Hid (goodN b d ttl ps ms gs rs = true) := hg
  have hlen := goodN_len hg
  rw [hg] at CG
  cases hk : isNo k ms.length
  · have HV : Hid (loseB b d ttl ps ms gs rs k = false) := by unfold Hid loseB; rw [hk, Bool.and_false]
    rw [loseA, if_neg (by rw [HV.out]; simp), HV.out]
    have HK : Hid (isNo k ms.length = false) := hk
    clear hg hk
    go_enter Tryz.func29, Tryz.ntmps29
    go_wp2_with fail
    refine CG.mono ?_
    rintro e w1 ⟨rfl, HW⟩
    have N1 : Hid (T2 w w1 #[.int .i64 b, .int .i64 d, .slice ap ps.length cp, .int .i64 ttl, .slice am ms.length cm, .slice ag gs.length cg, .slice ar rs.length cr] 36 #[.int .i64 0, .int .i64 0, .slice none 0 0, .int .i64 0, .slice none 0 0, .slice none 0 0, .slice none 0 0] 36) := N0.out.keep HW
    clear CG N0 HW
    go_wp2_with fail
    refine (isInBag_any w.heap.size b d ttl ap am ag ar cp cm cg cr ps ms gs rs _ w1 N1.out.ka hm).mono ?_
    rintro e w2 ⟨rfl, he⟩
    have he' := he.symm
    subst he'
    clear he
    rw [HK.out]
    obtain ⟨r0, r1, r2, r3, r4, r5, r6⟩ := Wire.Bk.m7 N1.out.kr
    obtain ⟨s0, s1, s2, s3, s4, s5, s6⟩ := Wire.Bk.g7 N1.out.kr
    go_wp2
    obtain ⟨E1, E2⟩ := netOut_no N1.out
    exact bodyPost_ret (results_cell_tmp Tryz.results29 _ _ (w.heap.size + 1) _ _ _ _ _ rfl rfl E1 Tryz.underlying36 rfl (by kernel_rfl)) rfl E2
  have HV : Hid (loseB b d ttl ps ms gs rs k = true) := by unfold Hid loseB; rw [hk, hg]; rfl
  rw [loseA, if_pos HV.out, HV.out]
  obtain ⟨hk0, hk1, hk2⟩ := isNo_true hk
  have HK : Hid (isNo k ms.length = true) := hk
  generalize hkk : k.toNat = kk at hk1 hk2
  clear hg hk hkk hk0
  subst hk2
  go_enter Tryz.func29, Tryz.ntmps29
  go_wp2_with fail
  refine CG.mono ?_
  rintro e w1 ⟨rfl, HW⟩
  have N1 : Hid (T2 w w1 #[.int .i64 b, .int .i64 d, .slice ap ps.length cp, .int .i64 ttl, .slice am ms.length cm, .slice ag gs.length cg, .slice ar rs.length cr] 36 #[.int .i64 0, .int .i64 0, .slice none 0 0, .int .i64 0, .slice none 0 0, .slice none 0 0, .slice none 0 0] 36) := N0.out.keep HW
  clear CG N0 HW
  go_wp2_with fail
  refine (isInBag_any w.heap.size b d ttl ap am ag ar cp cm cg cr ps ms gs rs _ w1 N1.out.ka hm).mono ?_
  rintro e w2 ⟨rfl, he⟩
  have he' := he.symm
  subst he'
  clear he
  rw [HK.out]
  go_wp2_with fail
  refine (copyNet_any w.heap.size b d ttl ap am ag ar cp cm cg cr ps ms gs rs w1 HG.out HBG.out N1.out.ka.lt N1.out.ka (HR.out.keep N1.out.bel) hcm hcr).mono ?_
  rintro e w2 ⟨ap', am', ag', ar', cm', cr', rfl, hN, HW⟩
  have N2 : Hid (T2 w w2 #[.int .i64 b, .int .i64 d, .slice ap ps.length cp, .int .i64 ttl, .slice am ms.length cm, .slice ag gs.length cg, .slice ar rs.length cr] 36 #[.int .i64 0, .int .i64 0, .slice none 0 0, .int .i64 0, .slice none 0 0, .slice none 0 0, .slice none 0 0] 36) := N1.out.keep HW
  have HW12 : w1.heap.size ≤ w2.heap.size := HW.size
  have hw1 : w.heap.size + 1 < w1.heap.size := N1.out.kr.lt
  clear HW N1
  obtain ⟨p0, p1, m0, m1, g0, g1, r0, r1, hr, hd, OP, OB, OG, OR⟩ := hN.ex
  clear hN
  obtain ⟨g, rfl⟩ : ∃ g, am' = some ⟨g, 0, none⟩ := by
    obtain ⟨zs, h1, _, _⟩ := OB
    obtain ⟨g, cap, hv⟩ := Joins.ownsRow_form h1 (by omega)
    simp only [Value.slice.injEq] at hv
    exact ⟨g, hv.1⟩
  obtain ⟨_, _, _, _, _, hg0, hg1, _, _⟩ := OB.row
  go_wp2_with fail
  have HX3 : Wire.Bk (w2.alloc (.cells #[.int .i64 b, .int .i64 d, .slice ap' ps.length ps.length, .int .i64 ttl, .slice (some ⟨g, 0, none⟩) ms.length cm', .slice ag' gs.length gs.length, .slice ar' rs.length cr'] 36)) w2.heap.size #[.int .i64 b, .int .i64 d, .slice ap' ps.length ps.length, .int .i64 ttl, .slice (some ⟨g, 0, none⟩) ms.length cm', .slice ag' gs.length gs.length, .slice ar' rs.length cr'] 36 := Wire.Bk.new _ _ _
  refine (take_any w2.heap.size g cm' kk m0 m1 _ _ _ _ _ _ ms _ HX3 (OB.keep (belA _ _)) hk1 hm (by omega) (goodN_nil HG.out)).mono ?_
  rintro e w4 ⟨rfl, hX4, hB4, hS4, hW4, hO4⟩
  have HX4 : Hid (Wire.Bk w4 w2.heap.size #[.int .i64 b, .int .i64 d, .slice ap' ps.length ps.length, .int .i64 ttl, .slice (some ⟨g, 0, none⟩) (ms.length - 1) cm', .slice ag' gs.length gs.length, .slice ar' rs.length cr'] 36) := hX4
  have HB4 : Hid (BagW m0 m1 w4 (some ⟨g, 0, none⟩) cm' (ms.eraseIdx kk)) := hB4
  have hs3 : (w2.alloc (.cells #[.int .i64 b, .int .i64 d, .slice ap' ps.length ps.length, .int .i64 ttl, .slice (some ⟨g, 0, none⟩) ms.length cm', .slice ag' gs.length gs.length, .slice ar' rs.length cr'] 36)).heap.size = w2.heap.size + 1 := by simp
  have HO4 : Hid (∀ z, z < w2.heap.size → ¬ z = g → w4.heap[z]? = w2.heap[z]?) := fun z h1 h2 => (hO4 z (by omega) (by omega) h2).trans ((belA w2 _).block z h1)
  have hb4 : Below w.heap.size w w4 := hW4 w.heap.size w (by omega) (by omega) (belt N2.out.bel (belA _ _))
  have N4 : Hid (T2 w w4 #[.int .i64 b, .int .i64 d, .slice ap ps.length cp, .int .i64 ttl, .slice am ms.length cm, .slice ag gs.length cg, .slice ar rs.length cr] 36 #[.int .i64 0, .int .i64 0, .slice none 0 0, .int .i64 0, .slice none 0 0, .slice none 0 0, .slice none 0 0] 36) := ⟨hb4, (HO4.out _ (by omega) (by omega)).trans N2.out.ka, (HO4.out _ (by omega) (by omega)).trans N2.out.kr⟩
  have HS4 : Hid (w2.heap.size + 1 ≤ w4.heap.size) := by unfold Hid; omega
  clear hX4 hB4 hS4 hW4 hO4 hb4 HX3 N2
  obtain ⟨q0, q1, q2, q3, q4, q5, q6⟩ := Wire.Bk.m7 HX4.out
  obtain ⟨r0', r1', r2', r3', r4', r5', r6'⟩ := Wire.Bk.m7 N4.out.kr
  obtain ⟨s0, s1, s2, s3, s4, s5, s6⟩ := Wire.Bk.g7 N4.out.kr
  go_wp2
  have N5 := N4.out.res 0 [.int .i64 b, .int .i64 d, .slice ap' ps.length ps.length, .int .i64 ttl, .slice (some ⟨g, 0, none⟩) (ms.length - 1) cm', .slice ag' gs.length gs.length, .slice ar' rs.length cr']
  rw [ovrE] at N5
  have hsz := Wire.setL_size (g := w.heap.size + 1) [.int .i64 b, .int .i64 d, .slice ap' ps.length ps.length, .int .i64 ttl, .slice (some ⟨g, 0, none⟩) (ms.length - 1) cm', .slice ag' gs.length gs.length, .slice ar' rs.length cr'] w4 0
  have hoth : ∀ z, ¬ z = w.heap.size + 1 → (Wire.setL w4 (w.heap.size + 1) 0 [.int .i64 b, .int .i64 d, .slice ap' ps.length ps.length, .int .i64 ttl, .slice (some ⟨g, 0, none⟩) (ms.length - 1) cm', .slice ag' gs.length gs.length, .slice ar' rs.length cr']).heap[z]? = w4.heap[z]? := fun z hz => Wire.setL_oth hz _ _ _
  have hle : (ms.eraseIdx kk).length = ms.length - 1 := List.length_eraseIdx_of_lt hk1
  have OE : OwnN w.heap.size (Wire.setL w4 (w.heap.size + 1) 0 [.int .i64 b, .int .i64 d, .slice ap' ps.length ps.length, .int .i64 ttl, .slice (some ⟨g, 0, none⟩) (ms.length - 1) cm', .slice ag' gs.length gs.length, .slice ar' rs.length cr']).heap.size (Wire.setL w4 (w.heap.size + 1) 0 [.int .i64 b, .int .i64 d, .slice ap' ps.length ps.length, .int .i64 ttl, .slice (some ⟨g, 0, none⟩) (ms.length - 1) cm', .slice ag' gs.length gs.length, .slice ar' rs.length cr']) ap' (some ⟨g, 0, none⟩) ag' ar' ps.length (ms.eraseIdx kk).length gs.length rs.length ps (ms.eraseIdx kk) gs rs := by
    rw [hsz]
    have z1 := HS4.out
    exact ⟨⟨p0, p1, m0, m1, g0, g1, r0, r1, by omega, hd, (OP.blocks (fun z a1 a2 a3 => HO4.out z a3 (by omega))).blocks (fun z a1 a2 _ => hoth z (by omega)), (HB4.out.own (by omega) (erase_nil hk1 (goodN_nil HG.out))).blocks (fun z a1 a2 _ => hoth z (by omega)), (OG.blocks (fun z a1 a2 a3 => HO4.out z a3 (by omega))).blocks (fun z a1 a2 _ => hoth z (by omega)), ((OR.own (by omega)).blocks (fun z a1 a2 a3 => HO4.out z a3 (by omega))).blocks (fun z a1 a2 _ => hoth z (by omega))⟩⟩
  refine bodyPost_ret (results_cell_tmp Tryz.results29 _ _ (w.heap.size + 1) _ _ _ _ _ rfl rfl N5.kr Tryz.underlying36 rfl (by kernel_rfl)) rfl ?_
  exact ⟨ap', some ⟨g, 0, none⟩, ag', ar', ps.length, cm', gs.length, cr', by simp only [hle]; rfl, OE, N5.bel⟩
theorem lLoseMsg_own (b d ttl : Int) (ap am ag ar : Option Addr) (cp cm cg cr : Nat) (ps : List Pr) (ms : List Mg) (gs : List Int) (rs : List Rp) (k : Int) (w : World) (hb : BigN ps ms gs rs) (hr : NetAt w ap am ag ar ps ms gs rs) :
    Calls Tryz.prog 30 #[.agg #[.int .i64 b, .int .i64 d, .slice ap ps.length ps.length, .int .i64 ttl, .slice am ms.length ms.length, .slice ag gs.length gs.length, .slice ar rs.length rs.length], .int .i64 k] w (NetSay w (loseA b d ttl ps ms gs rs k) (loseB b d ttl ps ms gs rs k)) :=
  lLoseMsg_any b d ttl ap am ag ar _ _ _ _ ps ms gs rs k w hb hr (nil_capM hr) (nil_capG hr) (nil_capR hr)
theorem LoseMsg_own (b d ttl : Int) (ap am ag ar : Option Addr) (cp cm cg cr : Nat) (ps : List Pr) (ms : List Mg) (gs : List Int) (rs : List Rp) (k : Int) (w : World) (hb : BigN ps ms gs rs) (hr : NetAt w ap am ag ar ps ms gs rs) :
    Calls Tryz.prog 29 #[.agg #[.int .i64 b, .int .i64 d, .slice ap ps.length ps.length, .int .i64 ttl, .slice am ms.length ms.length, .slice ag gs.length gs.length, .slice ar rs.length rs.length], .int .i64 k] w (NetOut w (loseA b d ttl ps ms gs rs k) (loseB b d ttl ps ms gs rs k)) :=
  LoseMsg_any b d ttl ap am ag ar _ _ _ _ ps ms gs rs k w hb hr (nil_capM hr) (nil_capG hr) (nil_capR hr)
end Go.Proofs.YtdceimnapbblnaaGreat
namespace Go.Proofs.YtdceimnapbblnaaGreat
open Go.RowKit Go.ChangeShapes Go.WideShapes Go.Deep
set_option linter.unusedVariables false
set_option linter.unusedSimpArgs false
section
variable {H : Type} {enc : TypeId × Value → H} {W : World} {base : Nat} {held : Bool}
theorem ls_of_trod (e : TyI) {ts te : TypeId} (hts : Tryz.prog.underlying ts = some (.slice te)) (hw : Tryz.prog.cellsOf te = e.wide) (hpos : 0 < e.wide)
    (hel : ∀ (fuel : Nat) (cs : List Value) (x : DataW H × List MemPlace), DataW.trod enc Tryz.prog W base (fun _ => true) held fuel te cs = some x → ∃ m, e.rep W cs m)
    {fuel : Nat} {a : Option Addr} {n cap : Nat} {x : DataW H × List MemPlace} (h : DataW.trod enc Tryz.prog W base (fun _ => true) held fuel ts [.slice a n cap] = some x) :
    ∃ ms : List e.den, ms.length = n ∧ n ≤ maxLen ∧ n ≤ cap ∧ LsAt e W a ms := by
  rcases open_slice hts h with ⟨hcs, _⟩ | ⟨⟨b, off, spot⟩, l, c, m, k, D, Pl, hcs, _, hl, hm, hmm, _, hx⟩
  · simp at hcs
    obtain ⟨rfl, rfl, rfl⟩ := hcs
    exact ⟨[], rfl, Nat.zero_le _, Nat.zero_le _, .inl rfl⟩
  · simp at hcs
    obtain ⟨rfl, rfl, rfl⟩ := hcs
    simp at hmm
    subst hmm
    by_cases h0 : n = 0
    · subst h0; exact ⟨[], rfl, Nat.zero_le _, Nat.zero_le _, .inl rfl⟩
    rw [hw] at hx
    have hs : spot = none := by
      obtain ⟨cs, h1, h2⟩ := hx 0 (by omega)
      obtain ⟨p, hp⟩ := hel _ _ _ h2
      have hlen := e.rep_len hp
      obtain ⟨_, _, hce⟩ := World.cells?_some h1
      have g0 := hce 0 hpos
      rw [List.getElem?_eq_getElem (by omega)] at g0
      simpa [Addr.add] using World.cell?_spot g0
    subst hs
    have key : ∀ i, i < n → ∃ p : e.den, b < W.heap.size ∧ ∃ ci, CellsAt W b (off + i * e.wide) ci ∧ e.rep W ci p := by
      intro i hi
      obtain ⟨cs, h1, h2⟩ := hx i (by omega)
      obtain ⟨p, hp⟩ := hel _ _ _ h2
      have hlen := e.rep_len hp
      obtain ⟨_, _, hce⟩ := World.cells?_some h1
      have at_ : ∀ j, j < e.wide → W.cell? ⟨b, off + i * e.wide + j, none⟩ = cs[j]? := fun j hj => by
        have g := hce j hj
        rw [add_add] at g
        rw [add_none'] at g
        rw [Nat.add_assoc]
        exact g
      have g0 := at_ 0 hpos
      rw [List.getElem?_eq_getElem (by omega)] at g0
      refine ⟨p, by simpa using block_lt_of_cell g0, cs, fun j v hj => ?_, hp⟩
      have hjl := (List.getElem?_eq_some_iff.1 hj).1
      exact (at_ j (by omega)).trans hj
    obtain ⟨f, hf⟩ := @choose_lt e.den ⟨e.dflt⟩ _ _ key
    obtain ⟨hb, _⟩ := hf 0 (by omega)
    refine ⟨(List.range n).map f, by simp, by omega, hl, .inr ⟨b, off, rfl, hb, fun i hi => ?_⟩⟩
    have hi' : i < n := by simpa using hi
    have := (hf i hi').2
    simpa [List.getD_eq_getElem?_getD, hi'] using this
theorem msg_of_trod {fuel : Nat} {cs : List Value} {x : DataW H × List MemPlace} (h : DataW.trod enc Tryz.prog W base (fun _ => true) held fuel 200 cs = some x) : ∃ m, tyMg.rep W cs m := by
  obtain ⟨xs, n, _, _, hl, hlen, hf⟩ := DataW.trod_struct Tryz.underlying200 h
  obtain ⟨c0, c1, c2, c3, c4, c5, c6, c7, c8, rfl⟩ := Wire.list9 (hl.trans Wire.cellsM)
  obtain ⟨x0, x1, x2, x3, x4, x5, x6, x7, x8, rfl⟩ := Wire.list9 (l := xs) hlen
  have g0 := hf 0 _ rfl
  have g1 := hf 1 _ rfl
  have g2 := hf 2 _ rfl
  have g3 := hf 3 _ rfl
  have g4 := hf 4 _ rfl
  have g5 := hf 5 _ rfl
  have g6 := hf 6 _ rfl
  have g7 := hf 7 _ rfl
  have g8 := hf 8 _ rfl
  simp [Value.cells, cellsI, cellsIs] at g0 g1 g2 g3 g4 g5 g6 g7 g8
  obtain ⟨a0, e0, _, _⟩ := DataW.trod_int Tryz.underlying3 g0
  obtain ⟨a1, e1, _, _⟩ := DataW.trod_int Tryz.underlying3 g1
  obtain ⟨a2, e2, _, _⟩ := DataW.trod_int Tryz.underlying3 g2
  obtain ⟨a3, e3, _, _⟩ := DataW.trod_int Tryz.underlying3 g3
  obtain ⟨a4, e4, _, _⟩ := DataW.trod_int Tryz.underlying3 g4
  obtain ⟨a5, e5, _, _⟩ := DataW.trod_int Tryz.underlying3 g5
  obtain ⟨a6, e6, _, _⟩ := DataW.trod_int Tryz.underlying3 g6
  obtain ⟨a7, e7, _, _⟩ := DataW.trod_int Tryz.underlying3 g7
  simp at e0 e1 e2 e3 e4 e5 e6 e7
  subst e0 e1 e2 e3 e4 e5 e6 e7
  obtain ⟨ab, nb, cb, rfl⟩ := slice_of_trod Tryz.underlying30 g8
  obtain ⟨ys, rfl, hm, hc, hr⟩ := ints_row g8
  exact ⟨⟨a0, a1, a2, a3, a4, a5, a6, a7, ys⟩, ab, cb, rfl, hr, hm, hc⟩
theorem list5 {α : Type} {l : List α} (h : l.length = 5) : ∃ c0 c1 c2 c3 c4, l = [c0, c1, c2, c3, c4] := by
  match l, h with
  | [c0, c1, c2, c3, c4], _ => exact ⟨c0, c1, c2, c3, c4, rfl⟩
theorem list7 {α : Type} {l : List α} (h : l.length = 7) : ∃ c0 c1 c2 c3 c4 c5 c6, l = [c0, c1, c2, c3, c4, c5, c6] := by
  match l, h with
  | [c0, c1, c2, c3, c4, c5, c6], _ => exact ⟨c0, c1, c2, c3, c4, c5, c6, rfl⟩
theorem array7 {α : Type} {cs : Array α} (h : cs.size = 7) : ∃ c0 c1 c2 c3 c4 c5 c6, cs = #[c0, c1, c2, c3, c4, c5, c6] := by
  obtain ⟨l⟩ := cs
  obtain ⟨c0, c1, c2, c3, c4, c5, c6, rfl⟩ := list7 (l := l) (by simpa using h)
  exact ⟨c0, c1, c2, c3, c4, c5, c6, rfl⟩
theorem cellsMs : Tryz.prog.cellsOf 68 = 1 := by kernel_rfl
theorem cellsRs : Tryz.prog.cellsOf 69 = 1 := by kernel_rfl
theorem cellsR : Tryz.prog.cellsOf 203 = 5 := by kernel_rfl
theorem cellsB : Tryz.prog.cellsOf 4 = 1 := by kernel_rfl
theorem cellsNt : Tryz.prog.cellsOf 71 = 7 := by kernel_rfl
theorem reply_of_trod {fuel : Nat} {cs : List Value} {x : DataW H × List MemPlace} (h : DataW.trod enc Tryz.prog W base (fun _ => true) held fuel 203 cs = some x) : ∃ m, tyRp.rep W cs m := by
  obtain ⟨xs, n, _, _, hl, hlen, hf⟩ := DataW.trod_struct Tryz.underlying203 h
  obtain ⟨c0, c1, c2, c3, c4, rfl⟩ := list5 (hl.trans cellsR)
  obtain ⟨x0, x1, x2, x3, x4, rfl⟩ := list5 (l := xs) hlen
  have g0 := hf 0 _ rfl
  have g1 := hf 1 _ rfl
  have g2 := hf 2 _ rfl
  have g3 := hf 3 _ rfl
  have g4 := hf 4 _ rfl
  simp [Value.cells, cellsI, cellsB] at g0 g1 g2 g3 g4
  obtain ⟨a0, e0, _, _⟩ := DataW.trod_int Tryz.underlying3 g0
  obtain ⟨a1, e1, _, _⟩ := DataW.trod_int Tryz.underlying3 g1
  obtain ⟨a2, e2, _, _⟩ := DataW.trod_int Tryz.underlying3 g2
  obtain ⟨a3, e3, _, _⟩ := DataW.trod_int Tryz.underlying3 g3
  obtain ⟨a4, e4, _⟩ := DataW.trod_bool Tryz.underlying4 g4
  simp at e0 e1 e2 e3 e4
  subst e0 e1 e2 e3 e4
  exact ⟨⟨a0, a1, a2, a3, a4⟩, rfl⟩
set_option maxRecDepth 100000 in
theorem open_net {v : Value} {r : Reach} {b0 : Nat} {d : DataW H} {p : List MemPlace} (hv : Value.okWide Tryz.prog W r b0 71 v) (h : DataW.Trod enc Tryz.prog W base (fun _ => true) held 71 v d p) :
    ∃ (b g t : Int) (ap am ag ar : Option Addr) (cp cm cg cr : Nat) (ps : List Pr) (ms : List Mg) (gs : List Int) (rs : List Rp), v = .agg #[.int .i64 b, .int .i64 g, .slice ap ps.length cp, .int .i64 t, .slice am ms.length cm, .slice ag gs.length cg, .slice ar rs.length cr] ∧
      ps.length ≤ maxLen ∧ ms.length ≤ maxLen ∧ gs.length ≤ maxLen ∧ rs.length ≤ maxLen ∧ NetAt W ap am ag ar ps ms gs rs := by
  obtain ⟨cs, rfl, hsz⟩ := okWide_struct Tryz.underlying71 hv
  obtain ⟨c0, c1, c2, c3, c4, c5, c6, rfl⟩ := array7 (hsz.trans cellsNt)
  obtain ⟨fuel, hf⟩ := h
  obtain ⟨xs, n, _, _, hl, hlen, hf⟩ := DataW.trod_struct Tryz.underlying71 hf
  obtain ⟨x0, x1, x2, x3, x4, rfl⟩ := list5 (l := xs) hlen
  have g0 := hf 0 _ rfl
  have g1 := hf 1 _ rfl
  have g2 := hf 2 _ rfl
  have g3 := hf 3 _ rfl
  have g4 := hf 4 _ rfl
  simp [Value.cells, cellsI, cellsIs, cellsPs, cellsMs, cellsRs] at g0 g1 g2 g3 g4
  obtain ⟨y0, y1, m, _, _, h0, h1⟩ := trod_struct2 Tryz.underlying67 g0
  simp [cellsS] at h0
  simp [cellsS, cellsPl] at h1
  obtain ⟨z0, z1, m, _, _, i0, i1⟩ := trod_struct2 Tryz.underlying64 h0
  simp [cellsI] at i0 i1
  obtain ⟨b, e0, _, _⟩ := DataW.trod_int Tryz.underlying3 i0
  obtain ⟨g, e1, _, _⟩ := DataW.trod_int Tryz.underlying3 i1
  obtain ⟨t, e2, _, _⟩ := DataW.trod_int Tryz.underlying3 g1
  simp at e0 e1 e2
  subst e0 e1 e2
  obtain ⟨ap, np, cp, rfl⟩ := slice_of_trod Tryz.underlying65 h1
  obtain ⟨ps, rfl, hm, hc, hr⟩ := peersl_of_trod h1
  obtain ⟨am, nm, cm, rfl⟩ := slice_of_trod Tryz.underlying68 g2
  obtain ⟨ms, rfl, hm2, _, hr2⟩ := ls_of_trod tyMg Tryz.underlying68 Wire.cellsM (by show 0 < 9; omega) (fun _ _ _ h => msg_of_trod h) g2
  obtain ⟨ag, ng, cg, rfl⟩ := slice_of_trod Tryz.underlying30 g3
  obtain ⟨gs, rfl, hm3, _, hr3⟩ := ints_row g3
  obtain ⟨ar, nr, cr, rfl⟩ := slice_of_trod Tryz.underlying69 g4
  obtain ⟨rs, rfl, hm4, _, hr4⟩ := ls_of_trod tyRp Tryz.underlying69 cellsR (by show 0 < 5; omega) (fun _ _ _ h => reply_of_trod h) g4
  exact ⟨b, g, t, ap, am, ag, ar, cp, cm, cg, cr, ps, ms, gs, rs, rfl, hm, hm2, hm3, hm4, ⟨hr, hr2, hr3, hr4⟩⟩
end
end Go.Proofs.YtdceimnapbblnaaGreat
