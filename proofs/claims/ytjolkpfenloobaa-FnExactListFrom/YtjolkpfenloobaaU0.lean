/- A range over a function whose iterator never ends by itself: the body leaves it. What is told: an invariant by the number of rounds; the iterator need only come to its end because the body says no. -/
import Derived.Test.YtjolkpfenloobaaA0
import Derived.RangeFuncNested
import Derived.RangeFuncBound
import Derived.RangeFuncCalls
import Derived.RangeFuncLeaves
import Derived.Shelf.Abstract
import Derived.OwnWalkIn
import Derived.TacticsInMore
import Derived.LoopNIn
import Derived.LoopIn
import Derived.Maps.AppendAt
namespace Go.Proofs.Ytjolkpfenloobaa
open Go.RowKit Go.Shelf
set_option linter.unusedVariables false

/-- how a round's body is left: it goes on, or it breaks by the one exit -/
def endsRound (c : Nat) (I : Nat → World → Prop) (Ix : Unit → World → Prop) (k : Nat) (W : World) : Exit → Act → World → Prop
  | .normal, _, W' => KeepsOthers W W' ∧ I (k + 1) W'
  | .exit id, _, W' => id = c ∧ KeepsOthers W W' ∧ Ix () W'
  | _, _, _ => False

/-- the loop's two blocks: its record, and the place of the rounds' deferred calls -/
structure Loop2 (l D : Nat) (r : Loop) (W : World) : Prop where
  lr : W.heap[l]? = some (.loop r)
  dfr : W.heap[D]? = some (.deferred (some []))
theorem Loop2.put {l D : Nat} {r : Loop} {W : World} (h : Loop2 l D r W) (hn : ¬ D = l) (r' : Loop) : Loop2 l D r' (W.putObj l (.loop r')) :=
  ⟨World.putObj_heap_same (Array.getElem?_eq_some_iff.1 h.lr).1, (World.putObj_heap_other hn).trans h.dfr⟩
theorem Loop2.kept {l D : Nat} {r : Loop} {W W' : World} (h : Loop2 l D r W) (hk : KeepsOthers W W') : Loop2 l D r W' := ⟨hk.same _ _ h.lr rfl, hk.same _ _ h.dfr rfl⟩

theorem range_broken {F : Fence} {n : Nat} {P : Program} {g : Operand} {ps : Array Tmp} {assign body : Code} {Q : Exit → Act → World → Prop} {a : Act} {w : World}
    (hro : F.round = none) (h1 : 1 ≤ n) {gf : Nat} {lb : Array Value} (hg : a.eval g = .func (.func gf) #[] lb) (hFg : F.fn gf) (eg : ∀ args w, (callFunc gf args).run P w = .ok (.enter gf args) w)
    (xs : Nat → Int) (hps : ps.size = 1) (c : Nat) (I : Nat → World → Prop) (Ix : Unit → World → Prop) (hI : OwnFrom w.heap.size I) (hIx : OwnFrom w.heap.size Ix) (h0 : I 0 w) (act : Nat → Act)
    (hiter : ∀ (l : Nat) (J : Nat → World → Prop) (Jx : World → Prop) (W : World), (∀ k W1, J k W1 → I k W1) →
      (∀ k W1, J k W1 → YieldAt F (n - 1 - 1) P l #[.int .i64 (xs k)] W1 fun e W' => (e = .returned (.bool true) ∧ J (k + 1) W') ∨ (e = .returned (.bool false) ∧ Jx W')) → J 0 W →
      CallsIn F (n - 1) P gf (#[.func (.yield l) #[] #[]] ++ lb) W fun e W' => (∃ v, e = .returned v) ∧ Jx W')
    (hassign : ∀ (l k : Nat) (W : World) (K : Act → World → Prop), K (act k) W →
      assign.wpIn (F.inRound l) (n - 1 - 1) P (Exit.then K (fun _ _ _ => False)) { tmps := (ps.zip #[Value.int .i64 (xs k)]).foldl (fun t (p, v) => t.setIfInBounds p v) a.tmps, defers := [] } W)
    (hbody : ∀ (l k : Nat) (W : World), I k W → body.wpIn (F.inRound l) (n - 1 - 1) P (endsRound c I Ix k W) (act k) W)
    (hstop : ∀ (D : Nat) (W : World), w.heap.size ≤ D → Ix () W → W.heap[D]? = some (.deferred (some [])) → (Code.exit c).wpIn F n P Q { a with defers := { target := .collected D, args := #[] } :: a.defers } W) :
    (Code.rangeFunc g ps assign body).wpIn F n P Q a w := by
  refine wpIn_rangeFunc fun fn hfn => ?_
  rw [hro]
  let rc : LoopState → Option Code → Loop := fun st pe => { state := st, pending := pe, fn := fn, tmps := a.tmps, params := ps, assign := assign, body := body, defers := w.heap.size }
  have hne : ¬ w.heap.size = w.heap.size + 1 := by omega
  have L1 : Loop2 (w.heap.size + 1) w.heap.size (rc .ready none) ((w.alloc (.deferred (some []))).alloc (.loop (rc .ready none))) := by
    refine ⟨?_, (Below.heap_alloc _ _ _ (by simp)).trans (World.alloc_heap_new w _)⟩
    have := World.alloc_heap_new (w.alloc (.deferred (some []))) (.loop (rc .ready none))
    rwa [World.size_alloc] at this
  refine ⟨w.heap.size + 1, [{ target := .collected w.heap.size, args := #[] }], (w.alloc (.deferred (some []))).alloc (.loop (rc .ready none)), { target := .fn (.func gf) lb, args := #[.func (.yield (w.heap.size + 1)) #[] #[]] }, (w.alloc (.deferred (some []))).alloc (.loop (rc .ready none)), gf, #[.func (.yield (w.heap.size + 1)) #[] #[]] ++ lb, (w.alloc (.deferred (some []))).alloc (.loop (rc .ready none)),
    run_enterLoop_outer _ _ _ _ _, ?_, ?_, ?_, fun _ => h1, ?_⟩
  · simp only [resolve, hg]
    simp [go_sem]
  · intro f' hf'
    simp [Target.leads] at hf'
    subst hf'
    exact hFg
  · simp [invoke, go_sem, eg]
  · refine (hiter (w.heap.size + 1) (fun k W => I k W ∧ Loop2 (w.heap.size + 1) w.heap.size (rc .ready none) W) (fun W => Ix () W ∧ Loop2 (w.heap.size + 1) w.heap.size (rc .done (some (.exit c))) W) _ (fun k W1 h => h.1) ?_ ⟨hI.alloc _ (hI.alloc _ h0), L1⟩).mono ?_
    · -- one round
      rintro k W ⟨hi, L⟩
      have Lb := L.put hne { rc .ready none with state := .busy }
      refine ⟨fn, _, assign, body, run_yield (P := P) (args := #[Value.int .i64 (xs k)]) L.lr hps.symm, roundIn_of_wpIn hfn (hassign _ k W _ ⟨_, run_beginRound L.lr rfl, ?_⟩)⟩
      refine wpIn_mono (hbody _ k _ (hI.putObj _ hi (by omega) L.lr rfl)) ?_
      intro e a3 W3 hp
      cases e with
      | normal =>
        obtain ⟨hk, hi3⟩ := hp
        have L3 := Lb.kept hk
        exact ⟨_, _, run_endRound none L3.lr, .inl ⟨rfl, hI.putObj _ hi3 (by omega) L3.lr rfl, L3.put hne _⟩⟩
      | exit id =>
        obtain ⟨hid, hk, hi3⟩ := hp
        subst hid
        have L3 := Lb.kept hk
        exact ⟨_, _, run_endRound (some (.exit id)) L3.lr, .inr ⟨rfl, hIx.putObj _ hi3 (by omega) L3.lr rfl, L3.put hne _⟩⟩
      | ret => exact hp.elim
      | goto t => exact hp.elim
      | panic ch => exact hp.elim
      | outgrown => exact hp.elim
    · -- behind the iterator
      rintro e W ⟨⟨v, rfl⟩, hi, L⟩
      exact ⟨some (.exit c), _, run_endLoop (P := P) L.lr (by simp [rc]), hstop _ _ (Nat.le_refl _) (hIx.putObj _ hi (by omega) L.lr rfl) ((World.putObj_heap_other hne).trans L.dfr)⟩
end Go.Proofs.Ytjolkpfenloobaa
