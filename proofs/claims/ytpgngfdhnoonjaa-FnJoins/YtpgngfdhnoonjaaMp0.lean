/- A map of rows by their keys: what it tells of each key; looked up, stored, gone through, struck from. -/
import Derived.Test.YtpgngfdhnoonjaaMa0
import Derived.Maps.RangeWalk
import Derived.Maps.Views
namespace Go.Proofs.Ytpgngfdhnoonjaa.Tb
open Go.RowKit Wire Go.Maps
set_option linter.unusedVariables false
set_option linter.unusedSimpArgs false
def rowElem : Value → Option (DataW Rw × List MemPlace)
  | .agg cs => (match cs.toList with
    | [.int .i64 a, .int .i64 b, .int .i64 c, .bool g] => some (.held ⟨a, b, c, g⟩, [])
    | _ => none)
  | _ => none
theorem rowElem_mk (r : Rw) : rowElem (rwA r) = some (.held r, []) := rfl
theorem rowElem_inv {v : Value} {z : DataW Rw × List MemPlace} (h : rowElem v = some z) : ∃ r, v = rwA r ∧ z = (.held r, []) := by
  unfold rowElem at h
  split at h
  · rename_i cs
    split at h
    · rename_i a b c g he
      obtain ⟨l⟩ := cs
      simp at he
      subst he
      simp at h
      exact ⟨⟨a, b, c, g⟩, rfl, h.symm⟩
    · cases h
  · cases h
theorem mlaw : Keyed Try.prog 3 := int_keyed Try.underlying3
theorem mzero (w : World) : (zeroValue 37).run Try.prog w = .ok (rwA rw0) w := by kernel_rfl
def Wf (k : Int) : Prop := (Lit.int .i64 k).wf = true
theorem wf_of {k : Int} (h1 : -1000000000 ≤ k) (h2 : k ≤ 1000000000) : Wf k := by
  unfold Wf
  simp [Lit.wf, IntKind.min, IntKind.max, IntKind.signed, IntKind.bits]
  omega
def kl (k : Int) : Lit := .int .i64 k
theorem kl_inj {a b : Int} (h : kl a = kl b) : a = b := by unfold kl at h; cases h; rfl
theorem kl_key (k : Int) : WideAt.IsKeyLit (kl k) := trivial
theorem mkey {k : Int} (h : Wf k) : keyOf Try.prog 3 (.int .i64 k) = some (kl k) := keyOf_int_mk Try.underlying3 h
/-- a datum and what it tells -/
def Agr (D : DataW Rw) (f : Int → Option Rw) : Prop := ∀ k, Wf k → (Maps.has D (kl k) = (f k).isSome) ∧ ∀ z, D.atKey (kl k) z = (match f k with | some r => .held r | none => z)
def MapR (w : World) (b n : Nat) (f : Int → Option Rw) : Prop := ∃ D : DataW Rw, w.ownsMap Try.prog 3 rowElem b n D ∧ Agr D f
def upd (f : Int → Option Rw) (k : Int) (r : Rw) : Int → Option Rw := fun j => if j = k then some r else f j
def cut (f : Int → Option Rw) (k : Int) : Int → Option Rw := fun j => if j = k then none else f j
theorem agr_empty : Agr (.map []) (fun _ => none) := fun k _ => ⟨rfl, fun z => rfl⟩
theorem mapR_made (w : World) : MapR (w.alloc (.map #[] 0)) w.heap.size 0 (fun _ => none) := ⟨.map [], World.ownsMap_made _ _ _ _, agr_empty⟩
theorem MapR.mono {w : World} {b n m : Nat} {f : Int → Option Rw} (h : MapR w b n f) (hm : n ≤ m) : MapR w b m f := by
  obtain ⟨D, h1, h2⟩ := h
  exact ⟨D, h1.mono hm, h2⟩
theorem MapR.lt {w : World} {b n : Nat} {f : Int → Option Rw} (h : MapR w b n f) : b < w.heap.size := by
  obtain ⟨D, h1, h2⟩ := h
  exact h1.lt
theorem MapR.block {w w1 : World} {b n : Nat} {f : Int → Option Rw} (h : MapR w b n f) (hb : w1.heap[b]? = w.heap[b]?) : MapR w1 b n f := by
  obtain ⟨D, ⟨es, clock, h1, h2⟩, h3⟩ := h
  exact ⟨D, ⟨es, clock, hb.trans h1, h2⟩, h3⟩
theorem MapR.keep {w w1 : World} {b n : Nat} {f : Int → Option Rw} (h : MapR w b n f) (hb : Below w.heap.size w w1) : MapR w1 b n f := h.block (hb.block b h.lt)
theorem MapR.congr {w : World} {b n : Nat} {f g : Int → Option Rw} (h : MapR w b n f) (he : ∀ k, Wf k → f k = g k) : MapR w b n g := by
  obtain ⟨D, h1, h2⟩ := h
  refine ⟨D, h1, fun k hk => ?_⟩
  rw [← he k hk]
  exact h2 k hk
theorem agr_put {D : DataW Rw} {f : Int → Option Rw} (h : Agr D f) (hD : IsMap D) {k : Int} (r : Rw) : Agr (D.put (kl k) (.held r)) (upd f k r) := by
  intro j hj
  unfold upd
  by_cases e : j = k
  · subst e
    rw [if_pos rfl]
    exact ⟨has_put_same hD (kl_key _) _, fun z => atKey_put_same hD (kl_key _) _ _⟩
  · have hne : kl j ≠ kl k := fun h => e (kl_inj h)
    rw [if_neg e]
    exact ⟨(has_put_other hne _).trans (h j hj).1, fun z => (atKey_put_other hne _ _).trans ((h j hj).2 z)⟩
theorem agr_del {D : DataW Rw} {f : Int → Option Rw} (h : Agr D f) {k : Int} : Agr (D.del (kl k)) (cut f k) := by
  intro j hj
  unfold cut
  by_cases e : j = k
  · subst e
    rw [if_pos rfl]
    exact ⟨has_del_same, fun z => atKey_del_same _⟩
  · have hne : kl j ≠ kl k := fun h => e (kl_inj h)
    rw [if_neg e]
    exact ⟨(has_del_other hne).trans (h j hj).1, fun z => (atKey_del_other hne _).trans ((h j hj).2 z)⟩
/-- looked up -/
theorem MapR.look {w : World} {b n : Nat} {f : Int → Option Rw} (h : MapR w b n f) {k : Int} (hk : Wf k) : (Instr.lookup 71 (.map (some b)) (.int .i64 k) false).run Try.prog w = .ok (rwA ((f k).getD rw0)) w := by
  obtain ⟨D, h1, h2⟩ := h
  obtain ⟨v, ps, hr, hv⟩ := h1.lookup mlaw Try.underlying71 (mzero w) (rowElem_mk rw0) (mkey hk)
  obtain ⟨r, rfl, hz⟩ := rowElem_inv hv
  rw [(h2 k hk).2] at hz
  rw [hr]
  cases e : f k with
  | none =>
    rw [e] at hz
    simp only [Prod.mk.injEq, DataW.held.injEq] at hz
    rw [← hz.1]
    rfl
  | some q =>
    rw [e] at hz
    simp only [Prod.mk.injEq, DataW.held.injEq] at hz
    rw [← hz.1]
    rfl
theorem MapR.lookOk {w : World} {b n : Nat} {f : Int → Option Rw} (h : MapR w b n f) {k : Int} (hk : Wf k) : (Instr.lookup 71 (.map (some b)) (.int .i64 k) true).run Try.prog w = .ok (.tuple #[rwA ((f k).getD rw0), .bool (f k).isSome]) w := by
  obtain ⟨D, h1, h2⟩ := h
  obtain ⟨v, ps, hr, hv⟩ := h1.look_ok mlaw Try.underlying71 (mzero w) (rowElem_mk rw0) (mkey hk)
  obtain ⟨r, rfl, hz⟩ := rowElem_inv hv
  rw [(h2 k hk).2] at hz
  rw [hr, (h2 k hk).1]
  cases e : f k with
  | none =>
    rw [e] at hz
    simp only [Prod.mk.injEq, DataW.held.injEq] at hz
    rw [← hz.1]
    rfl
  | some q =>
    rw [e] at hz
    simp only [Prod.mk.injEq, DataW.held.injEq] at hz
    rw [← hz.1]
    rfl
/-- how many it holds -/
theorem size_agr {D : DataW Rw} {f : Int → Option Rw} {L : List Rw} (hT : Tidy D) (hk : ∀ p ∈ (match D with | .map es => es | _ => []), ∃ k, p.1 = kl k ∧ Wf k) (h : Agr D f) (hL : Inc L) (hf : ∀ k, Wf k → f k = lk L k) (hw : ∀ r ∈ L, Wf r.x0) : Maps.size D = L.length := by
  obtain ⟨es, rfl, hp⟩ := hT
  show es.length = L.length
  have hn1 : (es.map (·.1)).Nodup := by
    refine List.pairwise_map.2 (hp.imp (fun h => h))
  have hn2 : (L.map (fun r => kl r.x0)).Nodup := by
    refine List.pairwise_map.2 (hL.imp (fun h e => ?_))
    have := kl_inj e
    omega
  have hmem : ∀ l, l ∈ es.map (·.1) ↔ l ∈ L.map (fun r => kl r.x0) := by
    intro l
    constructor
    · intro hl
      obtain ⟨p, hp1, rfl⟩ := List.mem_map.1 hl
      obtain ⟨k, hk1, hk2⟩ := hk p hp1
      have hh : Maps.has (DataW.map es) (kl k) = true := List.any_eq_true.2 ⟨p, hp1, by rw [hk1]; exact WideAt.sameKey_self (kl_key k)⟩
      rw [(h k hk2).1, hf k hk2] at hh
      cases e : lk L k with
      | none => rw [e] at hh; cases hh
      | some r =>
        obtain ⟨h1, h2⟩ := lk_some e
        rw [hk1]
        exact List.mem_map.2 ⟨r, h1, by rw [h2]⟩
    · intro hl
      obtain ⟨r, hr, rfl⟩ := List.mem_map.1 hl
      have hh : Maps.has (DataW.map es) (kl r.x0) = true := by rw [(h r.x0 (hw r hr)).1, hf _ (hw r hr), lk_mem hL hr]; rfl
      obtain ⟨p, hp1, hp2⟩ := List.any_eq_true.1 hh
      exact List.mem_map.2 ⟨p, hp1, WideAt.sameKey_eq hp2⟩
  have := (List.perm_ext_iff_of_nodup hn1 hn2).2 hmem
  simpa using this.length_eq
theorem own_keys {w : World} {b n : Nat} {D : DataW Rw} (h : w.ownsMap Try.prog 3 rowElem b n D) : ∀ p ∈ (match D with | .map es => es | _ => []), ∃ k, p.1 = kl k ∧ Wf k := by
  obtain ⟨es, clock, _, F, _, rfl⟩ := h
  intro p hp
  have hp' := (WideShapes.sorted_perm _).mem_iff.1 hp
  obtain ⟨v, hv⟩ := Maps.fit_keys F p hp'
  obtain ⟨x, _, hx, hw⟩ := Maps.keyOf_int_inv Try.underlying3 hv
  exact ⟨x, hx, hw⟩
theorem MapR.len {w : World} {b n : Nat} {f : Int → Option Rw} (h : MapR w b n f) {L : List Rw} (hL : Inc L) (hf : ∀ k, Wf k → f k = lk L k) (hw : ∀ r ∈ L, Wf r.x0) (ty : TypeId) : (Builtin.len_ #[71] ty #[.map (some b)]).run Try.prog w = .ok (.int .i64 (L.length : Int)) w := by
  obtain ⟨D, h1, h2⟩ := h
  have := h1.len Try.underlying71 ty
  rw [size_agr (h1.tidy mlaw) (own_keys h1) h2 hL hf hw] at this
  exact this
/-- stored -/
theorem MapR.store {w : World} {b n : Nat} {f : Int → Option Rw} (h : MapR w b n f) {k : Int} (hk : Wf k) (hn : n < maxLen) (r : Rw) : ∃ w', (Instr.mapUpdate 71 (.map (some b)) (.int .i64 k) (rwA r)).run Try.prog w = .ok () w' ∧ MapR w' b (n + 1) (upd f k r) ∧ w.grownBy w' (some b) ∧ w'.heap.size = w.heap.size := by
  obtain ⟨D, h1, h2⟩ := h
  obtain ⟨w', hr, h3, h4⟩ := h1.store mlaw Try.underlying71 hn (mkey hk) (rowElem_mk r)
  refine ⟨w', hr, ⟨_, h3, agr_put h2 h1.isMap r⟩, h4.grown, ?_⟩
  obtain ⟨es, clock, es', clock', hb, rfl⟩ := h4
  simp [ChangeMaps.setBlock]
theorem wpList_store_R {w : World} {ops : Array Oper} {rest : List Oper} {o : Oper} {a : Act} {Q : Exit → Act → World → Prop} (hg : o.guard = none) (m x v : Operand) (hop : o.op = Op.mapUpdate 71 m x v)
    (b n : Nat) (f : Int → Option Rw) (hm : a.eval m = .map (some b)) (h : MapR w b n f) (hn : n < maxLen) (k : Int) (r : Rw) (hx : a.eval x = .int .i64 k) (hv : a.eval v = rwA r) (hk : Wf k)
    (hK : ∀ w', MapR w' b (n + 1) (upd f k r) → w.grownBy w' (some b) → w'.heap.size = w.heap.size → wpList Try.prog ops Q rest (a.put o.dst undef) w') : wpList Try.prog ops Q (o :: rest) a w := by
  refine wpList_plain hg fun K' hK' => ?_
  obtain ⟨w', hrun, r1, r2, r3⟩ := h.store hk hn r
  unfold Oper.wp
  simp [execOp, hop, hm, hx, hv, hrun, Result.andThen]
  exact hK' _ _ (hK w' r1 r2 r3)
/-- a range under way -/
def RangeR (w : World) (b r n : Nat) (f : Int → Option Rw) (left : Int → Bool) (cnt : Nat) : Prop := ∃ (D : DataW Rw) (lf : Lit → Bool), w.ranges Try.prog 3 rowElem b r n D lf cnt ∧ Agr D f ∧ ∀ k, Wf k → lf (kl k) = left k
theorem RangeR.map {w : World} {b r n : Nat} {f : Int → Option Rw} {left : Int → Bool} {cnt : Nat} (h : RangeR w b r n f left cnt) : MapR w b n f := by
  obtain ⟨D, lf, h1, h2, _⟩ := h
  exact ⟨D, h1.owns, h2⟩
theorem RangeR.left_eq {w : World} {b r n : Nat} {f : Int → Option Rw} {left : Int → Bool} {cnt : Nat} (h : RangeR w b r n f left cnt) : w.rangeLeft b r = cnt := by
  obtain ⟨D, lf, h1, h2, _⟩ := h
  exact h1.left_eq
theorem RangeR.ne {w : World} {b r n : Nat} {f : Int → Option Rw} {left : Int → Bool} {cnt : Nat} (h : RangeR w b r n f left cnt) : r ≠ b := by
  obtain ⟨D, lf, h1, h2, _⟩ := h
  exact h1.ne
theorem RangeR.lt {w : World} {b r n : Nat} {f : Int → Option Rw} {left : Int → Bool} {cnt : Nat} (h : RangeR w b r n f left cnt) : r < w.heap.size := by
  obtain ⟨D, lf, h1, h2, _⟩ := h
  exact h1.lt
theorem RangeR.kept {w w' : World} {b r n : Nat} {f : Int → Option Rw} {left : Int → Bool} {cnt : Nat} {row : Option Nat} (h : RangeR w b r n f left cnt) (hg : w.grownBy w' row) (hb : some b ≠ row) (hr : some r ≠ row) : RangeR w' b r n f left cnt := by
  obtain ⟨D, lf, h1, h2, h3⟩ := h
  exact ⟨D, lf, h1.kept hg hb hr, h2, h3⟩
theorem grown_below {w w' : World} (h : Below w.heap.size w w') : w.grownBy w' none := ⟨h.os, h.tape, h.output, h.size, fun i hi _ => h.block i hi⟩
theorem RangeR.keep {w w' : World} {b r n : Nat} {f : Int → Option Rw} {left : Int → Bool} {cnt : Nat} (h : RangeR w b r n f left cnt) (hg : Below w.heap.size w w') : RangeR w' b r n f left cnt := h.kept (grown_below hg) (by simp) (by simp)
theorem wpList_range_R {w : World} {ops : Array Oper} {rest : List Oper} {o : Oper} {a : Act} {Q : Exit → Act → World → Prop} (hg : o.guard = none) (m : Operand) (hop : o.op = Op.range 71 m) (b n : Nat) (f : Int → Option Rw)
    (hm : a.eval m = .map (some b)) (h : MapR w b n f)
    (hK : ∀ w' cnt, RangeR w' b w.heap.size n f (fun k => (f k).isSome) cnt → w.grownBy w' none → w'.heap.size = w.heap.size + 1 → wpList Try.prog ops Q rest (a.put o.dst (.pointer (some ⟨w.heap.size, 0, none⟩))) w') :
    wpList Try.prog ops Q (o :: rest) a w := by
  obtain ⟨D, h1, h2⟩ := h
  exact wpList_range_own w hg m _ hop _ _ mlaw Try.underlying71 rowElem b n D hm h1 (fun w' hr hg' hs => hK w' _ ⟨D, _, hr, h2, fun k hk => (h2 k hk).1⟩ hg' hs)
theorem wpList_next_R {w : World} {ops : Array Oper} {rest : List Oper} {o : Oper} {a : Act} {Q : Exit → Act → World → Prop} (hg : o.guard = none) (it : Operand) (hop : o.op = Op.next it false) (b r n : Nat) (f : Int → Option Rw) (left : Int → Bool) (cnt : Nat)
    (hit : a.eval it = .pointer (some ⟨r, 0, none⟩)) (h : RangeR w b r n f left cnt)
    (hDone : (∀ k, Wf k → left k = false) → wpList Try.prog ops Q rest (a.put o.dst (.tuple #[.bool false])) w)
    (hMore : ∀ (k : Int) (q : Rw) (w' : World) (cnt' : Nat), Wf k → left k = true → f k = some q → RangeR w' b r n f (fun j => left j && !decide (j = k)) cnt' → cnt' < cnt → w.grownBy w' (some r) → w'.heap.size = w.heap.size →
      (Instr.entry (.pointer (some ⟨r, 0, none⟩))).run Try.prog w' = .ok (.tuple #[.int .i64 k, rwA q]) w' → wpList Try.prog ops Q rest (a.put o.dst (.tuple #[.bool true, .int .i64 k, rwA q])) w') :
    wpList Try.prog ops Q (o :: rest) a w := by
  obtain ⟨D, lf, h1, h2, h3⟩ := h
  refine wpList_next_ranges w hg it hop _ mlaw rowElem (Value.int .i64) rwA (fun key kl hkey => by obtain ⟨x, rfl, _⟩ := Maps.keyOf_int_inv Try.underlying3 hkey; exact ⟨x, rfl⟩) (fun v y hv => by obtain ⟨q, rfl, _⟩ := rowElem_inv hv; exact ⟨q, rfl⟩) b r n D lf cnt hit h1 ?_ ?_
  · intro _ hl
    exact hDone (fun k hk => by rw [← h3 k hk]; exact hl _)
  · intro x q l y w' cnt' hkey hlk hv hat hrg hlt hgr hsz hen
    obtain ⟨x', ex, rfl, hwx⟩ := Maps.keyOf_int_inv Try.underlying3 hkey
    cases ex
    obtain ⟨q', eq, rfl⟩ := rowElem_inv hv
    have hqq : q = q' := by
      have : rowElem (rwA q) = rowElem (rwA q') := by rw [eq]
      rw [rowElem_mk, rowElem_mk] at this
      simpa using this
    subst hqq
    have hfx : f x = some q := by
      have h5 := (h2 x hwx).2
      have h6 : ∀ zd, D.atKey (kl x) zd = .held q := hat
      cases e : f x with
      | none =>
        have := (h5 (.held rw0)).symm.trans (h6 (.held rw0))
        rw [e] at this
        have h7 := (h5 .nil).symm.trans (h6 .nil)
        rw [e] at h7
        cases h7
      | some q2 =>
        have := (h5 .nil).symm.trans (h6 .nil)
        rw [e] at this
        simp only [DataW.held.injEq] at this
        rw [this]
    refine hMore x q w' cnt' hwx ((h3 x hwx).symm.trans hlk) hfx ⟨D, _, hrg, h2, fun j hj => ?_⟩ hlt hgr hsz hen
    show (lf (kl j) && !(kl j).sameKey (kl x)) = _
    rw [h3 j hj]
    by_cases e : j = x
    · subst e
      rw [WideAt.sameKey_self (kl_key j)]
      simp
    · rw [sameKey_ne (fun h => e (kl_inj h))]
      simp [e]
theorem wpList_delete_R {w : World} {ops : Array Oper} {rest : List Oper} {o : Oper} {a : Act} {Q : Exit → Act → World → Prop} (hg : o.guard = none) (m x : Operand) (hop : o.op = Op.call { callee := Callee.builtin Builtin.delete, args := #[m, x], argTypes := #[71, 3] })
    (b r n : Nat) (f : Int → Option Rw) (left : Int → Bool) (cnt : Nat) (hm : a.eval m = .map (some b)) (h : RangeR w b r n f left cnt) (k : Int) (hx : a.eval x = .int .i64 k) (hk : Wf k) (hl : left k = false)
    (hK : ∀ w' cnt', RangeR w' b r n (cut f k) left cnt' → cnt' ≤ cnt → w.grownBy w' (some b) → w'.heap.size = w.heap.size → wpList Try.prog ops Q rest (a.put o.dst (.tuple #[])) w') :
    wpList Try.prog ops Q (o :: rest) a w := by
  obtain ⟨D, lf, h1, h2, h3⟩ := h
  refine wpList_delete_ranges w hg m x _ _ hop _ mlaw Try.underlying71 rowElem b r n D lf cnt hm h1 _ _ hx (mkey hk) ?_
  intro w' cnt' hrg hle hturn
  refine hK w' cnt' ⟨_, _, hrg, agr_del h2, fun j hj => ?_⟩ hle hturn.grown ?_
  · show (lf (kl j) && !(kl j).sameKey (kl k)) = _
    rw [h3 j hj]
    by_cases e : j = k
    · subst e; rw [hl]; rfl
    · rw [sameKey_ne (fun h => e (kl_inj h))]; simp
  · obtain ⟨es, clock, es', clock', hb, rfl⟩ := hturn
    simp [ChangeMaps.setBlock]
end Go.Proofs.Ytpgngfdhnoonjaa.Tb
