/- Rows appended to rows of one's own, from whatever source; a row laid into a table, by the specification. -/
import Derived.Test.YtpgngfdhnoonjaaMp5
import Derived.Laws.AppendOwn
import Derived.Laws.AppendOwnNone
import Derived.ArgAppend
import Derived.Deep.RegionHeld
import Derived.Deep.DeepCutAuto
namespace Go.Proofs.Ytpgngfdhnoonjaa.Tb
open Go.RowKit Wire Go.Deep
set_option linter.unusedVariables false
set_option linter.unusedSimpArgs false
/-- a list of rows of one's own -/
def OwR (B : Nat) (w : World) (v : Value) (C : List Rw) : Prop := w.ownsRow B 37 4 v C.length (flatR C)
theorem rows_src {w : World} {ad : Addr} {rs : List Rw} (h : LsAt tyRw w (some ad) rs) : ∀ j u, (flatR rs)[j]? = some u → w.cell? (ad.add j) = some u := by
  intro j u hj
  have hjl := (List.getElem?_eq_some_iff.1 hj).1
  rw [flatR_len] at hjl
  obtain ⟨bk, off, he⟩ := lsAt_form h (by show 0 < rs.length; omega)
  cases he
  have hi : j / 4 < rs.length := by omega
  obtain ⟨_, hc⟩ := rwAt_cell h hi
  have hjj : j = j / 4 * 4 + j % 4 := by omega
  rw [hjj, flatR_get hi (Nat.mod_lt _ (by omega))] at hj
  have := hc (j % 4) u hj
  rw [add_none', hjj]
  rw [show off + (j / 4 * 4 + j % 4) = off + j / 4 * 4 + j % 4 from by omega]
  exact this
theorem lsAt_none {w : World} {rs : List Rw} (h : LsAt tyRw w none rs) : rs = [] := by
  rcases h with h | ⟨bk, off, he, _⟩
  · exact h
  · cases he
theorem lsAt_e {w : World} {a : Option Addr} {rs : List Rw} (h : rs = []) : LsAt tyRw w a rs := .inl h
theorem lsAt_take {w : World} {a : Option Addr} {ms : List Rw} (h : LsAt tyRw w a ms) (k : Nat) : LsAt tyRw w a (ms.take k) := by
  rcases h with rfl | ⟨bk, off, ha, hl, hc⟩
  · exact .inl (by simp)
  · refine .inr ⟨bk, off, ha, hl, fun i hi => ?_⟩
    have hi2 : i < (ms.take k).length := hi
    rw [List.length_take] at hi2
    obtain ⟨ci, h1, h2⟩ := hc i (by show i < ms.length; omega)
    refine ⟨ci, h1, ?_⟩
    have h3 : ci = rwV (ms.getD i rw0) := h2
    have e : (ms.take k).getD i rw0 = ms.getD i rw0 := by rw [List.getD_eq_getElem?_getD, List.getElem?_take_of_lt (by omega), List.getD_eq_getElem?_getD]
    show ci = rwV ((ms.take k).getD i rw0)
    rw [e]
    exact h3
theorem lsAt_drop {w : World} {ad : Addr} {ms : List Rw} (h : LsAt tyRw w (some ad) ms) (k : Nat) : LsAt tyRw w (some (ad.add (k * 4))) (ms.drop k) := by
  rcases h with rfl | ⟨bk, off, ha, hl, hc⟩
  · exact .inl (by simp)
  · cases ha
    refine .inr ⟨bk, off + k * 4, add_none' _ _ _ ▸ rfl, hl, fun i hi => ?_⟩
    have hi2 : i < (ms.drop k).length := hi
    rw [List.length_drop] at hi2
    obtain ⟨ci, h1, h2⟩ := hc (k + i) (by show k + i < ms.length; omega)
    have h3 : ci = rwV (ms.getD (k + i) rw0) := h2
    refine ⟨ci, ?_, ?_⟩
    · have e : off + k * 4 + i * 4 = off + (k + i) * 4 := by omega
      show CellsAt w bk (off + k * 4 + i * 4) ci
      rw [e]
      exact h1
    · have e : (ms.drop k).getD i rw0 = ms.getD (k + i) rw0 := by rw [List.getD_eq_getElem?_getD, List.getElem?_drop, List.getD_eq_getElem?_getD]
      show ci = rwV ((ms.drop k).getD i rw0)
      rw [e]
      exact h3
theorem lsAt_grown {w w' : World} {a : Option Addr} {ms : List Rw} {row : Option Nat} (h : LsAt tyRw w a ms) (hg : w.grownBy w' row) (hne : ∀ bk off, a = some ⟨bk, off, none⟩ → some bk ≠ row) : LsAt tyRw w' a ms := by
  rcases h with h | ⟨bk, off, ha, hl, hc⟩
  · exact .inl h
  · refine .inr ⟨bk, off, ha, Nat.lt_of_lt_of_le hl hg.size, fun i hi => ?_⟩
    obtain ⟨ci, h1, h2⟩ := hc i hi
    exact ⟨ci, h1.block (hg.block bk hl (hne bk off ha)), h2⟩
theorem run_app {w : World} (B : Nat) (ty : TypeId) (v : Value) (C : List Rw) (hown : OwR B w v C) (ar : Option Addr) (m cr : Nat) (rs : List Rw) (hm : rs.length = m) (hr : LsAt tyRw w ar rs) (h0 : ar = none → cr = 0) (hC : C.length ≤ 1048576) (hR : m ≤ 1048576) (hB : B ≤ w.heap.size) :
    ∃ v' w', (Builtin.append_ #[26, 26] ty #[v, .slice ar m cr]).run Try.prog w = .ok v' w' ∧ OwR B w' v' (C ++ rs) ∧ w.grownBy w' v.ownBlock := by
  subst hm
  obtain ⟨i0, hi, hz0, hz1, hz2⟩ := info_parts info_rw
  cases ar with
  | none =>
    have he := lsAt_none hr
    have hc := h0 rfl
    subst he hc
    refine ⟨v, w, run_append_owned_none (P := Try.prog) (w := w) B 26 ty 37 i0 4 Try.underlying26 hi v C.length (flatR C) hown, by rw [List.append_nil]; exact hown, ⟨rfl, rfl, rfl, Nat.le_refl _, fun _ _ _ => rfl⟩⟩
  | some ad =>
    obtain ⟨v', w', h1, h2, h3, _⟩ := run_append_own (P := Try.prog) w B 26 ty 37 i0 _ 4 32 Try.underlying26 hi hz0 hz1 hz2 rfl (by decide) v C.length (flatR C) hown ad rs.length cr (flatR rs) (flatR_len rs) (rows_src hr) (flatR_one rs) (by unfold maxLen; omega) (by omega) hB
    refine ⟨v', w', h1, ?_, h3⟩
    unfold OwR
    rw [List.length_append, flatR_app]
    exact h2
theorem wp_app {w : World} {o : Oper} {a : Act} {K : Act → World → Prop} {Q : Exit → Act → World → Prop} (s x : Operand) (ho : o.op = .call { callee := .builtin .append, args := #[s, x], argTypes := #[26, 26] })
    (B : Nat) (v : Value) (C : List Rw) (hs : a.eval s = v) (hown : OwR B w v C) (ar : Option Addr) (m cr : Nat) (rs : List Rw) (hx : a.eval x = .slice ar m cr) (hm : rs.length = m) (hr : LsAt tyRw w ar rs) (h0 : ar = none → cr = 0) (hC : C.length ≤ 1048576) (hR : m ≤ 1048576) (hB : B ≤ w.heap.size)
    (h : ∀ v' w', OwR B w' v' (C ++ rs) → w.grownBy w' v.ownBlock → K (a.put o.dst v') w') : o.wp Try.prog a w K Q := by
  obtain ⟨v', w', hr, h2, h3⟩ := run_app B o.type v C hown ar m cr rs hm hr h0 hC hR hB
  unfold Oper.wp execOp
  simp only [ho, resolve, invoke, builtin, Sem.run_bind, Sem.run_pure, Result.andThen_ok, List.map_toArray, List.map_cons, List.map_nil, hs, hx, hr]
  exact h v' w' h2 h3
theorem wpList_app {w : World} {ops : Array Oper} {rest : List Oper} {o : Oper} {a : Act} {Q : Exit → Act → World → Prop} (hg : o.guard = none) (s x : Operand) (ho : o.op = .call { callee := .builtin .append, args := #[s, x], argTypes := #[26, 26] })
    (B : Nat) (v : Value) (C : List Rw) (hs : a.eval s = v) (hown : OwR B w v C) (ar : Option Addr) (m cr : Nat) (rs : List Rw) (hx : a.eval x = .slice ar m cr) (hm : rs.length = m) (hr : LsAt tyRw w ar rs) (h0 : ar = none → cr = 0) (hC : C.length ≤ 1048576) (hR : m ≤ 1048576) (hB : B ≤ w.heap.size)
    (h : ∀ v' w', OwR B w' v' (C ++ rs) → w.grownBy w' v.ownBlock → wpList Try.prog ops Q rest (a.put o.dst v') w') : wpList Try.prog ops Q (o :: rest) a w := by
  refine wpList_plain hg fun K' hK' => ?_
  exact wp_app s x ho B v C hs hown ar m cr rs hx hm hr h0 hC hR hB (fun v' w' h1 h2 => hK' _ _ (h v' w' h1 h2))
theorem own_lit4 (w : World) {B : Nat} (hB : B ≤ w.heap.size) : OwR B (w.alloc (.cells #[] 37)) (.slice (some ⟨w.heap.size, 0, none⟩) 0 0) [] :=
  World.ownsRow_lit w #[] 0 hB (Nat.zero_le _) rfl
theorem row_at_new (w : World) (r : Rw) : LsAt tyRw (w.alloc (.cells #[.int .i64 r.x0, .int .i64 r.x1, .int .i64 r.x2, .bool r.b] 37)) (some ⟨w.heap.size, 0, none⟩) [r] := by
  refine .inr ⟨w.heap.size, 0, rfl, by simp, fun i hi => ?_⟩
  have : i = 0 := by
    have h2 : i < [r].length := hi
    simp at h2
    exact h2
  subst this
  refine ⟨rwV r, fun j v hj => ?_, rfl⟩
  have := cell_row_new w r 37 j v hj
  rw [add_none'] at this
  simpa using this
theorem OwR.mono {B B' : Nat} {w : World} {v : Value} {C : List Rw} (h : OwR B w v C) (hb : B' ≤ B) : OwR B' w v C := by
  obtain ⟨h1, h2⟩ := h
  refine ⟨h1, ?_⟩
  rcases h2 with h2 | ⟨g, cap, cur, e, h3, h4⟩
  · exact .inl h2
  · exact .inr ⟨g, cap, cur, e, Nat.le_trans hb h3, h4⟩
theorem OwR.alloc {B : Nat} {w : World} {v : Value} {C : List Rw} (h : OwR B w v C) (o : Obj) : OwR B (w.alloc o) v C := World.ownsRow.alloc h o
theorem OwR.keep {B : Nat} {w w' : World} {v : Value} {C : List Rw} (h : OwR B w v C) (hb : Below w.heap.size w w') : OwR B w' v C := by
  refine World.ownsRow.kept (row := none) h ⟨hb.os, hb.tape, hb.output, hb.size, fun k hk _ => hb.block k hk⟩ ?_
  cases e : v.ownBlock
  · exact .inl rfl
  · exact .inr (by simp)
theorem OwR.lo {B : Nat} {w : World} {v : Value} {C : List Rw} (h : OwR B w v C) : ∀ k, v.ownBlock = some k → B ≤ k := fun k hk => (World.ownsRow.lt h k hk).1
theorem OwR.form {B : Nat} {w : World} {v : Value} {C : List Rw} (h : OwR B w v C) (hn : 0 < C.length) : ∃ g c, v = .slice (some ⟨g, 0, none⟩) C.length c := Joins.ownsRow_form h hn
/-- what is owned from a world on, told as the laws want it -/
theorem OwR.out {w w' : World} {v : Value} {C : List Rw} (h : OwR w.heap.size w' v C) (hb : Below w.heap.size w w') (hl : C.length ≤ 1048576) : ∃ a c, v = .slice a C.length c ∧ OwnEs tyRw 37 w.heap.size w'.heap.size w' a C.length C ∧ (a = none → c = 0) ∧ C.length ≤ c := by
  rcases Joins.ownsRow_forms h with ⟨h1, h2⟩ | ⟨g, c, rfl⟩
  · refine ⟨none, 0, by rw [h1, h2], ⟨rfl, hl, .inl (List.length_eq_zero_iff.1 h2)⟩, fun _ => rfl, by omega⟩
  · have := owns_cells h
    exact ⟨_, c, rfl, (rb_of_own h rfl hb).own hl, fun hh => (by cases hh), this.2.1⟩
theorem grown_bel' {n : Nat} {w0 w w1 : World} {r : Option Nat} (h : Below n w0 w) (hg : w.grownBy w1 r) (hn : n ≤ w.heap.size) (hr : ∀ k, r = some k → n ≤ k) : Below n w0 w1 := h.grown hg hn hr
set_option maxRecDepth 100000 in
set_option maxHeartbeats 12800000 in
theorem lLay_any (a : Option Addr) (cap n : Nat) (ms : List Rw) (x0 x1 x2 : Int) (g : Bool) (w : World) (hn : ms.length = n) (hm : n ≤ 1000000) (hc : n ≤ cap) (h0 : a = none → cap = 0) (hr : LsAt tyRw w a ms) :
    Calls Try.prog 75 #[.slice a n cap, .agg #[.int .i64 x0, .int .i64 x1, .int .i64 x2, .bool g]] w fun e w' => ∃ v, e = .returned v ∧ OwR w.heap.size w' v (putL ms ⟨x0, x1, x2, g⟩) ∧ Below w.heap.size w w' := by
  have HR : Hid (LsAt tyRw w a ms) := hr
  have HNN : Hid (ms.length = n) := hn
  have H0 : Hid (a = none → cap = 0) := h0
  have K0 : Hid (Wire.Bk (w.alloc (.cells #[.int .i64 x0, .int .i64 x1, .int .i64 x2, .bool g] 37)) w.heap.size #[.int .i64 x0, .int .i64 x1, .int .i64 x2, .bool g] 37) := Wire.Bk.new _ _ _
  have CA := lAt_any a cap n ms x0 _ hn (by unfold maxLen; omega) (hr.keep (belA w (.cells #[.int .i64 x0, .int .i64 x1, .int .i64 x2, .bool g] 37)))
  have HP : Hid (putL ms ⟨x0, x1, x2, g⟩ = ms.take (atK ms x0) ++ (⟨x0, x1, x2, g⟩ : Rw) :: ms.drop (if hasK ms x0 = true then atK ms x0 + 1 else atK ms x0)) := rfl
  have hkn : atK ms x0 ≤ n := by rw [← hn]; exact atK_le ms x0
  have HHL : Hid (hasK ms x0 = true → atK ms x0 + 1 ≤ n) := fun h => by rw [← hn]; exact (of_decide_eq_true h).1
  generalize putL ms ⟨x0, x1, x2, g⟩ = PL at *
  generalize hasK ms x0 = hk at *
  generalize atK ms x0 = k0 at *
  have HK0 : Hid (k0 ≤ 1000000) := by unfold Hid; omega
  have HTL : Hid ((ms.take k0).length = k0) := by rw [Hid, List.length_take]; omega
  have hkc : k0 ≤ cap := by omega
  clear hr hn h0
  go_enter Try.func75, Try.ntmps75
  go_wp2_with fail
  refine CA.mono ?_
  rintro e w0 ⟨rfl, HW⟩
  have HB0 : Hid (Below w.heap.size w w0) := belt (belA _ _) HW
  have HKR : Hid (Wire.Bk w0 w.heap.size #[.int .i64 x0, .int .i64 x1, .int .i64 x2, .bool g] 37) := K0.out.keep HW
  have HRT : Hid (LsAt tyRw w0 a (ms.take k0)) := lsAt_take (HR.out.keep HB0.out) k0
  clear CA HW K0
  go_upto_region 2 with (fail)
  go_cut [7] (fun v7 wc => ∃ v, v7 = v ∧ Hid (OwR w0.heap.size wc v (ms.take k0 ++ [(⟨x0, x1, x2, g⟩ : Rw)])) ∧ Below w0.heap.size w0 wc)
  case first =>
    refine wp_region_held_drew (S := fun w' => Below w0.heap.size w0 w') (by kernel_rfl) ((Below.refl _ _).drew) (fun hs0 => ?_)
    refine wpAnyH_take (i := 1) (oi := _) (v := _) rfl (by kernel_rfl) (by kernel_rfl) (by kernel_rfl) (fun _ _ _ h => h) (.inl ⟨by rfl, by intro w hSw; go_simp; with_reducible rfl⟩) hs0 ?_
    simp only [Act.put, List.setIfInBounds_toArray, List.set_cons_zero, List.set_cons_succ]
    refine wpAnyH_take (i := 2) (oi := _) (v := _) rfl (by kernel_rfl) (by kernel_rfl) (by kernel_rfl) (fun _ _ _ h => h) (.inl ⟨by rfl, by intro w hSw; go_simp; with_reducible rfl⟩) hs0 ?_
    simp only [Act.put, List.setIfInBounds_toArray, List.set_cons_zero, List.set_cons_succ]
    refine wpAnyH_take (i := 3) (oi := _) (v := _) rfl (by kernel_rfl) (by kernel_rfl) (by kernel_rfl) (fun _ _ _ h => h) (.inl ⟨by rfl, by intro w hSw; go_simp; first | done | rfl⟩) hs0 ?_
    simp only [Act.put, List.setIfInBounds_toArray, List.set_cons_zero, List.set_cons_succ]
    refine wpAnyH_take (i := 5) (oi := _) (v := _) rfl (by kernel_rfl) (by kernel_rfl) (by kernel_rfl) (fun _ _ _ h => h) (yieldsIf_bk rfl rfl rfl (fun w' h => HKR.out.keep h) Try.underlying37 rfl (by kernel_rfl)) hs0 ?_
    simp only [Act.put, List.setIfInBounds_toArray, List.set_cons_zero, List.set_cons_succ]
    generalize w0.drew = w00 at *
    refine wpAnyH_ready (rs := [0, 6]) (by kernel_rfl) (by simp) ?_
    refine AllReadyH.cons rfl (fun K hK => ?_) ?_
    · skip
      go_simp
      obtain ⟨Z, hZ⟩ : ∃ Z, Z = w00.heap.size := ⟨_, rfl⟩
      have ow1 : Hid (OwR w0.heap.size (w00.alloc (.cells #[] 37)) (.slice (some ⟨Z, 0, none⟩) 0 0) []) := by rw [hZ]; exact own_lit4 _ hs0.size
      have hs1 : Below w0.heap.size w0 (w00.alloc (.cells #[] 37)) := belt hs0 (belA _ _)
      rw [← hZ]
      refine hK.out _ _ hs1 (fun _ => ?_)
      clear hK K
      have HZS : Hid (Z = w00.heap.size) := hZ
      clear hZ
      have HZL : Hid (Z < (w00.alloc (.cells #[] 37)).heap.size) := by unfold Hid; rw [HZS.out]; simp
      clear HZS
      generalize w00.alloc (.cells #[] 37) = w1 at *
      refine wpAnyH_ready (rs := [4, 6]) (by kernel_rfl) (by simp) ?_
      refine AllReadyH.cons rfl (fun K hK => ?_) ?_
      · skip
        rw [if_pos (by rfl)]
        refine wp_app _ _ rfl w0.heap.size (.slice (some ⟨Z, 0, none⟩) 0 0) [] rfl ow1.out a k0 cap (ms.take k0) rfl HTL.out (HRT.out.keep hs1) H0.out (by simp) (by have := HK0.out; omega) hs1.size ?_
        intro v4 w2 hown hgrow
        rw [List.nil_append] at hown
        have ow2 : Hid (OwR w0.heap.size w2 v4 (ms.take k0)) := hown
        have hs2 : Below w0.heap.size w0 w2 := grown_bel' hs1 hgrow hs1.size ow1.out.lo
        refine hK.out _ _ hs2 (fun _ => ?_)
        clear hK K hown hgrow
        simp only [Act.put, List.setIfInBounds_toArray, List.set_cons_zero, List.set_cons_succ]
        refine wpAnyH_ready (rs := [6]) (by kernel_rfl) (by simp) ?_
        refine AllReadyH.cons rfl (fun K hK => ?_) AllReadyH.nil
        go_simp
        obtain ⟨X, hX⟩ : ∃ X, X = w2.heap.size := ⟨_, rfl⟩
        have rx3 : Hid (LsAt tyRw (w2.alloc (.cells #[.int .i64 x0, .int .i64 x1, .int .i64 x2, .bool g] 37)) (some ⟨X, 0, none⟩) [⟨x0, x1, x2, g⟩]) := by rw [hX]; exact row_at_new _ ⟨x0, x1, x2, g⟩
        have hs3 : Below w0.heap.size w0 (w2.alloc (.cells #[.int .i64 x0, .int .i64 x1, .int .i64 x2, .bool g] 37)) := belt hs2 (belA _ _)
        have ow3 : Hid (OwR w0.heap.size (w2.alloc (.cells #[.int .i64 x0, .int .i64 x1, .int .i64 x2, .bool g] 37)) v4 (ms.take k0)) := ow2.out.alloc _
        have xz3 : Hid (∀ k, (v4 : Value).ownBlock = some k → ¬ X = k) := fun q hq => by have := (World.ownsRow.lt ow2.out q hq).2; omega
        have hXl : Hid (X < (w2.alloc (.cells #[.int .i64 x0, .int .i64 x1, .int .i64 x2, .bool g] 37)).heap.size) := by unfold Hid; rw [hX]; simp
        rw [← hX]
        refine hK.out _ _ hs3 (fun _ => ?_)
        clear hK K hX
        generalize w2.alloc (.cells #[.int .i64 x0, .int .i64 x1, .int .i64 x2, .bool g] 37) = w3 at *
        refine wpAnyH_ready (rs := [7]) (by kernel_rfl) (by simp) ?_
        refine AllReadyH.cons rfl (fun K hK => ?_) AllReadyH.nil
        rw [if_pos (by rfl)]
        refine wp_app _ _ rfl w0.heap.size v4 (ms.take k0) rfl ow3.out (some ⟨X, 0, none⟩) 1 1 [⟨x0, x1, x2, g⟩] rfl rfl rx3.out (fun hh => by cases hh) (by have := HTL.out; have := HK0.out; omega) (by omega) hs3.size ?_
        intro v5 w4 hown hgrow
        have ow4 : Hid (OwR w0.heap.size w4 v5 (ms.take k0 ++ [⟨x0, x1, x2, g⟩])) := hown
        have hs4 : Below w0.heap.size w0 w4 := grown_bel' hs3 hgrow hs3.size ow3.out.lo
        refine hK.out _ _ hs4 (fun _ => ?_)
        clear hK K hown hgrow
        simp only [Act.put, List.setIfInBounds_toArray, List.set_cons_zero, List.set_cons_succ]
        refine wpAnyH_ready (rs := [8]) (by kernel_rfl) (by simp) ?_
        refine AllReadyH.cons rfl (fun K hK => ?_) AllReadyH.nil
        go_simp
        refine hK.out _ _ hs4 (fun _ => ?_)
        clear hK K
        refine wpAnyH_done (by kernel_rfl) ?_ _
        go_wp2_with fail
        go_meet
        exact ⟨_, rfl, ow4, hs4⟩
      refine AllReadyH.cons rfl (fun K hK => ?_) AllReadyH.nil
      go_simp
      obtain ⟨X, hX⟩ : ∃ X, X = w1.heap.size := ⟨_, rfl⟩
      have rx2 : Hid (LsAt tyRw (w1.alloc (.cells #[.int .i64 x0, .int .i64 x1, .int .i64 x2, .bool g] 37)) (some ⟨X, 0, none⟩) [⟨x0, x1, x2, g⟩]) := by rw [hX]; exact row_at_new _ ⟨x0, x1, x2, g⟩
      have hs2 : Below w0.heap.size w0 (w1.alloc (.cells #[.int .i64 x0, .int .i64 x1, .int .i64 x2, .bool g] 37)) := belt hs1 (belA _ _)
      have ow2 : Hid (OwR w0.heap.size (w1.alloc (.cells #[.int .i64 x0, .int .i64 x1, .int .i64 x2, .bool g] 37)) (.slice (some ⟨Z, 0, none⟩) 0 0) []) := ow1.out.alloc _
      have xz2 : Hid (¬ X = Z) := by have := HZL.out; unfold Hid; omega
      have hXl : Hid (X < (w1.alloc (.cells #[.int .i64 x0, .int .i64 x1, .int .i64 x2, .bool g] 37)).heap.size) := by unfold Hid; rw [hX]; simp
      rw [← hX]
      refine hK.out _ _ hs2 (fun _ => ?_)
      clear hK K hX
      generalize w1.alloc (.cells #[.int .i64 x0, .int .i64 x1, .int .i64 x2, .bool g] 37) = w2 at *
      refine wpAnyH_ready (rs := [4]) (by kernel_rfl) (by simp) ?_
      refine AllReadyH.cons rfl (fun K hK => ?_) AllReadyH.nil
      rw [if_pos (by rfl)]
      refine wp_app _ _ rfl w0.heap.size (.slice (some ⟨Z, 0, none⟩) 0 0) [] rfl ow2.out a k0 cap (ms.take k0) rfl HTL.out (HRT.out.keep hs2) H0.out (by simp) (by have := HK0.out; omega) hs2.size ?_
      intro v4 w3 hown hgrow
      rw [List.nil_append] at hown
      have ow3 : Hid (OwR w0.heap.size w3 v4 (ms.take k0)) := hown
      have hs3 : Below w0.heap.size w0 w3 := grown_bel' hs2 hgrow hs2.size ow2.out.lo
      have rx3 : Hid (LsAt tyRw w3 (some ⟨X, 0, none⟩) [⟨x0, x1, x2, g⟩]) := lsAt_grown rx2.out hgrow (fun bk off he => by cases he; have := xz2.out; simp [Value.ownBlock]; omega)
      have xz3 : Hid (∀ k, v4.ownBlock = some k → True) := fun _ _ => trivial
      refine hK.out _ _ hs3 (fun _ => ?_)
      clear hK K hown hgrow
      simp only [Act.put, List.setIfInBounds_toArray, List.set_cons_zero, List.set_cons_succ]
      refine wpAnyH_ready (rs := [7]) (by kernel_rfl) (by simp) ?_
      refine AllReadyH.cons rfl (fun K hK => ?_) AllReadyH.nil
      rw [if_pos (by rfl)]
      refine wp_app _ _ rfl w0.heap.size v4 (ms.take k0) rfl ow3.out (some ⟨X, 0, none⟩) 1 1 [⟨x0, x1, x2, g⟩] rfl rfl rx3.out (fun hh => by cases hh) (by have := HTL.out; have := HK0.out; omega) (by omega) hs3.size ?_
      intro v5 w4 hown hgrow
      have ow4 : Hid (OwR w0.heap.size w4 v5 (ms.take k0 ++ [⟨x0, x1, x2, g⟩])) := hown
      have hs4 : Below w0.heap.size w0 w4 := grown_bel' hs3 hgrow hs3.size ow3.out.lo
      refine hK.out _ _ hs4 (fun _ => ?_)
      clear hK K hown hgrow
      simp only [Act.put, List.setIfInBounds_toArray, List.set_cons_zero, List.set_cons_succ]
      refine wpAnyH_ready (rs := [8]) (by kernel_rfl) (by simp) ?_
      refine AllReadyH.cons rfl (fun K hK => ?_) AllReadyH.nil
      go_simp
      refine hK.out _ _ hs4 (fun _ => ?_)
      clear hK K
      refine wpAnyH_done (by kernel_rfl) ?_ _
      go_wp2_with fail
      go_meet
      exact ⟨_, rfl, ow4, hs4⟩
    refine AllReadyH.cons rfl (fun K hK => ?_) AllReadyH.nil
    go_simp
    obtain ⟨X, hX⟩ : ∃ X, X = w00.heap.size := ⟨_, rfl⟩
    have rx1 : Hid (LsAt tyRw (w00.alloc (.cells #[.int .i64 x0, .int .i64 x1, .int .i64 x2, .bool g] 37)) (some ⟨X, 0, none⟩) [⟨x0, x1, x2, g⟩]) := by rw [hX]; exact row_at_new _ ⟨x0, x1, x2, g⟩
    have hs1 : Below w0.heap.size w0 (w00.alloc (.cells #[.int .i64 x0, .int .i64 x1, .int .i64 x2, .bool g] 37)) := belt hs0 (belA _ _)
    have hXl : Hid (X < (w00.alloc (.cells #[.int .i64 x0, .int .i64 x1, .int .i64 x2, .bool g] 37)).heap.size) := by unfold Hid; rw [hX]; simp
    rw [← hX]
    refine hK.out _ _ hs1 (fun _ => ?_)
    clear hK K hX
    generalize w00.alloc (.cells #[.int .i64 x0, .int .i64 x1, .int .i64 x2, .bool g] 37) = w1 at *
    refine wpAnyH_ready (rs := [0]) (by kernel_rfl) (by simp) ?_
    refine AllReadyH.cons rfl (fun K hK => ?_) AllReadyH.nil
    go_simp
    obtain ⟨Z, hZ⟩ : ∃ Z, Z = w1.heap.size := ⟨_, rfl⟩
    have ow2 : Hid (OwR w0.heap.size (w1.alloc (.cells #[] 37)) (.slice (some ⟨Z, 0, none⟩) 0 0) []) := by rw [hZ]; exact own_lit4 _ hs1.size
    have hs2 : Below w0.heap.size w0 (w1.alloc (.cells #[] 37)) := belt hs1 (belA _ _)
    have rx2 : Hid (LsAt tyRw (w1.alloc (.cells #[] 37)) (some ⟨X, 0, none⟩) [⟨x0, x1, x2, g⟩]) := rx1.out.keep (belA _ _)
    have xz2 : Hid (¬ X = Z) := by have := hXl.out; unfold Hid; omega
    rw [← hZ]
    refine hK.out _ _ hs2 (fun _ => ?_)
    clear hK K
    have HZS : Hid (Z = w1.heap.size) := hZ
    clear hZ
    have HZL : Hid (Z < (w1.alloc (.cells #[] 37)).heap.size) := by unfold Hid; rw [HZS.out]; simp
    clear HZS
    generalize w1.alloc (.cells #[] 37) = w2 at *
    refine wpAnyH_ready (rs := [4]) (by kernel_rfl) (by simp) ?_
    refine AllReadyH.cons rfl (fun K hK => ?_) AllReadyH.nil
    rw [if_pos (by rfl)]
    refine wp_app _ _ rfl w0.heap.size (.slice (some ⟨Z, 0, none⟩) 0 0) [] rfl ow2.out a k0 cap (ms.take k0) rfl HTL.out (HRT.out.keep hs2) H0.out (by simp) (by have := HK0.out; omega) hs2.size ?_
    intro v4 w3 hown hgrow
    rw [List.nil_append] at hown
    have ow3 : Hid (OwR w0.heap.size w3 v4 (ms.take k0)) := hown
    have hs3 : Below w0.heap.size w0 w3 := grown_bel' hs2 hgrow hs2.size ow2.out.lo
    have rx3 : Hid (LsAt tyRw w3 (some ⟨X, 0, none⟩) [⟨x0, x1, x2, g⟩]) := lsAt_grown rx2.out hgrow (fun bk off he => by cases he; have := xz2.out; simp [Value.ownBlock]; omega)
    have xz3 : Hid (∀ k, v4.ownBlock = some k → True) := fun _ _ => trivial
    refine hK.out _ _ hs3 (fun _ => ?_)
    clear hK K hown hgrow
    simp only [Act.put, List.setIfInBounds_toArray, List.set_cons_zero, List.set_cons_succ]
    refine wpAnyH_ready (rs := [7]) (by kernel_rfl) (by simp) ?_
    refine AllReadyH.cons rfl (fun K hK => ?_) AllReadyH.nil
    rw [if_pos (by rfl)]
    refine wp_app _ _ rfl w0.heap.size v4 (ms.take k0) rfl ow3.out (some ⟨X, 0, none⟩) 1 1 [⟨x0, x1, x2, g⟩] rfl rfl rx3.out (fun hh => by cases hh) (by have := HTL.out; have := HK0.out; omega) (by omega) hs3.size ?_
    intro v5 w4 hown hgrow
    have ow4 : Hid (OwR w0.heap.size w4 v5 (ms.take k0 ++ [⟨x0, x1, x2, g⟩])) := hown
    have hs4 : Below w0.heap.size w0 w4 := grown_bel' hs3 hgrow hs3.size ow3.out.lo
    refine hK.out _ _ hs4 (fun _ => ?_)
    clear hK K hown hgrow
    simp only [Act.put, List.setIfInBounds_toArray, List.set_cons_zero, List.set_cons_succ]
    refine wpAnyH_ready (rs := [8]) (by kernel_rfl) (by simp) ?_
    refine AllReadyH.cons rfl (fun K hK => ?_) AllReadyH.nil
    go_simp
    refine hK.out _ _ hs4 (fun _ => ?_)
    clear hK K
    refine wpAnyH_done (by kernel_rfl) ?_ _
    go_wp2_with fail
    go_meet
    exact ⟨_, rfl, ow4, hs4⟩
  case rest =>
    obtain ⟨v, hv, HO, hbc⟩ := hcut
    have hv' := hv.symm
    clear hv
    subst hv'
    have HBC : Hid (Below w.heap.size w wc) := belt HB0.out hbc
    have HO2 : Hid (OwR w.heap.size wc v (ms.take k0 ++ [(⟨x0, x1, x2, g⟩ : Rw)])) := HO.out.mono HB0.out.size
    have HRC : Hid (LsAt tyRw wc a ms) := HR.out.keep HBC.out
    have HLN : Hid ((ms.take k0 ++ [(⟨x0, x1, x2, g⟩ : Rw)]).length ≤ 1048576) := by rw [Hid, List.length_append, HTL.out]; have := HK0.out; simp; omega
    clear HO hbc HKR HRT HR HTL HB0
    cases a with
    | none =>
      have hc0 : cap = 0 := H0.out rfl
      have hms : ms = [] := lsAt_none HRC.out
      subst hms
      have hn0 : n = 0 := HNN.out.symm
      have hk00 : k0 = 0 := by omega
      subst hc0 hn0 hk00
      have hkF : hk = false := by
        cases hk
        · rfl
        · exact absurd (HHL.out rfl) (by omega)
      subst hkF
      go_wp2_with (first | (at_builtin; refine wpList_app rfl _ _ rfl w.heap.size v _ rfl HO2.out none 0 0 [] rfl rfl (.inl rfl) (fun _ => rfl) HLN.out (by omega) HBC.out.size ?_; intro v8 w8 hown hgrow) | fail)
      have HB8 : Hid (Below w.heap.size w w8) := grown_bel' HBC.out hgrow HBC.out.size HO2.out.lo
      have HO8 : Hid (OwR w.heap.size w8 v8 PL) := by
        rw [HP.out]
        rw [List.append_nil] at hown
        exact hown
      clear hown hgrow
      go_wp2
      go_ret
      exact ⟨v8, rfl, HO8.out, HB8.out⟩
    | some ad =>
      cases hk
      · have HP2 : Hid (PL = ms.take k0 ++ [(⟨x0, x1, x2, g⟩ : Rw)] ++ ms.drop k0) := by rw [Hid, HP.out]; simp
        have hd0 : cap = k0 → ms.drop k0 = [] := fun h => List.drop_of_length_le (by rw [HNN.out]; omega)
        obtain ⟨A, hA, hAd⟩ : ∃ A : Addr, (if cap = k0 then some ad else some (ad.add (k0 * 4))) = some A ∧ LsAt tyRw wc (some A) (ms.drop k0) := by
          by_cases hpc : cap = k0
          · exact ⟨_, if_pos hpc, lsAt_e (hd0 hpc)⟩
          · exact ⟨_, if_neg hpc, lsAt_drop HRC.out k0⟩
        have HAD : Hid (LsAt tyRw wc (some A) (ms.drop k0)) := hAd
        have HDL : Hid ((ms.drop k0).length = n - k0) := by rw [Hid, List.length_drop, HNN.out]
        clear hAd HP hd0 HHL
        go_wp2_with (first | (at_builtin; refine wpList_app rfl _ _ rfl w.heap.size v _ rfl HO2.out (some A) (n - k0) (cap - k0) (ms.drop k0) rfl HDL.out HAD.out (fun hh => by cases hh) HLN.out (by omega) HBC.out.size ?_; intro v8 w8 hown hgrow) | fail)
        have HB8 : Hid (Below w.heap.size w w8) := grown_bel' HBC.out hgrow HBC.out.size HO2.out.lo
        have HO8 : Hid (OwR w.heap.size w8 v8 PL) := by
          rw [HP2.out]
          exact hown
        clear hown hgrow
        go_wp2
        go_ret
        exact ⟨v8, rfl, HO8.out, HB8.out⟩
      · obtain ⟨k1, hk1⟩ : ∃ k1, k1 = k0 + 1 := ⟨_, rfl⟩
        have hkn1 : k1 ≤ n := by rw [hk1]; exact HHL.out rfl
        have HP2 : Hid (PL = ms.take k0 ++ [(⟨x0, x1, x2, g⟩ : Rw)] ++ ms.drop k1) := by rw [Hid, HP.out, hk1]; simp
        have hkw : (k0 : Int) + 1 = (k1 : Int) := by omega
        have hkc1 : k1 ≤ cap := by omega
        have hd0 : cap = k1 → ms.drop k1 = [] := fun h => List.drop_of_length_le (by rw [HNN.out]; omega)
        obtain ⟨A, hA, hAd⟩ : ∃ A : Addr, (if cap = k1 then some ad else some (ad.add (k1 * 4))) = some A ∧ LsAt tyRw wc (some A) (ms.drop k1) := by
          by_cases hpc : cap = k1
          · exact ⟨_, if_pos hpc, lsAt_e (hd0 hpc)⟩
          · exact ⟨_, if_neg hpc, lsAt_drop HRC.out k1⟩
        have HAD : Hid (LsAt tyRw wc (some A) (ms.drop k1)) := hAd
        have HDL : Hid ((ms.drop k1).length = n - k1) := by rw [Hid, List.length_drop, HNN.out]
        clear hAd HP hk1 hd0 HHL
        go_wp2_with (first | (at_builtin; refine wpList_app rfl _ _ rfl w.heap.size v _ rfl HO2.out (some A) (n - k1) (cap - k1) (ms.drop k1) rfl HDL.out HAD.out (fun hh => by cases hh) HLN.out (by omega) HBC.out.size ?_; intro v8 w8 hown hgrow) | fail)
        have HB8 : Hid (Below w.heap.size w w8) := grown_bel' HBC.out hgrow HBC.out.size HO2.out.lo
        have HO8 : Hid (OwR w.heap.size w8 v8 PL) := by
          rw [HP2.out]
          exact hown
        clear hown hgrow
        go_wp2
        go_ret
        exact ⟨v8, rfl, HO8.out, HB8.out⟩
end Go.Proofs.Ytpgngfdhnoonjaa.Tb
