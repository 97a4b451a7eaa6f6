/- The rows of a map, in order. -/
import Derived.Test.YtpgngfdhnoonjaaSo1
import Derived.Deep.DeepAppendRoom
import Derived.Laws.OwnMore
namespace Go.Proofs.Ytpgngfdhnoonjaa.Tb
open Go.RowKit Wire Go.Deep
set_option linter.unusedVariables false
set_option linter.unusedSimpArgs false
/-- rows as cells, one behind the other -/
def flatR (C : List Rw) : List Value := C.flatMap rwV
theorem flatR_len (C : List Rw) : (flatR C).length = C.length * 4 := by
  unfold flatR
  induction C with
  | nil => rfl
  | cons r C ih => rw [List.flatMap_cons, List.length_append, ih, List.length_cons]; simp [rwV]; omega
theorem flatR_snoc (C : List Rw) (r : Rw) : flatR (C ++ [r]) = flatR C ++ rwV r := by simp [flatR]
theorem flatR_app (C D : List Rw) : flatR (C ++ D) = flatR C ++ flatR D := by simp [flatR]
theorem flatR_get : ∀ {C : List Rw} {i j : Nat}, i < C.length → j < 4 → (flatR C)[i * 4 + j]? = (rwV (C.getD i rw0))[j]?
  | [], i, j, h, _ => by simp at h
  | r :: C, 0, j, _, hj => by
    show (rwV r ++ flatR C)[0 * 4 + j]? = _
    rw [List.getElem?_append_left (by simp [rwV]; omega)]
    simp
  | r :: C, i + 1, j, h, hj => by
    show (rwV r ++ flatR C)[(i + 1) * 4 + j]? = _
    have hl : (rwV r).length = 4 := rfl
    rw [List.getElem?_append_right (by omega), hl, show (i + 1) * 4 + j - 4 = i * 4 + j from by omega, flatR_get (by simpa using h) hj]
    rfl
theorem flatR_one (C : List Rw) : ∀ u ∈ flatR C, u.oneCell' = true := by
  intro u hu
  unfold flatR at hu
  obtain ⟨r, _, hr⟩ := List.mem_flatMap.1 hu
  simp [rwV] at hr
  rcases hr with rfl | rfl | rfl | rfl <;> rfl
theorem rb_of_own {w w' : World} {g c n : Nat} {C : List Rw} (h : w'.ownsRow w.heap.size 37 4 (.slice (some ⟨g, 0, none⟩) n c) n (flatR C)) (hn : C.length = n) (hb : Below w.heap.size w w') : RB w w' g c C := by
  subst hn
  obtain ⟨⟨cur, hcur⟩, h2, h3⟩ := owns_cells h
  refine ⟨hb, h3, h2, ⟨cur, hcur⟩, fun i hi j v hj => ?_⟩
  have hj4 : j < 4 := by have := (List.getElem?_eq_some_iff.1 hj).1; simpa [rwV] using this
  rw [h.cellAt (i * 4 + j) (by omega), flatR_get hi hj4]
  exact hj
theorem RB.own {w w' : World} {g c : Nat} {L : List Rw} (h : RB w w' g c L) (hl : L.length ≤ 1048576) : OwnEs tyRw 37 w.heap.size w'.heap.size w' (some ⟨g, 0, none⟩) L.length L := by
  obtain ⟨cur, hcur⟩ := h.row
  by_cases h0 : L = []
  · exact ⟨rfl, hl, .inl h0⟩
  · refine ⟨rfl, hl, .inr ⟨g, g :: (List.replicate L.length ([] : List Nat)).flatten, c, rfl, by simp, ?_⟩⟩
    refine ⟨_, c, rfl, hl, h.cap, fun hh => (by cases hh), .inr ⟨g, cur, List.replicate L.length [], rfl, h.lo, h.lt, hcur, List.length_replicate, rfl, fun i hi => ?_⟩⟩
    rw [rep_get]
    exact ⟨rwV (L.getD i rw0), h.el i hi, rfl, rfl⟩
theorem make_room (n : Nat) (hn : n ≤ 1048576) (w : World) :
    (Instr.makeSlice 26 (.int .i64 0) (.int .i64 (n : Int))).run Try.prog w = .ok (.slice (some ⟨w.heap.size, 0, none⟩) 0 n) (w.alloc (.cells (madeCells #[.int .i64 0, .int .i64 0, .int .i64 0, .bool false] (n * 4)) 37)) := by
  obtain ⟨i0, hi, hz0, hz1, hz2⟩ := info_parts info_rw
  have := run_make (P := Try.prog) w 26 37 i0 _ Try.underlying26 hi hz0 .i64 .i64 0 (n : Int) (by omega) (by omega) (by rw [hz2]; omega) (by omega)
  rw [hz1] at this
  rw [this]
  simp
  rfl
theorem own_room (w : World) (n : Nat) (hn : n ≤ 1048576) : (w.alloc (.cells (madeCells #[.int .i64 0, .int .i64 0, .int .i64 0, .bool false] (n * 4)) 37)).ownsRow w.heap.size 37 4 (.slice (some ⟨w.heap.size, 0, none⟩) 0 n) 0 [] :=
  ⟨rfl, .inr ⟨w.heap.size, n, _, rfl, Nat.le_refl _, heap_alloc_new _ _, Nat.zero_le _, by unfold maxLen; omega, by rw [size_madeCells], by simp⟩⟩
theorem cell_row_new (w : World) (r : Rw) (t : TypeId) : ∀ j u, (rwV r)[j]? = some u → (w.alloc (.cells #[.int .i64 r.x0, .int .i64 r.x1, .int .i64 r.x2, .bool r.b] t)).cell? ((⟨w.heap.size, 0, none⟩ : Addr).add j) = some u := by
  intro j u hj
  rw [add_none', Nat.zero_add, cell_of_row _ _ _ _ _ _ (heap_alloc_new w (.cells #[.int .i64 r.x0, .int .i64 r.x1, .int .i64 r.x2, .bool r.b] t))]
  simpa [rwV] using hj
/-- what was collected so far -/
structure Coll (f : Int → Option Rw) (left : Int → Bool) (C : List Rw) : Prop where
  dis : C.Pairwise (fun p q => ¬ p.x0 = q.x0)
  mem : ∀ r, r ∈ C ↔ (Wf r.x0 ∧ f r.x0 = some r ∧ left r.x0 = false)
theorem coll0 (f : Int → Option Rw) : Coll f (fun k => (f k).isSome) [] := ⟨List.Pairwise.nil, fun r => ⟨fun h => by simp at h, fun ⟨_, h1, h2⟩ => by rw [h1] at h2; cases h2⟩⟩
theorem Coll.step {f : Int → Option Rw} {left : Int → Bool} {C : List Rw} (h : Coll f left C) {k : Int} {q : Rw} (hk : Wf k) (hl : left k = true) (hf : f k = some q) (hq : q.x0 = k) : Coll f (fun j => left j && !decide (j = k)) (C ++ [q]) := by
  refine ⟨List.pairwise_append.2 ⟨h.dis, List.pairwise_singleton _ _, fun a ha b hb e => ?_⟩, fun r => ?_⟩
  · simp at hb
    subst hb
    have := ((h.mem a).1 ha).2.2
    rw [e, hq, hl] at this
    cases this
  · rw [List.mem_append, h.mem r, List.mem_singleton]
    constructor
    · rintro (⟨h1, h2, h3⟩ | rfl)
      · exact ⟨h1, h2, by rw [h3]; rfl⟩
      · rw [hq]; exact ⟨hk, hf, by simp⟩
    · rintro ⟨h1, h2, h3⟩
      by_cases e : r.x0 = k
      · right
        rw [e, hf] at h2
        exact (Option.some.inj h2).symm
      · left
        refine ⟨h1, h2, ?_⟩
        simpa [e] using h3
theorem nodup_len : ∀ {C L : List Int}, C.Nodup → (∀ x ∈ C, x ∈ L) → C.length ≤ L.length
  | [], L, _, _ => Nat.zero_le _
  | x :: C, L, hn, hs => by
    obtain ⟨h1, h2⟩ := List.nodup_cons.1 hn
    have hx := hs x (by simp)
    have := nodup_len (C := C) (L := L.erase x) h2 (fun y hy => by
      have hne : ¬ y = x := fun e => h1 (by rw [← e]; exact hy)
      exact (List.mem_erase_of_ne hne).2 (hs y (List.mem_cons_of_mem _ hy)))
    rw [List.length_erase_of_mem hx] at this
    have hp : 0 < L.length := List.length_pos_of_mem hx
    simp only [List.length_cons]
    omega
theorem Coll.le {f : Int → Option Rw} {left : Int → Bool} {C L : List Rw} (h : Coll f left C) (hf : ∀ k, Wf k → f k = lk L k) : C.length ≤ L.length := by
  have := nodup_len (C := C.map (·.x0)) (L := L.map (·.x0)) (List.pairwise_map.2 h.dis) (fun x hx => by
    obtain ⟨r, hr, rfl⟩ := List.mem_map.1 hx
    obtain ⟨h1, h2, _⟩ := (h.mem r).1 hr
    rw [hf _ h1] at h2
    exact List.mem_map.2 ⟨r, (lk_some h2).1, rfl⟩)
  simpa using this
theorem Coll.lt {f : Int → Option Rw} {left : Int → Bool} {C L : List Rw} (h : Coll f left C) (hf : ∀ k, Wf k → f k = lk L k) {k : Int} {q : Rw} (hk : Wf k) (hl : left k = true) (hq : f k = some q) : C.length + 1 ≤ L.length := by
  have hqk : q.x0 = k := by rw [hf k hk] at hq; exact (lk_some hq).2
  have := (h.step hk hl hq hqk).le hf
  simpa using this
theorem Coll.end {f : Int → Option Rw} {left : Int → Bool} {C L : List Rw} (h : Coll f left C) (hf : ∀ k, Wf k → f k = lk L k) (hL : Inc L) (hw : ∀ r ∈ L, Wf r.x0) (hl : ∀ k, Wf k → left k = false) : ∀ r, r ∈ C ↔ r ∈ L := by
  intro r
  rw [h.mem r]
  constructor
  · rintro ⟨h1, h2, _⟩
    rw [hf _ h1] at h2
    exact (lk_some h2).1
  · intro hr
    have := hw r hr
    exact ⟨this, by rw [hf _ this]; exact lk_mem hL hr, hl _ this⟩
theorem RangeR.row_ne {w : World} {b r n m base : Nat} {f : Int → Option Rw} {left : Int → Bool} {cnt size : Nat} {e : TypeId} {g c : Nat} {xs : List Value} (h : RangeR w b r n f left cnt) (ho : w.ownsRow base e size (.slice (some ⟨g, 0, none⟩) m c) m xs) : some b ≠ some g ∧ some r ≠ some g := by
  obtain ⟨⟨cur, hcur⟩, _, _⟩ := owns_cells ho
  obtain ⟨D, lf, ⟨es, clock, since, seen, c0, hb, _, _, _, hr, _⟩, _⟩ := h
  constructor
  · intro e
    cases e
    rw [hcur] at hb
    cases hb
  · intro e
    cases e
    rw [hcur] at hr
    cases hr
set_option maxRecDepth 100000 in
set_option maxHeartbeats 6400000 in
theorem inOrder_any (b n : Nat) (f : Int → Option Rw) (L : List Rw) (w : World) (hL : Inc L) (hf : ∀ k, Wf k → f k = lk L k) (hw : ∀ r ∈ L, Wf r.x0) (hl : L.length ≤ 12) (hM : MapR w b n f) :
    Calls Try.prog 51 #[.map (some b)] w fun e w' => ∃ a c, e = .returned (.slice a L.length c) ∧ OwnEs tyRw 37 w.heap.size w'.heap.size w' a L.length L ∧ Below w.heap.size w w' := by
  have HINC : Hid (Inc L) := hL
  have HF : Hid (∀ k, Wf k → f k = lk L k) := hf
  have HW : Hid (∀ r ∈ L, Wf r.x0) := hw
  have hlen := hM.len hL hf hw 3
  have hmk := make_room L.length (by omega) w
  have HM0 : Hid (MapR (w.alloc (.cells (madeCells #[.int .i64 0, .int .i64 0, .int .i64 0, .bool false] (L.length * 4)) 37)) b n f) := hM.keep (belA _ _)
  have HO0 : Hid ((w.alloc (.cells (madeCells #[.int .i64 0, .int .i64 0, .int .i64 0, .bool false] (L.length * 4)) 37)).ownsRow w.heap.size 37 4 (.slice (some ⟨w.heap.size, 0, none⟩) 0 L.length) 0 []) := own_room w L.length (by omega)
  have HBL : Hid (b < w.heap.size) := hM.lt
  obtain ⟨i0, hi, hz0, hz1, hz2⟩ := info_parts info_rw
  clear hL hf hw hM
  go_enter Try.func51, Try.ntmps51
  go_wp2_with (first | (at_range; refine wpList_range_R rfl _ rfl b n f rfl HM0.out ?_; intro w0 cnt0 hrg0 hg0 hs0) | fail)
  clear hlen hmk
  go_frame
  simp only [World.size_alloc]
  have HB0 : Hid (Below w.heap.size w w0) := (belA w _).grown hg0 (by simp) (fun k hk => by cases hk)
  have HO1 : Hid (w0.ownsRow w.heap.size 37 4 (.slice (some ⟨w.heap.size, 0, none⟩) 0 L.length) 0 []) := HO0.out.kept hg0 (by simp [Value.ownBlock])
  simp only [World.size_alloc] at hrg0
  have HR0 : Hid (RangeR w0 b (w.heap.size + 1) n f (fun k => (f k).isSome) cnt0) := hrg0
  clear hrg0 hg0 hs0 HO0 HM0
  go_loopw [3] (fun v3 wr => ∃ (C : List Rw) (left : Int → Bool) (cnt : Nat), v3 = .slice (some ⟨w.heap.size, 0, none⟩) C.length L.length ∧ Hid (wr.ownsRow w.heap.size 37 4 (.slice (some ⟨w.heap.size, 0, none⟩) C.length L.length) C.length (flatR C)) ∧ Hid (RangeR wr b (w.heap.size + 1) n f left cnt) ∧ Hid (Coll f left C) ∧ Hid (Below w.heap.size w wr)) (fun _ wr => wr.rangeLeft b (w.heap.size + 1))
  case atStart => exact ⟨[], _, cnt0, rfl, HO1, HR0, coll0 f, HB0⟩
  case round =>
    obtain ⟨C, left, cnt, rfl, HO, HR, HC, HB⟩ := hrel
    clear HB0 HO1 HR0
    go_wp2_with (first | (at_next; refine wpList_next_R rfl _ rfl b (w.heap.size + 1) n f left cnt rfl HR.out ?_ ?_) | fail)
    · intro hdone
      have HEND : Hid (∀ r, r ∈ C ↔ r ∈ L) := HC.out.end HF.out HINC.out HW.out hdone
      have HRB : Hid (RB w wr w.heap.size L.length C) := rb_of_own HO.out rfl HB.out
      have HDIS : Hid (C.Pairwise (fun p q => ¬ p.x0 = q.x0)) := HC.out.dis
      have hcl := HC.out.le HF.out
      clear hdone HO HR HC
      go_wp2_with fail
      refine (sortFunc_any w w.heap.size L.length C C.length _ rfl HDIS.out (by omega) HRB.out).mono ?_
      rintro e w2 ⟨rfl, S, s1, s2, s3, s4⟩
      have hSL : S = L := inc_ext s1 HINC.out (fun r => (s2 r).symm.trans (HEND.out r))
      subst hSL
      have HS4 : Hid (RB w w2 w.heap.size S.length S) := s4
      clear s1 s2 s4 HEND HRB
      go_wp2
      go_ret
      refine ⟨_, S.length, ?_, HS4.out.own (by omega), HS4.out.bel⟩
      rw [s3]
      rfl
    · intro k q w1 cnt1 hwk hlk hfk hrg1 hlt hg1 hs1 hen
      have HC1 : Hid (Coll f (fun j => left j && !decide (j = k)) (C ++ [q])) := HC.out.step hwk hlk hfk (by have := hfk; rw [HF.out k hwk] at this; exact (lk_some this).2)
      have hroom : C.length + 1 ≤ L.length := HC.out.lt HF.out hwk hlk hfk
      have HO1 : Hid (w1.ownsRow w.heap.size 37 4 (.slice (some ⟨w.heap.size, 0, none⟩) C.length L.length) C.length (flatR C)) := HO.out.kept hg1 (by right; simp [Value.ownBlock])
      have HB1 : Hid (Below w.heap.size w w1) := HB.out.grown hg1 HB.out.size (fun k hk => by cases hk; omega)
      have HR1 : Hid (RangeR w1 b (w.heap.size + 1) n f (fun j => left j && !decide (j = k)) cnt1) := hrg1
      have HLT : Hid (cnt1 < cnt) := hlt
      clear hwk hlk hfk hrg1 hg1 hs1 HO HC hlt
      obtain ⟨x0, x1, x2, gb⟩ := q
      have hfl : rwV ⟨x0, x1, x2, gb⟩ = [.int .i64 x0, .int .i64 x1, .int .i64 x2, .bool gb] := rfl
      simp only [rwA] at hen
      have HO2 : Hid (((w1.alloc (.cells #[.int .i64 x0, .int .i64 x1, .int .i64 x2, .bool gb] 37)).alloc (.cells #[.int .i64 x0, .int .i64 x1, .int .i64 x2, .bool gb] 37)).ownsRow w.heap.size 37 4 (.slice (some ⟨w.heap.size, 0, none⟩) C.length L.length) C.length (flatR C)) := (HO1.out.alloc _).alloc _
      have HCN : Hid (∀ j u, (rwV ⟨x0, x1, x2, gb⟩)[j]? = some u → ((w1.alloc (.cells #[.int .i64 x0, .int .i64 x1, .int .i64 x2, .bool gb] 37)).alloc (.cells #[.int .i64 x0, .int .i64 x1, .int .i64 x2, .bool gb] 37)).cell? ((⟨w1.heap.size + 1, 0, none⟩ : Addr).add j) = some u) := by
        have h := cell_row_new (w1.alloc (.cells #[.int .i64 x0, .int .i64 x1, .int .i64 x2, .bool gb] 37)) ⟨x0, x1, x2, gb⟩ 37
        simp only [World.size_alloc] at h
        exact h
      have HR2 : Hid (RangeR ((w1.alloc (.cells #[.int .i64 x0, .int .i64 x1, .int .i64 x2, .bool gb] 37)).alloc (.cells #[.int .i64 x0, .int .i64 x1, .int .i64 x2, .bool gb] 37)) b (w.heap.size + 1) n f (fun j => left j && !decide (j = k)) cnt1) := HR1.out.keep (belB _ _ _)
      have HB2 : Hid (Below w.heap.size w ((w1.alloc (.cells #[.int .i64 x0, .int .i64 x1, .int .i64 x2, .bool gb] 37)).alloc (.cells #[.int .i64 x0, .int .i64 x1, .int .i64 x2, .bool gb] 37))) := belt HB1.out (belB _ _ _)
      clear HO1 HR1 HB1
      go_wp2_with (first | (at_builtin; refine wpList_append_own_spare _ rfl (.tmp 15) (.tmp 17) 26 rfl w.heap.size 37 i0 4 Try.underlying26 hi hz1 w.heap.size C.length L.length (flatR C) rfl HO2.out ⟨w1.heap.size + 1, 0, none⟩ 1 1 (rwV ⟨x0, x1, x2, gb⟩) rfl rfl HCN.out (by simp [rwV, Value.oneCell']) hroom ?_; intro w5 hown5 hgrow5) | fail)
      have HO5 : Hid (w5.ownsRow w.heap.size 37 4 (.slice (some ⟨w.heap.size, 0, none⟩) (C ++ [(⟨x0, x1, x2, gb⟩ : Rw)]).length L.length) (C ++ [(⟨x0, x1, x2, gb⟩ : Rw)]).length (flatR (C ++ [(⟨x0, x1, x2, gb⟩ : Rw)]))) := by
        rw [flatR_snoc, List.length_append]
        exact hown5
      have HN := HR2.out.row_ne HO2.out
      have HR5 : Hid (RangeR w5 b (w.heap.size + 1) n f (fun j => left j && !decide (j = k)) cnt1) := HR2.out.kept hgrow5 HN.1 HN.2
      have HB5 : Hid (Below w.heap.size w w5) := HB2.out.grown hgrow5 HB2.out.size (fun k hk => by cases hk; exact Nat.le_refl _)
      clear hown5 hgrow5 HO2 HCN HR2 HB2 HN hen
      go_wp2
      go_roundw
      case rel => exact ⟨C ++ [(⟨x0, x1, x2, gb⟩ : Rw)], _, cnt1, by simp, HO5, HR5, HC1, HB5⟩
      case measure => rw [HR5.out.left_eq, HR.out.left_eq]; exact HLT.out
end Go.Proofs.Ytpgngfdhnoonjaa.Tb
