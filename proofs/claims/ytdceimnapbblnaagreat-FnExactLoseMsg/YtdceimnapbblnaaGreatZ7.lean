/- slices.Delete at messages: one of them goes. The program takes a message out of a bag. What an append of replies to an empty slice owns; a copy of a net by the specification: its first statement. -/
import Derived.Test.YtdceimnapbblnaaGreatZ0
import Derived.Test.YtdceimnapbblnaaGreatZ1
import Derived.Test.YtdceimnapbblnaaGreatZ2
import Derived.Test.YtdceimnapbblnaaGreatZ3
import Derived.Test.YtdceimnapbblnaaGreatZ4
import Derived.Test.YtdceimnapbblnaaGreatZ5
import Derived.Test.YtdceimnapbblnaaGreatZ6
namespace Go.Proofs.YtdceimnapbblnaaGreat
open Go.RowKit Go.Deep
set_option linter.unusedVariables false
set_option linter.unusedSimpArgs false
theorem zero_msg : ∀ w, (zeroValue 102).run Tryz.prog w = .ok (.agg #[.int .i64 0, .int .i64 0, .int .i64 0, .int .i64 0, .int .i64 0, .int .i64 0, .int .i64 0, .int .i64 0, .slice none 0 0]) w := fun w => by
  obtain ⟨i0, hi, hz0, _⟩ := info_msgE
  simp [zeroValue, typeInfo, hi, hz0]
def mz9 : List Value := [.int .i64 0, .int .i64 0, .int .i64 0, .int .i64 0, .int .i64 0, .int .i64 0, .int .i64 0, .int .i64 0, .slice none 0 0]
theorem mz9_cells : (Builtin.zeroCells (Value.agg #[.int .i64 0, .int .i64 0, .int .i64 0, .int .i64 0, .int .i64 0, .int .i64 0, .int .i64 0, .int .i64 0, .slice none 0 0]).cells 1).toList = mz9 := by kernel_rfl
theorem mz9_one : ∀ u ∈ mz9, u.oneCell' = true := by
  intro u hu
  simp [mz9] at hu
  rcases hu with rfl | rfl <;> rfl
/-- one array without nine of its cells, the last nine zero -/
def delA (cur : Array Value) (k n : Nat) : Array Value :=
  let A := (cur.toList.take (k * 9) ++ ((cur.toList.drop ((k + 1) * 9)).take ((n - (k + 1)) * 9)) ++ cur.toList.drop (k * 9 + (n - (k + 1)) * 9)).toArray
  (A.toList.take ((n - 1) * 9) ++ mz9 ++ A.toList.drop ((n - 1) * 9 + 9)).toArray
set_option maxRecDepth 100000 in
set_option maxHeartbeats 4000000 in
theorem delMsg_any (g cap n k : Nat) (cur : Array Value) (w : World) (hg : w.heap[g]? = some (.cells cur 102 (0, 0))) (hk : k < n) (hcap : n ≤ cap) (hcm : cap ≤ 9223372036854775807) (hfit : cap * 9 = cur.size) (h1 : ∀ j u, j < n * 9 → cur[j]? = some u → u.oneCell' = true) :
    Calls Tryz.prog 127 #[.slice (some ⟨g, 0, none⟩) n cap, .int .i64 k, .int .i64 (k + 1)] w fun e w' => e = .returned (.slice (some ⟨g, 0, none⟩) (n - 1) cap) ∧ w' = w.drew.setRow g (delA cur k n) := by
  obtain ⟨i0, hi, hz0, hz1, hz2⟩ := info_msgE
  obtain ⟨news, hnews⟩ : ∃ news, news = (cur.toList.drop ((k + 1) * 9)).take ((n - (k + 1)) * 9) := ⟨_, rfl⟩
  have hm9 : (k + 1) * 9 + (n - (k + 1)) * 9 = n * 9 := by rw [← Nat.add_mul]; congr 1; omega
  have hn9 : n * 9 ≤ cur.size := by rw [← hfit]; exact Nat.mul_le_mul_right _ hcap
  have hlen : news.length = (n - (k + 1)) * 9 := by
    rw [hnews, List.length_take, List.length_drop, Array.length_toList]; omega
  have hget : ∀ t u, news[t]? = some u → t < (n - (k + 1)) * 9 ∧ cur[(k + 1) * 9 + t]? = some u := by
    intro t u hu
    have ht := (List.getElem?_eq_some_iff.1 hu).1
    rw [hlen] at ht
    refine ⟨ht, ?_⟩
    rw [hnews, List.getElem?_take_of_lt ht, List.getElem?_drop, Array.getElem?_toList] at hu
    exact hu
  obtain ⟨A, hA, hsrc⟩ : ∃ A : Addr, (if cap = k + 1 then some (⟨g, 0, none⟩ : Addr) else some ⟨g, (k + 1) * 9, none⟩) = some A ∧ Hid (∀ t u, news[t]? = some u → w.drew.cell? (A.add t) = some u) := by
    by_cases h : cap = k + 1
    · refine ⟨⟨g, 0, none⟩, by simp [h], fun t u hu => ?_⟩
      obtain ⟨ht, _⟩ := hget t u hu
      omega
    · refine ⟨⟨g, (k + 1) * 9, none⟩, by simp [h], fun t u hu => ?_⟩
      rw [add_none']
      exact (cell_of_row w.drew _ _ _ _ _ hg).trans (hget t u hu).2
  have s1 : Hid (news.length = (n - (k + 1)) * 9) := hlen
  have s2 : Hid (∀ u ∈ news, u.oneCell' = true) := fun u hu => by
    obtain ⟨t, ht, rfl⟩ := List.getElem_of_mem hu
    obtain ⟨h2, h3⟩ := hget t _ (List.getElem?_eq_getElem ht)
    exact h1 _ _ (by omega) h3
  have s3 : Hid (k * 9 + news.length ≤ cur.size) := by rw [Hid, hlen]; omega
  have s4 : Hid (w.drew.heap[g]? = some (.cells cur 102 (0, 0))) := hg
  obtain ⟨A1, hA1⟩ : ∃ A1, A1 = (cur.toList.take (k * 9) ++ news ++ cur.toList.drop (k * 9 + news.length)).toArray := ⟨_, rfl⟩
  obtain ⟨W1, hW1⟩ : ∃ W1, W1 = w.drew.setRow g A1 := ⟨_, rfl⟩
  have hg1 : W1.heap[g]? = some (.cells A1 102 (0, 0)) := by rw [hW1]; exact setRow_heap _ _ _ _ _ _ s4.out
  have hs1 : A1.size = cur.size := by
    rw [hA1]; simp only [List.size_toArray, List.length_append, List.length_take, List.length_drop, Array.length_toList]; have := s3.out; omega
  have hcl : ∀ ty, (Builtin.clear_ #[33] ty #[.slice (some ⟨g, (k + (n - (k + 1))) * 9, none⟩) (n - (k + (n - (k + 1)))) (cap - (k + (n - (k + 1))))]).run Tryz.prog W1 = .ok (.tuple #[]) (W1.setRow g (delA cur k n)) := fun ty => by
    have e1 : k + (n - (k + 1)) = n - 1 := by omega
    have e2 : n - (n - 1) = 1 := by omega
    rw [e1, e2, run_clear_row (P := Tryz.prog) W1 _ 102 ty _ Tryz.underlying33 zero_msg g ((n - 1) * 9) 1 _ (by omega) A1 102 hg1 mz9 mz9_cells mz9_one (by rw [hs1]; show (n - 1) * 9 + 9 ≤ _; omega)]
    congr 2
    unfold delA
    rw [hA1, hlen, ← hnews]
    rfl
  have hW : Hid (W1 = w.drew.setRow g A1) := hW1
  have hAA : Hid (A1 = (cur.toList.take (k * 9) ++ news ++ cur.toList.drop (k * 9 + news.length)).toArray) := hA1
  have hkc : k ≤ cap := by omega
  have hk5 : (0 : Int) ≤ (k : Int) + 1 := by omega
  have hk6 : (k : Int) + 1 ≤ (n : Int) := by omega
  have hkc1 : k + 1 ≤ cap := by omega
  clear hW1 hA1 hget hnews hlen hg hg1 hs1 h1 hfit hn9 hm9
  go_enter Tryz.func127, Tryz.ntmps127
  go_wp2_with fail
  go_region_law (refine step_append_row rfl (.tmp 22) (.tmp 25) 33 rfl 102 i0 9 Tryz.underlying33 hi hz1 g k cap cur (by simp [Act.eval, Act.put]) s4.out A (n - (k + 1)) (cap - (k + 1)) news (by simp [Act.eval, Act.put]) s1.out hsrc.out s2.out (by omega) s3.out ?_; rw [← hAA.out, ← hW.out])
  go_wp2
  go_ret
  have hN : n - 1 = k + (n - (k + 1)) := by omega
  rw [hN]
  refine ⟨rfl, ?_⟩
  rw [hW.out, setRow_setRow]
end Go.Proofs.YtdceimnapbblnaaGreat
namespace Go.Proofs.YtdceimnapbblnaaGreat
open Go.RowKit Go.Deep
set_option linter.unusedVariables false
set_option linter.unusedSimpArgs false
theorem Wire.Bk.m9 {w : World} {g : Nat} {e0 e1 e2 e3 e4 e5 e6 e7 e8 : Value} {T : TypeId} (h : Wire.Bk w g #[e0, e1, e2, e3, e4, e5, e6, e7, e8] T) : w.cell? ⟨g, 0, none⟩ = some e0 ∧ w.cell? ⟨g, 1, none⟩ = some e1 ∧ w.cell? ⟨g, 2, none⟩ = some e2 ∧ w.cell? ⟨g, 3, none⟩ = some e3 ∧ w.cell? ⟨g, 4, none⟩ = some e4 ∧ w.cell? ⟨g, 5, none⟩ = some e5 ∧ w.cell? ⟨g, 6, none⟩ = some e6 ∧ w.cell? ⟨g, 7, none⟩ = some e7 ∧ w.cell? ⟨g, 8, none⟩ = some e8 := ⟨h.cell 0, h.cell 1, h.cell 2, h.cell 3, h.cell 4, h.cell 5, h.cell 6, h.cell 7, h.cell 8⟩
theorem Wire.Bk.g9 {w : World} {g : Nat} {C : Array Value} {T : TypeId} (h : Wire.Bk w g C T) : w.frozen? ⟨g, 0, none⟩ = false ∧ w.frozen? ⟨g, 1, none⟩ = false ∧ w.frozen? ⟨g, 2, none⟩ = false ∧ w.frozen? ⟨g, 3, none⟩ = false ∧ w.frozen? ⟨g, 4, none⟩ = false ∧ w.frozen? ⟨g, 5, none⟩ = false ∧ w.frozen? ⟨g, 6, none⟩ = false ∧ w.frozen? ⟨g, 7, none⟩ = false ∧ w.frozen? ⟨g, 8, none⟩ = false := ⟨h.fr 0, h.fr 1, h.fr 2, h.fr 3, h.fr 4, h.fr 5, h.fr 6, h.fr 7, h.fr 8⟩
theorem ovr9 (a0 a1 a2 a3 a4 a5 a6 a7 a8 b0 b1 b2 b3 b4 b5 b6 b7 b8 : Value) : Wire.ovr #[a0, a1, a2, a3, a4, a5, a6, a7, a8] 0 [b0, b1, b2, b3, b4, b5, b6, b7, b8] = #[b0, b1, b2, b3, b4, b5, b6, b7, b8] := by simp [Wire.ovr]
theorem delA_size {cur : Array Value} {k n : Nat} (hk : k < n) (hn : n * 9 ≤ cur.size) : (delA cur k n).size = cur.size := by
  have hm9 : (k + 1) * 9 + (n - (k + 1)) * 9 = n * 9 := by rw [← Nat.add_mul]; congr 1; omega
  have : mz9.length = 9 := rfl
  unfold delA
  simp only [List.size_toArray, List.length_append, List.length_take, List.length_drop, Array.length_toList]
  omega
theorem delA_get {cur : Array Value} {k n t : Nat} (hk : k < n) (hn : n * 9 ≤ cur.size) (ht : t < (n - 1) * 9) : (delA cur k n)[t]? = if t < k * 9 then cur[t]? else cur[t + 9]? := by
  have hm9 : (k + 1) * 9 + (n - (k + 1)) * 9 = n * 9 := by rw [← Nat.add_mul]; congr 1; omega
  have hlen : ((cur.toList.drop ((k + 1) * 9)).take ((n - (k + 1)) * 9)).length = (n - (k + 1)) * 9 := by
    rw [List.length_take, List.length_drop, Array.length_toList]; omega
  have hl1 : (cur.toList.take (k * 9)).length = k * 9 := by rw [List.length_take, Array.length_toList]; omega
  unfold delA
  rw [List.getElem?_toArray, List.append_assoc, List.getElem?_append_left (by simp only [List.length_take, List.length_append, List.length_drop, Array.length_toList]; omega), List.getElem?_take_of_lt ht]
  show (cur.toList.take (k * 9) ++ ((cur.toList.drop ((k + 1) * 9)).take ((n - (k + 1)) * 9)) ++ cur.toList.drop (k * 9 + (n - (k + 1)) * 9))[t]? = _
  rw [List.append_assoc]
  by_cases h : t < k * 9
  · rw [if_pos h, List.getElem?_append_left (by omega), List.getElem?_take_of_lt h, Array.getElem?_toList]
  · rw [if_neg h, List.getElem?_append_right (by omega), hl1, List.getElem?_append_left (by rw [hlen]; omega), List.getElem?_take_of_lt (by omega), List.getElem?_drop, Array.getElem?_toList]
    congr 1
    omega
theorem BagW.del {m0 m1 g cm k : Nat} {w w' : World} {ms : List Mg} {cur : Array Value} (h : BagW m0 m1 w (some ⟨g, 0, none⟩) cm ms) (hk : k < ms.length) (hg : w.heap[g]? = some (.cells cur 102 (0, 0))) (hg' : w'.heap[g]? = some (.cells (delA cur k ms.length) 102 (0, 0))) :
    BagW m0 m1 w' (some ⟨g, 0, none⟩) cm (ms.eraseIdx k) := by
  obtain ⟨zs, h1, hx, h3⟩ := h
  obtain ⟨hzl, ⟨h', _⟩ | ⟨g', cap', cur', h', hb, hc', hn, hcm, hsz, htk⟩⟩ := h1
  · simp at h'
  simp only [Value.slice.injEq, Option.some.injEq, Addr.mk.injEq, and_true, true_and] at h'
  obtain ⟨rfl, rfl⟩ := h'
  rw [hg] at hc'
  simp only [Option.some.injEq, Obj.cells.injEq, and_true] at hc'
  obtain rfl := hc'
  have hn9 : ms.length * 9 ≤ cur.size := by rw [hsz]; exact Nat.mul_le_mul_right _ hn
  have hlen : (ms.eraseIdx k).length = ms.length - 1 := List.length_eraseIdx_of_lt hk
  have hdl : (delA cur k ms.length).toList.length = cur.size := Array.length_toList.trans (delA_size hk hn9)
  refine ⟨(delA cur k ms.length).toList.take ((ms.length - 1) * 9), ⟨?_, .inr ⟨g, cm, _, rfl, hb, hg', by omega, hcm, by rw [delA_size hk hn9, hsz], by rw [hlen]⟩⟩, ⟨?_, fun i hi => ?_⟩, fun z hz => h3 z hz⟩
  · rw [hlen, List.length_take, hdl]; omega
  · rw [hlen, List.length_take, hdl]; omega
  rw [hlen] at hi
  have hi9 : (i + 1) * 9 ≤ (ms.length - 1) * 9 := Nat.mul_le_mul_right _ hi
  refine ⟨.slice none 0 0, fun j v hj => ?_, fun _ => rfl⟩
  have hjl : j < 9 := by have := (List.getElem?_eq_some_iff.1 hj).1; simpa [mgV] using this
  rw [List.getElem?_take_of_lt (by omega), Array.getElem?_toList, delA_get hk hn9 (by omega)]
  have old : ∀ q, q < ms.length → (mgV (ms.getD q mg0) (.slice none 0 0))[j]? = some v → cur[q * 9 + j]? = some v := fun q hq hv => by
    obtain ⟨s, e1, e2⟩ := hx.el q hq
    rw [e2 hq] at e1
    have hq9 : (q + 1) * 9 ≤ ms.length * 9 := Nat.mul_le_mul_right _ hq
    have := e1 j v hv
    rw [← htk, List.getElem?_take_of_lt (by omega), Array.getElem?_toList] at this
    exact this
  rw [eraseIdx_getD] at hj
  by_cases hik : i < k
  · have : (i + 1) * 9 ≤ k * 9 := Nat.mul_le_mul_right _ hik
    rw [if_pos hik] at hj
    rw [if_pos (by omega)]
    exact old i (by omega) hj
  · have : k * 9 ≤ i * 9 := Nat.mul_le_mul_right _ (by omega)
    rw [if_neg hik] at hj
    rw [if_neg (by omega)]
    have := old (i + 1) (by omega) hj
    rw [show i * 9 + j + 9 = (i + 1) * 9 + j from by omega]
    exact this
/-- what is known of a bag's block -/
theorem BagW.row {m0 m1 g cm : Nat} {w : World} {ms : List Mg} (h : BagW m0 m1 w (some ⟨g, 0, none⟩) cm ms) : ∃ cur, w.heap[g]? = some (.cells cur 102 (0, 0)) ∧ ms.length ≤ cm ∧ cm ≤ 9223372036854775807 ∧ cm * 9 = cur.size ∧ m0 ≤ g ∧ g < m1 ∧ (∀ i, i < ms.length → CellsAt w g (i * 9) (mgV (ms.getD i mg0) (.slice none 0 0))) ∧ ∀ j u, j < ms.length * 9 → cur[j]? = some u → u.oneCell' = true := by
  obtain ⟨zs, h1, hx, h3⟩ := h
  have hown := h1
  obtain ⟨hzl, ⟨h', _⟩ | ⟨g', cap', cur, h', hb, hc', hn, hcm, hsz, htk⟩⟩ := h1
  · simp at h'
  simp only [Value.slice.injEq, Option.some.injEq, Addr.mk.injEq, and_true, true_and] at h'
  obtain ⟨rfl, rfl⟩ := h'
  have hcell : ∀ i, i < ms.length → ∀ j v, (mgV (ms.getD i mg0) (.slice none 0 0))[j]? = some v → cur[i * 9 + j]? = some v := fun i hi j v hj => by
    obtain ⟨s, e1, e2⟩ := hx.el i hi
    rw [e2 hi] at e1
    have hjl : j < 9 := by have := (List.getElem?_eq_some_iff.1 hj).1; simpa [mgV] using this
    have hq9 : (i + 1) * 9 ≤ ms.length * 9 := Nat.mul_le_mul_right _ hi
    have := e1 j v hj
    rw [← htk, List.getElem?_take_of_lt (by omega), Array.getElem?_toList] at this
    exact this
  refine ⟨cur, hc', hn, by unfold maxLen at hcm; omega, hsz.symm, hb, h3 g rfl, fun i hi j v hj => (cell_of_row w _ _ _ _ _ hc').trans (hcell i hi j v hj), fun j u hj hu => ?_⟩
  have e0 : j = j / 9 * 9 + j % 9 := by omega
  have hm : j % 9 < 9 := by omega
  have hj9 : j / 9 < ms.length := by omega
  have hex : ∃ v, (mgV (ms.getD (j / 9) mg0) (.slice none 0 0))[j % 9]? = some v := by
    rw [List.getElem?_eq_getElem (by simpa [mgV] using hm)]
    exact ⟨_, rfl⟩
  obtain ⟨v, hv⟩ := hex
  have h4 := hcell _ hj9 _ _ hv
  rw [← e0, hu] at h4
  simp only [Option.some.injEq] at h4
  subst h4
  have hmem := List.mem_of_getElem? hv
  simp [mgV] at hmem
  rcases hmem with rfl | rfl | rfl | rfl | rfl | rfl | rfl | rfl | rfl <;> rfl
set_option maxRecDepth 100000 in
set_option maxHeartbeats 6400000 in
theorem take_any (q g cm k m0 m1 : Nat) (v0 v1 v2 v3 v5 v6 : Value) (ms : List Mg) (w : World) (hq : Wire.Bk w q #[v0, v1, v2, v3, .slice (some ⟨g, 0, none⟩) ms.length cm, v5, v6] 36) (hb : BagW m0 m1 w (some ⟨g, 0, none⟩) cm ms) (hk : k < ms.length) (hm : ms.length ≤ 1048576) (hgq : ¬ q = g) (hl : ∀ i, i < ms.length → (ms.getD i mg0).l = []) :
    Calls Tryz.prog 62 #[.pointer (some ⟨q, 0, none⟩), .int .i64 k] w fun e w' => e = .returned (.agg (mgV (ms.getD k mg0) (.slice none 0 0)).toArray) ∧ Wire.Bk w' q #[v0, v1, v2, v3, .slice (some ⟨g, 0, none⟩) (ms.length - 1) cm, v5, v6] 36 ∧ BagW m0 m1 w' (some ⟨g, 0, none⟩) cm (ms.eraseIdx k) ∧
      w.heap.size ≤ w'.heap.size ∧ (∀ B W, B ≤ q → B ≤ g → Below B W w → Below B W w') ∧ ∀ z, z < w.heap.size → ¬ z = q → ¬ z = g → w'.heap[z]? = w.heap[z]? := by
  obtain ⟨cur, hcur, hn, hcm, hsz, hg0, hg1, hcell, hone⟩ := hb.row
  have hgl : g < w.heap.size := (Array.getElem?_eq_some_iff.1 hcur).1
  have hql := hq.lt
  obtain ⟨w0, hw0⟩ : ∃ w0, w0 = w.alloc (.cells #[.int .i64 0, .int .i64 0, .int .i64 0, .int .i64 0, .int .i64 0, .int .i64 0, .int .i64 0, .int .i64 0, .slice none 0 0] 102) := ⟨_, rfl⟩
  have HB0 : Hid (Below w.heap.size w w0) := by rw [hw0]; exact belA _ _
  have hs0 : Hid (w0.heap.size = w.heap.size + 1) := by rw [Hid, hw0]; simp
  have HR0 : Hid (Wire.Bk w0 w.heap.size #[.int .i64 0, .int .i64 0, .int .i64 0, .int .i64 0, .int .i64 0, .int .i64 0, .int .i64 0, .int .i64 0, .slice none 0 0] 102) := by rw [hw0]; exact Wire.Bk.new _ _ _
  have HQ0 : Hid (Wire.Bk w0 q #[v0, v1, v2, v3, .slice (some ⟨g, 0, none⟩) ms.length cm, v5, v6] 36) := hq.keep HB0.out
  have HG0 : Hid (w0.heap[g]? = some (.cells cur 102 (0, 0))) := (HB0.out.block g hgl).trans hcur
  have HBg : Hid (BagW m0 m1 w (some ⟨g, 0, none⟩) cm ms) := hb
  have HCU : Hid (w.heap[g]? = some (.cells cur 102 (0, 0))) := hcur
  have HQW : Hid (Wire.Bk w q #[v0, v1, v2, v3, .slice (some ⟨g, 0, none⟩) ms.length cm, v5, v6] 36) := hq
  have HON : Hid (∀ j u, j < ms.length * 9 → cur[j]? = some u → u.oneCell' = true) := hone
  obtain ⟨c0, c1, c2, c3, c4, c5, c6, c7, c8⟩ := (((hcell k hk).block (w1 := w0) (HB0.out.block g hgl))).m9
  have hl0 := hl k hk
  generalize hp : ms.getD k mg0 = p at c0 c1 c2 c3 c4 c5 c6 c7 c8 hl0
  have HP : Hid (ms.getD k mg0 = p) := hp
  obtain ⟨x0, x1, x2, x3, x4, x5, x6, x7, l⟩ := p
  have hidx : (k : Int) < (ms.length : Int) := by omega
  have hwr : Hid (IntKind.i64.wrap ((k : Int) + 1) = (k : Int) + 1) := by
    unfold Hid
    rw [IntKind.wrap_i64] <;> omega
  obtain ⟨j0, j1, j2, j3, j4, j5, j6⟩ := Wire.Bk.m7 HQ0.out
  clear hb hq hcur hone hcell hp
  subst hw0
  go_enter Tryz.func62, Tryz.ntmps62
  go_wp2_with fail
  clear c0 c1 c2 c3 c4 c5 c6 c7 c8 j0 j1 j2 j3 j4 j5 j6
  obtain ⟨w1, hw1⟩ : ∃ w1, w1 = (w.alloc (.cells #[.int .i64 0, .int .i64 0, .int .i64 0, .int .i64 0, .int .i64 0, .int .i64 0, .int .i64 0, .int .i64 0, .slice none 0 0] 102)).alloc (.cells #[.int .i64 x0, .int .i64 x1, .int .i64 x2, .int .i64 x3, .int .i64 x4, .int .i64 x5, .int .i64 x6, .int .i64 x7, .slice none 0 0] 102) := ⟨_, rfl⟩
  rw [← hw1]
  have HB1 : Hid (Below w.heap.size w w1) := by rw [hw1]; exact belt (belA _ _) (belA _ _)
  have HS1 : Hid (w1.heap.size = w.heap.size + 2) := by rw [Hid, hw1]; simp
  have HR1 : Hid (Wire.Bk w1 w.heap.size #[.int .i64 0, .int .i64 0, .int .i64 0, .int .i64 0, .int .i64 0, .int .i64 0, .int .i64 0, .int .i64 0, .slice none 0 0] 102) := by rw [hw1]; exact (Wire.Bk.new _ _ _).alloc _
  have HM1 : Hid (Wire.Bk w1 (w.heap.size + 1) #[.int .i64 x0, .int .i64 x1, .int .i64 x2, .int .i64 x3, .int .i64 x4, .int .i64 x5, .int .i64 x6, .int .i64 x7, .slice none 0 0] 102) := by
    have h1 : (w.alloc (.cells #[.int .i64 0, .int .i64 0, .int .i64 0, .int .i64 0, .int .i64 0, .int .i64 0, .int .i64 0, .int .i64 0, .slice none 0 0] 102)).heap.size = w.heap.size + 1 := by simp
    have h2 := Wire.Bk.new (w.alloc (.cells #[.int .i64 0, .int .i64 0, .int .i64 0, .int .i64 0, .int .i64 0, .int .i64 0, .int .i64 0, .int .i64 0, .slice none 0 0] 102)) #[.int .i64 x0, .int .i64 x1, .int .i64 x2, .int .i64 x3, .int .i64 x4, .int .i64 x5, .int .i64 x6, .int .i64 x7, .slice none 0 0] 102
    rw [h1] at h2
    rw [hw1]
    exact h2
  clear hw1
  have hg1 : w1.heap[g]? = some (.cells cur 102 (0, 0)) := (HB1.out.block g hgl).trans HCU.out
  refine (delMsg_any g cm ms.length k cur w1 hg1 hk hn hcm hsz HON.out).mono ?_
  rintro e w2 ⟨rfl, hw2⟩
  have HO2 : Hid (∀ z, ¬ z = g → w2.heap[z]? = w1.heap[z]?) := fun z hz => by rw [hw2]; exact setRow_other _ _ _ _ hz
  have HS2 : Hid (w2.heap.size = w.heap.size + 2) := by rw [Hid, hw2]; have := HS1.out; simp only [World.setRow]; simp; omega
  have HG2 : Hid (w2.heap[g]? = some (.cells (delA cur k ms.length) 102 (0, 0))) := by rw [Hid, hw2]; exact setRow_heap w1.drew _ _ _ _ _ hg1
  have HBW : Hid (∀ B W, B ≤ g → Below B W w1 → Below B W w2) := fun B W h1 h2 => by rw [hw2]; exact below_setRow (h2.drew) h1 _
  have HR2 : Hid (Wire.Bk w2 w.heap.size #[.int .i64 0, .int .i64 0, .int .i64 0, .int .i64 0, .int .i64 0, .int .i64 0, .int .i64 0, .int .i64 0, .slice none 0 0] 102) := (HO2.out _ (by omega)).trans HR1.out
  have HM2 : Hid (Wire.Bk w2 (w.heap.size + 1) #[.int .i64 x0, .int .i64 x1, .int .i64 x2, .int .i64 x3, .int .i64 x4, .int .i64 x5, .int .i64 x6, .int .i64 x7, .slice none 0 0] 102) := (HO2.out _ (by omega)).trans HM1.out
  have HQ2 : Hid (Wire.Bk w2 q #[v0, v1, v2, v3, .slice (some ⟨g, 0, none⟩) ms.length cm, v5, v6] 36) := (HO2.out q hgq).trans ((HQW.out.keep HB1.out))
  clear hw2 hg1 HR1 HM1
  obtain ⟨j0, j1, j2, j3, j4, j5, j6⟩ := Wire.Bk.m7 HQ2.out
  have f4 := HQ2.out.fr 4
  have hq2 := HQ2.out.lt
  have hr2 := HR2.out.lt
  have hm2 := HM2.out.lt
  obtain ⟨m0', m1', m2', m3', m4', m5', m6', m7', m8'⟩ := Wire.Bk.m9 HM2.out
  obtain ⟨r0', r1', r2', r3', r4', r5', r6', r7', r8'⟩ := Wire.Bk.m9 HR2.out
  obtain ⟨f0, f1, f2, f3, f4', f5, f6, f7, f8⟩ := Wire.Bk.g9 HR2.out
  have n1 : ¬ w.heap.size + 1 = q := by omega
  have n2 : ¬ w.heap.size = q := by omega
  go_wp2_with fail
  clear m0' m1' m2' m3' m4' m5' m6' m7' m8' r0' r1' r2' r3' r4' r5' r6' r7' r8' f0 f1 f2 f3 f4' f5 f6 f7 f8 j0 j1 j2 j3 j4 j5 j6 f4
  have hQ3 := HQ2.out.set 4 (.slice (some ⟨g, 0, none⟩) (ms.length - 1) cm)
  have hR3 : Wire.Bk (w2.setCell ⟨q, 4, none⟩ (.slice (some ⟨g, 0, none⟩) (ms.length - 1) cm)) w.heap.size #[.int .i64 0, .int .i64 0, .int .i64 0, .int .i64 0, .int .i64 0, .int .i64 0, .int .i64 0, .int .i64 0, .slice none 0 0] 102 := HR2.out.oth n2 4 _
  have hG3 : (w2.setCell ⟨q, 4, none⟩ (.slice (some ⟨g, 0, none⟩) (ms.length - 1) cm)).heap[g]? = some (.cells (delA cur k ms.length) 102 (0, 0)) := (heap_setCell_other _ _ _ _ (by simpa using fun h => hgq h.symm)).trans HG2.out
  have hO3 : ∀ z, ¬ z = q → (w2.setCell ⟨q, 4, none⟩ (.slice (some ⟨g, 0, none⟩) (ms.length - 1) cm)).heap[z]? = w2.heap[z]? := fun z hz => heap_setCell_other _ _ _ _ (by simpa using hz)
  have hS3 : (w2.setCell ⟨q, 4, none⟩ (.slice (some ⟨g, 0, none⟩) (ms.length - 1) cm)).heap.size = w2.heap.size := by simp [World.setCell]
  have hB3 : ∀ B W, B ≤ q → B ≤ g → Below B W w → Below B W (w2.setCell ⟨q, 4, none⟩ (.slice (some ⟨g, 0, none⟩) (ms.length - 1) cm)) := fun B W h1 h2 h3 => (HBW.out B W h2 (h3.trans (HB1.out.mono (by omega)))).setCell (p := ⟨q, 4, none⟩) h1 _
  generalize w2.setCell ⟨q, 4, none⟩ (.slice (some ⟨g, 0, none⟩) (ms.length - 1) cm) = w3 at *
  have hE := hR3.setL [.int .i64 x0, .int .i64 x1, .int .i64 x2, .int .i64 x3, .int .i64 x4, .int .i64 x5, .int .i64 x6, .int .i64 x7, .slice none 0 0] 0
  rw [ovr9] at hE
  refine bodyPost_ret (w := Wire.setL w3 w.heap.size 0 [.int .i64 x0, .int .i64 x1, .int .i64 x2, .int .i64 x3, .int .i64 x4, .int .i64 x5, .int .i64 x6, .int .i64 x7, .slice none 0 0]) (results_cell_row Tryz.results62 _ _ w.heap.size _ _ _ _ rfl hE Tryz.underlying102 rfl (by kernel_rfl)) rfl ⟨rfl, ?_, ?_, ?_, ?_, ?_⟩
  · exact (Wire.setL_oth (by omega) _ _ _).trans hQ3
  · refine BagW.del HBg.out hk HCU.out ((Wire.setL_oth (by omega) _ _ _).trans hG3)
  · rw [Wire.setL_size, hS3]; have := HS2.out; omega
  · exact fun B W h1 h2 h3 => Wire.setL_below (by omega) _ 0 (hB3 B W h1 h2 h3)
  · intro z hz hzq hzg
    rw [Wire.setL_oth (by omega), hO3 z hzq, HO2.out z hzg]
    exact HB1.out.block z hz
end Go.Proofs.YtdceimnapbblnaaGreat
namespace Go.Proofs.YtdceimnapbblnaaGreat
open Go.RowKit Go.Deep
set_option linter.unusedVariables false
set_option linter.unusedSimpArgs false
theorem own_lit5 (w : World) (t : TypeId) : (w.alloc (.cells #[] t)).ownsRow w.heap.size t 5 (.slice (some ⟨w.heap.size, 0, none⟩) 0 0) 0 [] :=
  World.ownsRow_lit w #[] 0 (Nat.le_refl _) (Nat.zero_le _) rfl
/-- a row of replies owns one block -/
theorem rowR_own1 {w : World} {B n z0 : Nat} {v : Value} {xs : List Value} {rs : List Rp} (h : w.ownsRow B 45 5 v n xs) (hn : rs.length = n) (hm : n ≤ 1048576) (hx : RowR xs rs) (hz : z0 < w.heap.size) :
    ∃ a c z, v = .slice a n c ∧ OwnEs tyRp 45 z (z + 1) w a n rs ∧ (z = z0 ∨ v.ownBlock = some z) ∧ z < w.heap.size := by
  subst hn
  rcases Joins.ownsRow_forms h with ⟨h1, h2⟩ | ⟨g, cap, rfl⟩
  · exact ⟨none, 0, z0, by rw [h1, h2], ⟨rfl, hm, .inl (List.length_eq_zero_iff.1 h2)⟩, .inl rfl, hz⟩
  · obtain ⟨⟨cur, hcur⟩, hc, hb⟩ := owns_cells h
    have hgl : g < w.heap.size := (Array.getElem?_eq_some_iff.1 hcur).1
    by_cases h0 : rs.length = 0
    · exact ⟨_, cap, z0, rfl, ⟨rfl, hm, .inl (List.length_eq_zero_iff.1 h0)⟩, .inl rfl, hz⟩
    refine ⟨_, cap, g, rfl, ⟨rfl, hm, .inr ⟨g, g :: (List.replicate rs.length ([] : List Nat)).flatten, cap, rfl, by simp, ?_⟩⟩, .inr rfl, hgl⟩
    refine ⟨_, cap, rfl, hm, hc, fun hh => (by cases hh), .inr ⟨g, cur, List.replicate rs.length [], rfl, Nat.le_refl _, Nat.lt_succ_self _, hcur, List.length_replicate, rfl, fun i hi => ?_⟩⟩
    have hF : (List.replicate rs.length ([] : List Nat)).getD i [] = [] := rep_get _ _
    rw [hF]
    refine ⟨rpV (rs.getD i rp0), fun j u hj => ?_, rfl, rfl⟩
    have hjl : j < 5 := by have := (List.getElem?_eq_some_iff.1 hj).1; simpa [rpV] using this
    have hlt : i * 5 + j < rs.length * 5 := by
      have : (i + 1) * 5 ≤ rs.length * 5 := Nat.mul_le_mul_right _ hi
      omega
    exact (h.cellAt (i * 5 + j) hlt).trans (hx.el i hi j u hj)
/-- 'append([]Reply{}, rs...)' -/
theorem wp_append_rep {w : World} {o : Oper} {a : Act} {K : Act → World → Prop} {Q : Exit → Act → World → Prop} (s x : Operand)
    (ho : o.op = .call { callee := .builtin .append, args := #[s, x], argTypes := #[34, 34] })
    (Z : Nat) (hs : a.eval s = .slice (some ⟨Z, 0, none⟩) 0 0) (hown : w.ownsRow Z 45 5 (.slice (some ⟨Z, 0, none⟩) 0 0) 0 []) (hzl : Z < w.heap.size)
    (ar : Option Addr) (cr : Nat) (rs : List Rp) (hx : a.eval x = .slice ar rs.length cr) (hr : LsAt tyRp w ar rs) (hcr : ar = none → cr = 0) (hrl : rs.length ≤ 1048576)
    (h : ∀ aA cA w' z, OwnEs tyRp 45 z (z + 1) w' aA rs.length rs → (z = Z ∨ w.heap.size ≤ z) → z < w'.heap.size → (∀ k, k < w.heap.size → ¬ k = Z → w'.heap[k]? = w.heap[k]?) → Gw w w' (.slice (some ⟨Z, 0, none⟩) 0 0) (.slice aA rs.length cA) → K (a.put o.dst (.slice aA rs.length cA)) w') : o.wp Tryz.prog a w K Q := by
  obtain ⟨i0, hi, hz0, hz1, hz2⟩ := info_replyE
  cases ar with
  | none =>
    have he : rs = [] := lsAt_none hr
    have hc := hcr rfl
    subst he hc
    exact wp_append_none _ _ 34 ho Z 45 i0 5 Tryz.underlying34 hi _ 0 [] hs hown hx (h _ _ w Z (ownEs_nil _ _ _ _ _ _) (.inl rfl) hzl (fun _ _ _ => rfl) (Gw.refl _ _))
  | some ad =>
    obtain ⟨xs, hrow, hcell, hone⟩ := reps_src hr
    refine wp_append_gw _ _ _ 34 ho Z 45 i0 _ 5 40 Tryz.underlying34 hi hz0 hz1 hz2 rfl (by decide) _ 0 [] hs hown ad rs.length cr xs hx hrow.len hcell hone (by unfold maxLen; omega) (by omega) (by omega) ?_
    intro v5 w5 hw hg
    rw [Nat.zero_add, List.nil_append] at hw
    have hsz := hg.size
    obtain ⟨aA, cA, z, rfl, ho1, ho2, ho3⟩ := rowR_own1 (z0 := Z) hw rfl (by omega) hrow (by omega)
    refine h aA cA w5 z ho1 ?_ ho3 (fun k h1 h2 => hg.block k h1 (by simp [Value.ownBlock]; omega)) hg
    rcases ho2 with h2 | h2
    · exact .inl h2
    · rcases hg.own with h3 | h3
      · rw [h3] at h2; simp [Value.ownBlock] at h2; exact .inl h2.symm
      · exact .inr (h3 z h2)
/-- the copy: peers, looks and replies in memory of their own -/
structure CS (w0 wc : World) (X p0 p1 g0 g1 z : Nat) (av gv rv : Option Addr) (b d ttl : Int) (ps : List Pr) (gs : List Int) (rs : List Rp) (cp cg cr : Nat) (vb : Value) : Prop where
  bel : Below w0.heap.size w0 wc
  bx : Wire.Bk wc X #[.int .i64 b, .int .i64 d, .slice av ps.length cp, .int .i64 ttl, vb, .slice gv gs.length cg, .slice rv rs.length cr] 36
  num : w0.heap.size ≤ X ∧ w0.heap.size ≤ p0 ∧ p0 ≤ p1 ∧ p1 ≤ wc.heap.size ∧ w0.heap.size ≤ g0 ∧ g0 ≤ g1 ∧ g1 ≤ wc.heap.size ∧ w0.heap.size ≤ z ∧ z < wc.heap.size ∧ (X < p0 ∨ p1 ≤ X) ∧ (X < g0 ∨ g1 ≤ X) ∧ (p1 ≤ g0 ∨ g1 ≤ p0) ∧ (z < p0 ∨ p1 ≤ z) ∧ (z < g0 ∨ g1 ≤ z) ∧ ¬ z = X
  op : OwnPs p0 p1 wc av ps.length ps
  og : OwnLs g0 g1 wc gv gs.length gs
  orr : OwnEs tyRp 45 z (z + 1) wc rv rs.length rs
  cgl : gs.length ≤ cg
theorem CS.keep {w0 wc w1 : World} {X p0 p1 g0 g1 z : Nat} {av gv rv : Option Addr} {b d ttl : Int} {ps : List Pr} {gs : List Int} {rs : List Rp} {cp cg cr : Nat} {vb : Value} (h : CS w0 wc X p0 p1 g0 g1 z av gv rv b d ttl ps gs rs cp cg cr vb) (hb : Below wc.heap.size wc w1) : CS w0 w1 X p0 p1 g0 g1 z av gv rv b d ttl ps gs rs cp cg cr vb :=
  ⟨belt h.bel hb, h.bx.keep hb, by have := h.num; have := hb.size; omega, h.op.keep hb, h.og.keep hb, h.orr.keep hb, h.cgl⟩
theorem CS.setb {w0 wc : World} {X p0 p1 g0 g1 z : Nat} {av gv rv : Option Addr} {b d ttl : Int} {ps : List Pr} {gs : List Int} {rs : List Rp} {cp cg cr : Nat} {vb : Value} (h : CS w0 wc X p0 p1 g0 g1 z av gv rv b d ttl ps gs rs cp cg cr vb) (v : Value) : CS w0 (wc.setCell ⟨X, 4, none⟩ v) X p0 p1 g0 g1 z av gv rv b d ttl ps gs rs cp cg cr v := by
  have hn := h.num
  exact ⟨h.bel.setCell (p := ⟨X, 4, none⟩) hn.1 v, h.bx.set 4 v, by simpa [World.setCell] using hn, h.op.blocks (fun k h1 h2 _ => heap_setCell_other _ _ _ _ (by simp; omega)), h.og.blocks (fun k h1 h2 _ => heap_setCell_other _ _ _ _ (by simp; omega)), h.orr.blocks (fun k h1 h2 _ => heap_setCell_other _ _ _ _ (by simp; omega)), h.cgl⟩
theorem CS.blk {w0 wc w1 : World} {X p0 p1 g0 g1 z : Nat} {av gv rv : Option Addr} {b d ttl : Int} {ps : List Pr} {gs : List Int} {rs : List Rp} {cp cg cr : Nat} {vb : Value} (h : CS w0 wc X p0 p1 g0 g1 z av gv rv b d ttl ps gs rs cp cg cr vb) (T : Nat) (hT : X < T ∧ p1 ≤ T ∧ g1 ≤ T ∧ z < T ∧ w0.heap.size ≤ T ∧ T ≤ wc.heap.size) (hb : Below w0.heap.size w0 w1) (hs : wc.heap.size ≤ w1.heap.size) (ho : ∀ k, k < T → w1.heap[k]? = wc.heap[k]?) : CS w0 w1 X p0 p1 g0 g1 z av gv rv b d ttl ps gs rs cp cg cr vb :=
  ⟨hb, (ho X (by omega)).trans h.bx, by have := h.num; omega, h.op.blocks (fun k h1 h2 _ => ho k (by omega)), h.og.blocks (fun k h1 h2 _ => ho k (by omega)), h.orr.blocks (fun k h1 h2 _ => ho k (by omega)), h.cgl⟩
end Go.Proofs.YtdceimnapbblnaaGreat
