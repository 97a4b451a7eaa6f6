/- slices.Delete at messages: one of them goes. The program takes a message out of a bag. slices.Insert of one number into a row that is full. slices.Insert of one number into a row that is full: the walk. A region that draws its order, whose operations but the last leave the class of worlds, and whose last one waits for all of them (a store): the last one is run behind the others. A region that draws its order, held, whose last operation waits for all the others (a store into a cell that earlier ones read): the last one stands apart. A region that draws its order, held, whose last operation waits for all the others, for some through others. DigitsOf of the program: the row of digits, copied into new memory. Ways through the ring: what is asked, the next digit, who stands for a number, where a walk begins. Ways through the ring: where a walk begins. The program begins a look in a net that it copied. May a look be begun? -/
import Derived.Lib.AppendZerosOnto
import Derived.ArgAppend
import Derived.Deep.RegionLaw
import Derived.Deep.RegionHeld
import Derived.Deep.DeepCutAuto
import Derived.Test.YtdceimnapbblnaaGreatZ0
import Derived.Test.YtdceimnapbblnaaGreatZ1
import Derived.Test.YtdceimnapbblnaaGreatZ2
import Derived.Test.YtdceimnapbblnaaGreatZ3
import Derived.Test.YtdceimnapbblnaaGreatZ4
import Derived.Test.YtdceimnapbblnaaGreatZ5
import Derived.Test.YtdceimnapbblnaaGreatZ6
namespace Go.Proofs.YtdceimnapbblnaaGreat
open Go.RowKit Go.Deep
set_option linter.unusedVariables false
set_option linter.unusedSimpArgs false
theorem zero_msg : ∀ w, (zeroValue 102).run Tryz.prog w = .ok (.agg #[.int .i64 0, .int .i64 0, .int .i64 0, .int .i64 0, .int .i64 0, .int .i64 0, .int .i64 0, .int .i64 0, .slice none 0 0]) w := fun w => by
  obtain ⟨i0, hi, hz0, _⟩ := info_msgE
  simp [zeroValue, typeInfo, hi, hz0]
def mz9 : List Value := [.int .i64 0, .int .i64 0, .int .i64 0, .int .i64 0, .int .i64 0, .int .i64 0, .int .i64 0, .int .i64 0, .slice none 0 0]
theorem mz9_cells : (Builtin.zeroCells (Value.agg #[.int .i64 0, .int .i64 0, .int .i64 0, .int .i64 0, .int .i64 0, .int .i64 0, .int .i64 0, .int .i64 0, .slice none 0 0]).cells 1).toList = mz9 := by kernel_rfl
theorem mz9_one : ∀ u ∈ mz9, u.oneCell' = true := by
  intro u hu
  simp [mz9] at hu
  rcases hu with rfl | rfl <;> rfl
/-- one array without nine of its cells, the last nine zero -/
def delA (cur : Array Value) (k n : Nat) : Array Value :=
  let A := (cur.toList.take (k * 9) ++ ((cur.toList.drop ((k + 1) * 9)).take ((n - (k + 1)) * 9)) ++ cur.toList.drop (k * 9 + (n - (k + 1)) * 9)).toArray
  (A.toList.take ((n - 1) * 9) ++ mz9 ++ A.toList.drop ((n - 1) * 9 + 9)).toArray
set_option maxRecDepth 100000 in
set_option maxHeartbeats 4000000 in
theorem delMsg_any (g cap n k : Nat) (cur : Array Value) (w : World) (hg : w.heap[g]? = some (.cells cur 102 (0, 0))) (hk : k < n) (hcap : n ≤ cap) (hcm : cap ≤ 9223372036854775807) (hfit : cap * 9 = cur.size) (h1 : ∀ j u, j < n * 9 → cur[j]? = some u → u.oneCell' = true) :
    Calls Tryz.prog 127 #[.slice (some ⟨g, 0, none⟩) n cap, .int .i64 k, .int .i64 (k + 1)] w fun e w' => e = .returned (.slice (some ⟨g, 0, none⟩) (n - 1) cap) ∧ w' = w.drew.setRow g (delA cur k n) := by
  obtain ⟨i0, hi, hz0, hz1, hz2⟩ := info_msgE
  obtain ⟨news, hnews⟩ : ∃ news, news = (cur.toList.drop ((k + 1) * 9)).take ((n - (k + 1)) * 9) := ⟨_, rfl⟩
  have hm9 : (k + 1) * 9 + (n - (k + 1)) * 9 = n * 9 := by rw [← Nat.add_mul]; congr 1; omega
  have hn9 : n * 9 ≤ cur.size := by rw [← hfit]; exact Nat.mul_le_mul_right _ hcap
  have hlen : news.length = (n - (k + 1)) * 9 := by
    rw [hnews, List.length_take, List.length_drop, Array.length_toList]; omega
  have hget : ∀ t u, news[t]? = some u → t < (n - (k + 1)) * 9 ∧ cur[(k + 1) * 9 + t]? = some u := by
    intro t u hu
    have ht := (List.getElem?_eq_some_iff.1 hu).1
    rw [hlen] at ht
    refine ⟨ht, ?_⟩
    rw [hnews, List.getElem?_take_of_lt ht, List.getElem?_drop, Array.getElem?_toList] at hu
    exact hu
  obtain ⟨A, hA, hsrc⟩ : ∃ A : Addr, (if cap = k + 1 then some (⟨g, 0, none⟩ : Addr) else some ⟨g, (k + 1) * 9, none⟩) = some A ∧ Hid (∀ t u, news[t]? = some u → w.drew.cell? (A.add t) = some u) := by
    by_cases h : cap = k + 1
    · refine ⟨⟨g, 0, none⟩, by simp [h], fun t u hu => ?_⟩
      obtain ⟨ht, _⟩ := hget t u hu
      omega
    · refine ⟨⟨g, (k + 1) * 9, none⟩, by simp [h], fun t u hu => ?_⟩
      rw [add_none']
      exact (cell_of_row w.drew _ _ _ _ _ hg).trans (hget t u hu).2
  have s1 : Hid (news.length = (n - (k + 1)) * 9) := hlen
  have s2 : Hid (∀ u ∈ news, u.oneCell' = true) := fun u hu => by
    obtain ⟨t, ht, rfl⟩ := List.getElem_of_mem hu
    obtain ⟨h2, h3⟩ := hget t _ (List.getElem?_eq_getElem ht)
    exact h1 _ _ (by omega) h3
  have s3 : Hid (k * 9 + news.length ≤ cur.size) := by rw [Hid, hlen]; omega
  have s4 : Hid (w.drew.heap[g]? = some (.cells cur 102 (0, 0))) := hg
  obtain ⟨A1, hA1⟩ : ∃ A1, A1 = (cur.toList.take (k * 9) ++ news ++ cur.toList.drop (k * 9 + news.length)).toArray := ⟨_, rfl⟩
  obtain ⟨W1, hW1⟩ : ∃ W1, W1 = w.drew.setRow g A1 := ⟨_, rfl⟩
  have hg1 : W1.heap[g]? = some (.cells A1 102 (0, 0)) := by rw [hW1]; exact setRow_heap _ _ _ _ _ _ s4.out
  have hs1 : A1.size = cur.size := by
    rw [hA1]; simp only [List.size_toArray, List.length_append, List.length_take, List.length_drop, Array.length_toList]; have := s3.out; omega
  have hcl : ∀ ty, (Builtin.clear_ #[33] ty #[.slice (some ⟨g, (k + (n - (k + 1))) * 9, none⟩) (n - (k + (n - (k + 1)))) (cap - (k + (n - (k + 1))))]).run Tryz.prog W1 = .ok (.tuple #[]) (W1.setRow g (delA cur k n)) := fun ty => by
    have e1 : k + (n - (k + 1)) = n - 1 := by omega
    have e2 : n - (n - 1) = 1 := by omega
    rw [e1, e2, run_clear_row (P := Tryz.prog) W1 _ 102 ty _ Tryz.underlying33 zero_msg g ((n - 1) * 9) 1 _ (by omega) A1 102 hg1 mz9 mz9_cells mz9_one (by rw [hs1]; show (n - 1) * 9 + 9 ≤ _; omega)]
    congr 2
    unfold delA
    rw [hA1, hlen, ← hnews]
    rfl
  have hW : Hid (W1 = w.drew.setRow g A1) := hW1
  have hAA : Hid (A1 = (cur.toList.take (k * 9) ++ news ++ cur.toList.drop (k * 9 + news.length)).toArray) := hA1
  have hkc : k ≤ cap := by omega
  have hk5 : (0 : Int) ≤ (k : Int) + 1 := by omega
  have hk6 : (k : Int) + 1 ≤ (n : Int) := by omega
  have hkc1 : k + 1 ≤ cap := by omega
  clear hW1 hA1 hget hnews hlen hg hg1 hs1 h1 hfit hn9 hm9
  go_enter Tryz.func127, Tryz.ntmps127
  go_wp2_with fail
  go_region_law (refine step_append_row rfl (.tmp 22) (.tmp 25) 33 rfl 102 i0 9 Tryz.underlying33 hi hz1 g k cap cur (by simp [Act.eval, Act.put]) s4.out A (n - (k + 1)) (cap - (k + 1)) news (by simp [Act.eval, Act.put]) s1.out hsrc.out s2.out (by omega) s3.out ?_; rw [← hAA.out, ← hW.out])
  go_wp2
  go_ret
  have hN : n - 1 = k + (n - (k + 1)) := by omega
  rw [hN]
  refine ⟨rfl, ?_⟩
  rw [hW.out, setRow_setRow]
end Go.Proofs.YtdceimnapbblnaaGreat
namespace Go.Proofs.YtdceimnapbblnaaGreat
open Go.RowKit Go.Deep
set_option linter.unusedVariables false
set_option linter.unusedSimpArgs false
theorem Wire.Bk.m9 {w : World} {g : Nat} {e0 e1 e2 e3 e4 e5 e6 e7 e8 : Value} {T : TypeId} (h : Wire.Bk w g #[e0, e1, e2, e3, e4, e5, e6, e7, e8] T) : w.cell? ⟨g, 0, none⟩ = some e0 ∧ w.cell? ⟨g, 1, none⟩ = some e1 ∧ w.cell? ⟨g, 2, none⟩ = some e2 ∧ w.cell? ⟨g, 3, none⟩ = some e3 ∧ w.cell? ⟨g, 4, none⟩ = some e4 ∧ w.cell? ⟨g, 5, none⟩ = some e5 ∧ w.cell? ⟨g, 6, none⟩ = some e6 ∧ w.cell? ⟨g, 7, none⟩ = some e7 ∧ w.cell? ⟨g, 8, none⟩ = some e8 := ⟨h.cell 0, h.cell 1, h.cell 2, h.cell 3, h.cell 4, h.cell 5, h.cell 6, h.cell 7, h.cell 8⟩
theorem Wire.Bk.g9 {w : World} {g : Nat} {C : Array Value} {T : TypeId} (h : Wire.Bk w g C T) : w.frozen? ⟨g, 0, none⟩ = false ∧ w.frozen? ⟨g, 1, none⟩ = false ∧ w.frozen? ⟨g, 2, none⟩ = false ∧ w.frozen? ⟨g, 3, none⟩ = false ∧ w.frozen? ⟨g, 4, none⟩ = false ∧ w.frozen? ⟨g, 5, none⟩ = false ∧ w.frozen? ⟨g, 6, none⟩ = false ∧ w.frozen? ⟨g, 7, none⟩ = false ∧ w.frozen? ⟨g, 8, none⟩ = false := ⟨h.fr 0, h.fr 1, h.fr 2, h.fr 3, h.fr 4, h.fr 5, h.fr 6, h.fr 7, h.fr 8⟩
theorem ovr9 (a0 a1 a2 a3 a4 a5 a6 a7 a8 b0 b1 b2 b3 b4 b5 b6 b7 b8 : Value) : Wire.ovr #[a0, a1, a2, a3, a4, a5, a6, a7, a8] 0 [b0, b1, b2, b3, b4, b5, b6, b7, b8] = #[b0, b1, b2, b3, b4, b5, b6, b7, b8] := by simp [Wire.ovr]
theorem delA_size {cur : Array Value} {k n : Nat} (hk : k < n) (hn : n * 9 ≤ cur.size) : (delA cur k n).size = cur.size := by
  have hm9 : (k + 1) * 9 + (n - (k + 1)) * 9 = n * 9 := by rw [← Nat.add_mul]; congr 1; omega
  have : mz9.length = 9 := rfl
  unfold delA
  simp only [List.size_toArray, List.length_append, List.length_take, List.length_drop, Array.length_toList]
  omega
theorem delA_get {cur : Array Value} {k n t : Nat} (hk : k < n) (hn : n * 9 ≤ cur.size) (ht : t < (n - 1) * 9) : (delA cur k n)[t]? = if t < k * 9 then cur[t]? else cur[t + 9]? := by
  have hm9 : (k + 1) * 9 + (n - (k + 1)) * 9 = n * 9 := by rw [← Nat.add_mul]; congr 1; omega
  have hlen : ((cur.toList.drop ((k + 1) * 9)).take ((n - (k + 1)) * 9)).length = (n - (k + 1)) * 9 := by
    rw [List.length_take, List.length_drop, Array.length_toList]; omega
  have hl1 : (cur.toList.take (k * 9)).length = k * 9 := by rw [List.length_take, Array.length_toList]; omega
  unfold delA
  rw [List.getElem?_toArray, List.append_assoc, List.getElem?_append_left (by simp only [List.length_take, List.length_append, List.length_drop, Array.length_toList]; omega), List.getElem?_take_of_lt ht]
  show (cur.toList.take (k * 9) ++ ((cur.toList.drop ((k + 1) * 9)).take ((n - (k + 1)) * 9)) ++ cur.toList.drop (k * 9 + (n - (k + 1)) * 9))[t]? = _
  rw [List.append_assoc]
  by_cases h : t < k * 9
  · rw [if_pos h, List.getElem?_append_left (by omega), List.getElem?_take_of_lt h, Array.getElem?_toList]
  · rw [if_neg h, List.getElem?_append_right (by omega), hl1, List.getElem?_append_left (by rw [hlen]; omega), List.getElem?_take_of_lt (by omega), List.getElem?_drop, Array.getElem?_toList]
    congr 1
    omega
theorem BagW.del {m0 m1 g cm k : Nat} {w w' : World} {ms : List Mg} {cur : Array Value} (h : BagW m0 m1 w (some ⟨g, 0, none⟩) cm ms) (hk : k < ms.length) (hg : w.heap[g]? = some (.cells cur 102 (0, 0))) (hg' : w'.heap[g]? = some (.cells (delA cur k ms.length) 102 (0, 0))) :
    BagW m0 m1 w' (some ⟨g, 0, none⟩) cm (ms.eraseIdx k) := by
  obtain ⟨zs, h1, hx, h3⟩ := h
  obtain ⟨hzl, ⟨h', _⟩ | ⟨g', cap', cur', h', hb, hc', hn, hcm, hsz, htk⟩⟩ := h1
  · simp at h'
  simp only [Value.slice.injEq, Option.some.injEq, Addr.mk.injEq, and_true, true_and] at h'
  obtain ⟨rfl, rfl⟩ := h'
  rw [hg] at hc'
  simp only [Option.some.injEq, Obj.cells.injEq, and_true] at hc'
  obtain rfl := hc'
  have hn9 : ms.length * 9 ≤ cur.size := by rw [hsz]; exact Nat.mul_le_mul_right _ hn
  have hlen : (ms.eraseIdx k).length = ms.length - 1 := List.length_eraseIdx_of_lt hk
  have hdl : (delA cur k ms.length).toList.length = cur.size := Array.length_toList.trans (delA_size hk hn9)
  refine ⟨(delA cur k ms.length).toList.take ((ms.length - 1) * 9), ⟨?_, .inr ⟨g, cm, _, rfl, hb, hg', by omega, hcm, by rw [delA_size hk hn9, hsz], by rw [hlen]⟩⟩, ⟨?_, fun i hi => ?_⟩, fun z hz => h3 z hz⟩
  · rw [hlen, List.length_take, hdl]; omega
  · rw [hlen, List.length_take, hdl]; omega
  rw [hlen] at hi
  have hi9 : (i + 1) * 9 ≤ (ms.length - 1) * 9 := Nat.mul_le_mul_right _ hi
  refine ⟨.slice none 0 0, fun j v hj => ?_, fun _ => rfl⟩
  have hjl : j < 9 := by have := (List.getElem?_eq_some_iff.1 hj).1; simpa [mgV] using this
  rw [List.getElem?_take_of_lt (by omega), Array.getElem?_toList, delA_get hk hn9 (by omega)]
  have old : ∀ q, q < ms.length → (mgV (ms.getD q mg0) (.slice none 0 0))[j]? = some v → cur[q * 9 + j]? = some v := fun q hq hv => by
    obtain ⟨s, e1, e2⟩ := hx.el q hq
    rw [e2 hq] at e1
    have hq9 : (q + 1) * 9 ≤ ms.length * 9 := Nat.mul_le_mul_right _ hq
    have := e1 j v hv
    rw [← htk, List.getElem?_take_of_lt (by omega), Array.getElem?_toList] at this
    exact this
  rw [eraseIdx_getD] at hj
  by_cases hik : i < k
  · have : (i + 1) * 9 ≤ k * 9 := Nat.mul_le_mul_right _ hik
    rw [if_pos hik] at hj
    rw [if_pos (by omega)]
    exact old i (by omega) hj
  · have : k * 9 ≤ i * 9 := Nat.mul_le_mul_right _ (by omega)
    rw [if_neg hik] at hj
    rw [if_neg (by omega)]
    have := old (i + 1) (by omega) hj
    rw [show i * 9 + j + 9 = (i + 1) * 9 + j from by omega]
    exact this
/-- what is known of a bag's block -/
theorem BagW.row {m0 m1 g cm : Nat} {w : World} {ms : List Mg} (h : BagW m0 m1 w (some ⟨g, 0, none⟩) cm ms) : ∃ cur, w.heap[g]? = some (.cells cur 102 (0, 0)) ∧ ms.length ≤ cm ∧ cm ≤ 9223372036854775807 ∧ cm * 9 = cur.size ∧ m0 ≤ g ∧ g < m1 ∧ (∀ i, i < ms.length → CellsAt w g (i * 9) (mgV (ms.getD i mg0) (.slice none 0 0))) ∧ ∀ j u, j < ms.length * 9 → cur[j]? = some u → u.oneCell' = true := by
  obtain ⟨zs, h1, hx, h3⟩ := h
  have hown := h1
  obtain ⟨hzl, ⟨h', _⟩ | ⟨g', cap', cur, h', hb, hc', hn, hcm, hsz, htk⟩⟩ := h1
  · simp at h'
  simp only [Value.slice.injEq, Option.some.injEq, Addr.mk.injEq, and_true, true_and] at h'
  obtain ⟨rfl, rfl⟩ := h'
  have hcell : ∀ i, i < ms.length → ∀ j v, (mgV (ms.getD i mg0) (.slice none 0 0))[j]? = some v → cur[i * 9 + j]? = some v := fun i hi j v hj => by
    obtain ⟨s, e1, e2⟩ := hx.el i hi
    rw [e2 hi] at e1
    have hjl : j < 9 := by have := (List.getElem?_eq_some_iff.1 hj).1; simpa [mgV] using this
    have hq9 : (i + 1) * 9 ≤ ms.length * 9 := Nat.mul_le_mul_right _ hi
    have := e1 j v hj
    rw [← htk, List.getElem?_take_of_lt (by omega), Array.getElem?_toList] at this
    exact this
  refine ⟨cur, hc', hn, by unfold maxLen at hcm; omega, hsz.symm, hb, h3 g rfl, fun i hi j v hj => (cell_of_row w _ _ _ _ _ hc').trans (hcell i hi j v hj), fun j u hj hu => ?_⟩
  have e0 : j = j / 9 * 9 + j % 9 := by omega
  have hm : j % 9 < 9 := by omega
  have hj9 : j / 9 < ms.length := by omega
  have hex : ∃ v, (mgV (ms.getD (j / 9) mg0) (.slice none 0 0))[j % 9]? = some v := by
    rw [List.getElem?_eq_getElem (by simpa [mgV] using hm)]
    exact ⟨_, rfl⟩
  obtain ⟨v, hv⟩ := hex
  have h4 := hcell _ hj9 _ _ hv
  rw [← e0, hu] at h4
  simp only [Option.some.injEq] at h4
  subst h4
  have hmem := List.mem_of_getElem? hv
  simp [mgV] at hmem
  rcases hmem with rfl | rfl | rfl | rfl | rfl | rfl | rfl | rfl | rfl <;> rfl
set_option maxRecDepth 100000 in
set_option maxHeartbeats 6400000 in
theorem take_any (q g cm k m0 m1 : Nat) (v0 v1 v2 v3 v5 v6 : Value) (ms : List Mg) (w : World) (hq : Wire.Bk w q #[v0, v1, v2, v3, .slice (some ⟨g, 0, none⟩) ms.length cm, v5, v6] 36) (hb : BagW m0 m1 w (some ⟨g, 0, none⟩) cm ms) (hk : k < ms.length) (hm : ms.length ≤ 1048576) (hgq : ¬ q = g) (hl : ∀ i, i < ms.length → (ms.getD i mg0).l = []) :
    Calls Tryz.prog 62 #[.pointer (some ⟨q, 0, none⟩), .int .i64 k] w fun e w' => e = .returned (.agg (mgV (ms.getD k mg0) (.slice none 0 0)).toArray) ∧ Wire.Bk w' q #[v0, v1, v2, v3, .slice (some ⟨g, 0, none⟩) (ms.length - 1) cm, v5, v6] 36 ∧ BagW m0 m1 w' (some ⟨g, 0, none⟩) cm (ms.eraseIdx k) ∧
      w.heap.size ≤ w'.heap.size ∧ (∀ B W, B ≤ q → B ≤ g → Below B W w → Below B W w') ∧ ∀ z, z < w.heap.size → ¬ z = q → ¬ z = g → w'.heap[z]? = w.heap[z]? := by
  obtain ⟨cur, hcur, hn, hcm, hsz, hg0, hg1, hcell, hone⟩ := hb.row
  have hgl : g < w.heap.size := (Array.getElem?_eq_some_iff.1 hcur).1
  have hql := hq.lt
  obtain ⟨w0, hw0⟩ : ∃ w0, w0 = w.alloc (.cells #[.int .i64 0, .int .i64 0, .int .i64 0, .int .i64 0, .int .i64 0, .int .i64 0, .int .i64 0, .int .i64 0, .slice none 0 0] 102) := ⟨_, rfl⟩
  have HB0 : Hid (Below w.heap.size w w0) := by rw [hw0]; exact belA _ _
  have hs0 : Hid (w0.heap.size = w.heap.size + 1) := by rw [Hid, hw0]; simp
  have HR0 : Hid (Wire.Bk w0 w.heap.size #[.int .i64 0, .int .i64 0, .int .i64 0, .int .i64 0, .int .i64 0, .int .i64 0, .int .i64 0, .int .i64 0, .slice none 0 0] 102) := by rw [hw0]; exact Wire.Bk.new _ _ _
  have HQ0 : Hid (Wire.Bk w0 q #[v0, v1, v2, v3, .slice (some ⟨g, 0, none⟩) ms.length cm, v5, v6] 36) := hq.keep HB0.out
  have HG0 : Hid (w0.heap[g]? = some (.cells cur 102 (0, 0))) := (HB0.out.block g hgl).trans hcur
  have HBg : Hid (BagW m0 m1 w (some ⟨g, 0, none⟩) cm ms) := hb
  have HCU : Hid (w.heap[g]? = some (.cells cur 102 (0, 0))) := hcur
  have HQW : Hid (Wire.Bk w q #[v0, v1, v2, v3, .slice (some ⟨g, 0, none⟩) ms.length cm, v5, v6] 36) := hq
  have HON : Hid (∀ j u, j < ms.length * 9 → cur[j]? = some u → u.oneCell' = true) := hone
  obtain ⟨c0, c1, c2, c3, c4, c5, c6, c7, c8⟩ := (((hcell k hk).block (w1 := w0) (HB0.out.block g hgl))).m9
  have hl0 := hl k hk
  generalize hp : ms.getD k mg0 = p at c0 c1 c2 c3 c4 c5 c6 c7 c8 hl0
  have HP : Hid (ms.getD k mg0 = p) := hp
  obtain ⟨x0, x1, x2, x3, x4, x5, x6, x7, l⟩ := p
  have hidx : (k : Int) < (ms.length : Int) := by omega
  have hwr : Hid (IntKind.i64.wrap ((k : Int) + 1) = (k : Int) + 1) := by
    unfold Hid
    rw [IntKind.wrap_i64] <;> omega
  obtain ⟨j0, j1, j2, j3, j4, j5, j6⟩ := Wire.Bk.m7 HQ0.out
  clear hb hq hcur hone hcell hp
  subst hw0
  go_enter Tryz.func62, Tryz.ntmps62
  go_wp2_with fail
  clear c0 c1 c2 c3 c4 c5 c6 c7 c8 j0 j1 j2 j3 j4 j5 j6
  obtain ⟨w1, hw1⟩ : ∃ w1, w1 = (w.alloc (.cells #[.int .i64 0, .int .i64 0, .int .i64 0, .int .i64 0, .int .i64 0, .int .i64 0, .int .i64 0, .int .i64 0, .slice none 0 0] 102)).alloc (.cells #[.int .i64 x0, .int .i64 x1, .int .i64 x2, .int .i64 x3, .int .i64 x4, .int .i64 x5, .int .i64 x6, .int .i64 x7, .slice none 0 0] 102) := ⟨_, rfl⟩
  rw [← hw1]
  have HB1 : Hid (Below w.heap.size w w1) := by rw [hw1]; exact belt (belA _ _) (belA _ _)
  have HS1 : Hid (w1.heap.size = w.heap.size + 2) := by rw [Hid, hw1]; simp
  have HR1 : Hid (Wire.Bk w1 w.heap.size #[.int .i64 0, .int .i64 0, .int .i64 0, .int .i64 0, .int .i64 0, .int .i64 0, .int .i64 0, .int .i64 0, .slice none 0 0] 102) := by rw [hw1]; exact (Wire.Bk.new _ _ _).alloc _
  have HM1 : Hid (Wire.Bk w1 (w.heap.size + 1) #[.int .i64 x0, .int .i64 x1, .int .i64 x2, .int .i64 x3, .int .i64 x4, .int .i64 x5, .int .i64 x6, .int .i64 x7, .slice none 0 0] 102) := by
    have h1 : (w.alloc (.cells #[.int .i64 0, .int .i64 0, .int .i64 0, .int .i64 0, .int .i64 0, .int .i64 0, .int .i64 0, .int .i64 0, .slice none 0 0] 102)).heap.size = w.heap.size + 1 := by simp
    have h2 := Wire.Bk.new (w.alloc (.cells #[.int .i64 0, .int .i64 0, .int .i64 0, .int .i64 0, .int .i64 0, .int .i64 0, .int .i64 0, .int .i64 0, .slice none 0 0] 102)) #[.int .i64 x0, .int .i64 x1, .int .i64 x2, .int .i64 x3, .int .i64 x4, .int .i64 x5, .int .i64 x6, .int .i64 x7, .slice none 0 0] 102
    rw [h1] at h2
    rw [hw1]
    exact h2
  clear hw1
  have hg1 : w1.heap[g]? = some (.cells cur 102 (0, 0)) := (HB1.out.block g hgl).trans HCU.out
  refine (delMsg_any g cm ms.length k cur w1 hg1 hk hn hcm hsz HON.out).mono ?_
  rintro e w2 ⟨rfl, hw2⟩
  have HO2 : Hid (∀ z, ¬ z = g → w2.heap[z]? = w1.heap[z]?) := fun z hz => by rw [hw2]; exact setRow_other _ _ _ _ hz
  have HS2 : Hid (w2.heap.size = w.heap.size + 2) := by rw [Hid, hw2]; have := HS1.out; simp only [World.setRow]; simp; omega
  have HG2 : Hid (w2.heap[g]? = some (.cells (delA cur k ms.length) 102 (0, 0))) := by rw [Hid, hw2]; exact setRow_heap w1.drew _ _ _ _ _ hg1
  have HBW : Hid (∀ B W, B ≤ g → Below B W w1 → Below B W w2) := fun B W h1 h2 => by rw [hw2]; exact below_setRow (h2.drew) h1 _
  have HR2 : Hid (Wire.Bk w2 w.heap.size #[.int .i64 0, .int .i64 0, .int .i64 0, .int .i64 0, .int .i64 0, .int .i64 0, .int .i64 0, .int .i64 0, .slice none 0 0] 102) := (HO2.out _ (by omega)).trans HR1.out
  have HM2 : Hid (Wire.Bk w2 (w.heap.size + 1) #[.int .i64 x0, .int .i64 x1, .int .i64 x2, .int .i64 x3, .int .i64 x4, .int .i64 x5, .int .i64 x6, .int .i64 x7, .slice none 0 0] 102) := (HO2.out _ (by omega)).trans HM1.out
  have HQ2 : Hid (Wire.Bk w2 q #[v0, v1, v2, v3, .slice (some ⟨g, 0, none⟩) ms.length cm, v5, v6] 36) := (HO2.out q hgq).trans ((HQW.out.keep HB1.out))
  clear hw2 hg1 HR1 HM1
  obtain ⟨j0, j1, j2, j3, j4, j5, j6⟩ := Wire.Bk.m7 HQ2.out
  have f4 := HQ2.out.fr 4
  have hq2 := HQ2.out.lt
  have hr2 := HR2.out.lt
  have hm2 := HM2.out.lt
  obtain ⟨m0', m1', m2', m3', m4', m5', m6', m7', m8'⟩ := Wire.Bk.m9 HM2.out
  obtain ⟨r0', r1', r2', r3', r4', r5', r6', r7', r8'⟩ := Wire.Bk.m9 HR2.out
  obtain ⟨f0, f1, f2, f3, f4', f5, f6, f7, f8⟩ := Wire.Bk.g9 HR2.out
  have n1 : ¬ w.heap.size + 1 = q := by omega
  have n2 : ¬ w.heap.size = q := by omega
  go_wp2_with fail
  clear m0' m1' m2' m3' m4' m5' m6' m7' m8' r0' r1' r2' r3' r4' r5' r6' r7' r8' f0 f1 f2 f3 f4' f5 f6 f7 f8 j0 j1 j2 j3 j4 j5 j6 f4
  have hQ3 := HQ2.out.set 4 (.slice (some ⟨g, 0, none⟩) (ms.length - 1) cm)
  have hR3 : Wire.Bk (w2.setCell ⟨q, 4, none⟩ (.slice (some ⟨g, 0, none⟩) (ms.length - 1) cm)) w.heap.size #[.int .i64 0, .int .i64 0, .int .i64 0, .int .i64 0, .int .i64 0, .int .i64 0, .int .i64 0, .int .i64 0, .slice none 0 0] 102 := HR2.out.oth n2 4 _
  have hG3 : (w2.setCell ⟨q, 4, none⟩ (.slice (some ⟨g, 0, none⟩) (ms.length - 1) cm)).heap[g]? = some (.cells (delA cur k ms.length) 102 (0, 0)) := (heap_setCell_other _ _ _ _ (by simpa using fun h => hgq h.symm)).trans HG2.out
  have hO3 : ∀ z, ¬ z = q → (w2.setCell ⟨q, 4, none⟩ (.slice (some ⟨g, 0, none⟩) (ms.length - 1) cm)).heap[z]? = w2.heap[z]? := fun z hz => heap_setCell_other _ _ _ _ (by simpa using hz)
  have hS3 : (w2.setCell ⟨q, 4, none⟩ (.slice (some ⟨g, 0, none⟩) (ms.length - 1) cm)).heap.size = w2.heap.size := by simp [World.setCell]
  have hB3 : ∀ B W, B ≤ q → B ≤ g → Below B W w → Below B W (w2.setCell ⟨q, 4, none⟩ (.slice (some ⟨g, 0, none⟩) (ms.length - 1) cm)) := fun B W h1 h2 h3 => (HBW.out B W h2 (h3.trans (HB1.out.mono (by omega)))).setCell (p := ⟨q, 4, none⟩) h1 _
  generalize w2.setCell ⟨q, 4, none⟩ (.slice (some ⟨g, 0, none⟩) (ms.length - 1) cm) = w3 at *
  have hE := hR3.setL [.int .i64 x0, .int .i64 x1, .int .i64 x2, .int .i64 x3, .int .i64 x4, .int .i64 x5, .int .i64 x6, .int .i64 x7, .slice none 0 0] 0
  rw [ovr9] at hE
  refine bodyPost_ret (w := Wire.setL w3 w.heap.size 0 [.int .i64 x0, .int .i64 x1, .int .i64 x2, .int .i64 x3, .int .i64 x4, .int .i64 x5, .int .i64 x6, .int .i64 x7, .slice none 0 0]) (results_cell_row Tryz.results62 _ _ w.heap.size _ _ _ _ rfl hE Tryz.underlying102 rfl (by kernel_rfl)) rfl ⟨rfl, ?_, ?_, ?_, ?_, ?_⟩
  · exact (Wire.setL_oth (by omega) _ _ _).trans hQ3
  · refine BagW.del HBg.out hk HCU.out ((Wire.setL_oth (by omega) _ _ _).trans hG3)
  · rw [Wire.setL_size, hS3]; have := HS2.out; omega
  · exact fun B W h1 h2 h3 => Wire.setL_below (by omega) _ 0 (hB3 B W h1 h2 h3)
  · intro z hz hzq hzg
    rw [Wire.setL_oth (by omega), hO3 z hzq, HO2.out z hzg]
    exact HB1.out.block z hz
end Go.Proofs.YtdceimnapbblnaaGreat
namespace Go.Proofs.YtdceimnapbblnaaGreat
open Go.RowKit Go.Deep
set_option linter.unusedVariables false
set_option linter.unusedSimpArgs false
theorem ints_cells (l : List Int) : ∀ u ∈ l.map (Value.int .i64), u.oneCell' = true := ints_one1 l
/-- append of one number to a row that is full, or to none -/
theorem append_one (a : Option Addr) (gs : List Int) (V : Nat) (x : Int) (w : World) (hl : gs.length ≤ 1048576) (hr : RowAt w a gs) (hV : w.heap[V]? = some (.cells #[.int .i64 x] 3 (0, 0))) (hn : a = none → gs = []) :
    ∀ ty, ∃ v' w', (Builtin.append_ #[30, 30] ty #[.slice a gs.length gs.length, .slice (some ⟨V, 0, none⟩) 1 1]).run Tryz.prog w = .ok v' w' ∧ w'.ownsRow w.heap.size 3 1 v' (gs.length + 1) ((gs ++ [x]).map (Value.int .i64)) ∧ w.grownBy w' none := by
  intro ty
  obtain ⟨i0, hi, hz0, hz1, hz2⟩ := info_parts'
  have hx : ∀ j u, [Value.int .i64 x][j]? = some u → w.cell? ((⟨V, 0, none⟩ : Addr).add j) = some u := fun j u hj => by
    rw [add_none', Nat.zero_add, cell_of_row w _ _ _ _ _ hV]
    simpa using hj
  rw [List.map_append]
  cases a with
  | none =>
    have hg := hn rfl
    subst hg
    obtain ⟨v', w', h1, h2, h3, _⟩ := run_append_own (P := Tryz.prog) w w.heap.size 30 ty 3 i0 (.int .i64 0) 1 8 Tryz.underlying30 hi hz0 hz1 hz2 rfl (by decide) (.slice none 0 0) 0 [] (World.ownsRow_nil _ _ _ _) ⟨V, 0, none⟩ 1 1 [.int .i64 x] rfl hx (by simp [Value.oneCell']) (by unfold maxLen; omega) (by omega) (Nat.le_refl _)
    exact ⟨v', w', h1, h2, h3⟩
  | some ad =>
    have hold : ∀ j u, (gs.map (Value.int .i64))[j]? = some u → w.cell? (ad.add j) = some u := fun j u hj => by
      have hj' := (List.getElem?_eq_some_iff.1 hj).1
      rw [List.length_map] at hj'
      obtain ⟨bk, off, he⟩ := rowAt_form hr (by omega)
      simp only [Option.some.injEq] at he
      subst he
      rw [add_none', (rowAt_cell hr (by omega)).2 j hj']
      rw [← hj]
      simp [List.getD_eq_getElem?_getD, hj']
    exact run_append_arg_grows (P := Tryz.prog) w 30 ty 3 i0 (.int .i64 0) 1 8 Tryz.underlying30 hi hz0 hz1 hz2 rfl (by decide) ad gs.length gs.length (gs.map (Value.int .i64)) (by simp) hold ⟨V, 0, none⟩ 1 1 [.int .i64 x] rfl hx (by omega) (by unfold maxLen; omega) (by omega)
/-- append of zeros behind the first i numbers of a full row: room for one more -/
theorem append_room (bk off : Nat) (gs : List Int) (i : Nat) (w : World) (hl : gs.length ≤ 1048576) (hi0 : i < gs.length) (hr : RowAt w (some ⟨bk, off, none⟩) gs) :
    ∃ (C : Nat) (w' : World) (cur : Array Value), (∀ ty, (Builtin.append_ #[30, 3] ty #[.slice (some ⟨bk, off, none⟩) i gs.length, .int .i64 ((gs.length : Int) + 1 - (i : Int))]).run Tryz.prog w = .ok (.slice (some ⟨w.heap.size, 0, none⟩) (gs.length + 1) C) w') ∧
      w'.heap[w.heap.size]? = some (.cells cur 3 (0, 0)) ∧ cur.size = C ∧ gs.length + 1 ≤ C ∧ C ≤ maxLen ∧ cur.toList.take i = (gs.take i).map (Value.int .i64) ∧ Below w.heap.size w w' ∧ w'.heap.size = w.heap.size + 1 := by
  obtain ⟨i0, hi, hz0, hz1, hz2⟩ := info_parts'
  have e : (gs.length : Int) + 1 - (i : Int) = ((gs.length + 1 - i : Nat) : Int) := by omega
  have e2 : i + (gs.length + 1 - i) = gs.length + 1 := by omega
  have hsz1 : i0.size = 1 := hz1
  have hold : ∀ j u, ((gs.take i).map (Value.int .i64))[j]? = some u → w.drew.cell? ((⟨bk, off, none⟩ : Addr).add j) = some u := fun j u hj => by
    have hj' := (List.getElem?_eq_some_iff.1 hj).1
    rw [List.length_map, List.length_take] at hj'
    have := (rowAt_cell hr (by omega)).2 j (by omega)
    rw [add_none']
    refine this.trans ?_
    rw [← hj]
    simp [List.getD_eq_getElem?_getD, List.getElem?_take, show j < gs.length from by omega, show j < i from by omega]
  have hfc := run_firstCells_some (P := Tryz.prog) w.drew i0.size i ⟨bk, off, none⟩ i gs.length ((gs.take i).map (Value.int .i64)) (by rw [hsz1]; simp; omega) hold
  have hcap := grownCap_ge w (gs.length + 1) gs.length 3
  have hcm := grownCap_le_maxLen w (gs.length + 1) gs.length 3 (by unfold maxLen; omega)
  refine ⟨grownCap w (gs.length + 1) gs.length 3, w.drew.alloc (.cells (((gs.take i).map (Value.int .i64)).toArray ++ Builtin.zeroCells (Value.int .i64 0).cells (gs.length + 1 - i) ++ Builtin.zeroCells (Value.int .i64 0).cells (grownCap w (gs.length + 1) gs.length 3 - (gs.length + 1))) 3), ((gs.take i).map (Value.int .i64)).toArray ++ Builtin.zeroCells (Value.int .i64 0).cells (gs.length + 1 - i) ++ Builtin.zeroCells (Value.int .i64 0).cells (grownCap w (gs.length + 1) gs.length 3 - (gs.length + 1)), fun ty => ?_, heap_alloc_new w.drew _, ?_, hcap, hcm, ?_, ((Below.refl _ _).drew).alloc (Nat.le_refl _) _, by simp⟩
  · rw [e]
    have := Lib.run_append_grow_zeros (P := Tryz.prog) w 30 3 ty 3 i0 (.int .i64 0) .i64 .i64 Tryz.underlying30 Tryz.underlying3 hi hz0 (some ⟨bk, off, none⟩) i gs.length ((gs.take i).map (Value.int .i64)) hfc (gs.length + 1 - i) (by omega) (by omega) (by omega) (by omega) (by rw [hz2]; omega) (by rw [e2, hz2]; have := nextslicecap_le (show gs.length < gs.length + 1 by omega); omega)
    rw [e2] at this
    exact this
  · simp only [Array.size_append, List.size_toArray, size_zeroCells, List.length_map, List.length_take, Value.cells]
    simp
    omega
  · simp only [Array.toList_append, List.append_assoc]
    rw [List.take_append_of_le_length (by simp; omega)]
    rw [List.take_of_length_le (by simp; omega)]
end Go.Proofs.YtdceimnapbblnaaGreat
namespace Go.Proofs.YtdceimnapbblnaaGreat
open Go.RowKit Go.Deep
set_option linter.unusedVariables false
set_option linter.unusedSimpArgs false
theorem step_copy_many {P : Program} {ops : Array Oper} {o : Oper} {a : Act} {w : World} {K : Act → World → Prop} {Q : Exit → Act → World → Prop} {E : Prop}
    (hgd : o.guard = none) (d s : Operand) (dT sT : TypeId) (ho : o.op = .call { callee := .builtin .copy, args := #[d, s], argTypes := #[dT, sT] }) (elem : TypeId) (z n : Nat) (hu : P.underlying dT = some (.slice elem)) (hsz : (P.info? elem).map (·.size) = some z)
    (g off dLen dCap : Nat) (ad : Addr) (sLen sCap : Nat) (hd : a.eval d = .slice (some ⟨g, off, none⟩) dLen dCap) (hs : a.eval s = .slice (some ad) sLen sCap)
    (cur : Array Value) (t : TypeId) (hg : w.heap[g]? = some (.cells cur t (0, 0))) (cs : List Value) (hn : Nat.min sLen dLen = n) (hc : cs.length = n * z)
    (hsrc : ∀ j v, cs[j]? = some v → w.cell? (ad.add j) = some v) (hfit : off + cs.length ≤ cur.size) (h1 : ∀ v ∈ cs, v.oneCell' = true)
    (hK : K (a.put o.dst (goInt n)) (w.setRow g (cur.toList.take off ++ cs ++ cur.toList.drop (off + cs.length)).toArray)) :
    if Region.wanted o (yielded ops a.tmps) = true then Oper.wp P o a w K Q else E := by
  have hw : Region.wanted o (yielded ops a.tmps) = true := by simp [Region.wanted, hgd]
  rw [if_pos hw]
  have hrun := run_copy_many (P := P) w dT sT o.type elem g off dLen dCap ad sLen sCap cur t cs z n hu hsz hg hn hc hsrc hfit h1
  rw [List.append_assoc] at hrun hK
  unfold Oper.wp
  simp [execOp, ho, resolve, invoke, builtin, hd, hs, hrun, Result.andThen]
  exact hK
theorem take_set_drop (L : List Value) (i : Nat) (x : List Value) (h : i + x.length ≤ L.length) : (L.take i ++ x ++ L.drop (i + x.length)).take (i + x.length) = L.take i ++ x := by
  rw [List.take_append_of_le_length (by simp; omega), List.take_of_length_le (by simp; omega)]
set_option maxRecDepth 100000 in
set_option maxHeartbeats 6400000 in
theorem insert_full (a : Option Addr) (gs : List Int) (i V : Nat) (x : Int) (w : World) (hl : gs.length ≤ 16) (hi0 : i ≤ gs.length) (hr : RowAt w a gs) (hV : w.heap[V]? = some (.cells #[.int .i64 x] 3 (0, 0))) (hn : a = none → gs = []) :
    Calls Tryz.prog 154 #[.slice a gs.length gs.length, .int .i64 i, .slice (some ⟨V, 0, none⟩) 1 1] w fun e w' => ∃ v : Value, e = .returned v ∧ w'.ownsRow w.heap.size 3 1 v (gs.length + 1) ((gs.take i ++ x :: gs.drop i).map (Value.int .i64)) ∧ Below w.heap.size w w' := by
  by_cases hin : i = gs.length
  · subst hin
    have HA := append_one a gs V x w (by omega) hr hV hn
    obtain ⟨v', w1, hrun, hown, hgr⟩ := HA 30
    have HR : Hid ((Builtin.append_ #[30, 30] 30 #[.slice a gs.length gs.length, .slice (some ⟨V, 0, none⟩) 1 1]).run Tryz.prog w = .ok v' w1) := hrun
    have HO : Hid (w1.ownsRow w.heap.size 3 1 v' (gs.length + 1) ((gs ++ [x]).map (Value.int .i64))) := hown
    have HB : Hid (Below w.heap.size w w1) := grown_bel (Below.refl _ _) hgr (Nat.le_refl _) (fun k hk => by cases hk)
    rw [show gs.take gs.length ++ x :: gs.drop gs.length = gs ++ [x] by simp]
    obtain ⟨q, hq⟩ : ∃ q, (if gs.length = gs.length then a else a) = q := ⟨_, rfl⟩
    clear HA hrun hown hgr hr hV hq
    go_enter Tryz.func154, Tryz.ntmps154
    go_wp2_with (at_builtin; refine Lib.wpList_append_run _ rfl (.tmp 23) (.tmp 24) 30 30 rfl _ _ rfl rfl _ _ HR.out ?_)
    go_ret
    exact ⟨_, rfl, HO.out, HB.out⟩
  · have hilt : i < gs.length := by omega
    obtain ⟨bk, off, rfl⟩ := rowAt_form hr (by omega)
    obtain ⟨hbk, hcell⟩ := rowAt_cell hr (by omega)
    obtain ⟨C, w1, cur, hrun, hg1, hcs, hC1, hC2, htk, hB1, hz1⟩ := append_room bk off gs i w (by omega) hilt hr
    have HR : Hid (∀ ty, (Builtin.append_ #[30, 3] ty #[.slice (some ⟨bk, off, none⟩) i gs.length, .int .i64 ((gs.length : Int) + 1 - (i : Int))]).run Tryz.prog w = .ok (.slice (some ⟨w.heap.size, 0, none⟩) (gs.length + 1) C) w1) := hrun
    have HG1 : Hid (w1.heap[w.heap.size]? = some (.cells cur 3 (0, 0))) := hg1
    have HCS : Hid (cur.size = C) := hcs
    have HTK : Hid (cur.toList.take i = (gs.take i).map (Value.int .i64)) := htk
    have HB1 : Hid (Below w.heap.size w w1) := hB1
    have HV1 : Hid (∀ j u, [Value.int .i64 x][j]? = some u → w1.cell? ((⟨V, 0, none⟩ : Addr).add j) = some u) := fun j u hj => by
      rw [add_none', Nat.zero_add, cell_of_row w1 _ _ _ _ _ ((hB1.block V (Array.getElem?_eq_some_iff.1 hV).1).trans hV)]
      simpa using hj
    have HF1 : Hid (i + [Value.int .i64 x].length ≤ cur.size) := by rw [Hid, hcs]; simp; omega
    have HC2 : Hid (C ≤ maxLen) := hC2
    have HX : Hid (∀ w2, Below w.heap.size w w2 → ∀ j u, ((gs.drop i).map (Value.int .i64))[j]? = some u → w2.cell? ((⟨bk, off + i, none⟩ : Addr).add j) = some u) := fun w2 hw2 j u hj => by
      have hj' := (List.getElem?_eq_some_iff.1 hj).1
      rw [List.length_map, List.length_drop] at hj'
      rw [add_none', show off + i + j = off + (i + j) by omega]
      refine (hw2.cell (p := ⟨bk, off + (i + j), none⟩) hbk).trans ((hcell (i + j) (by omega)).trans ?_)
      rw [← hj]
      simp [List.getD_eq_getElem?_getD, List.getElem?_drop, show i + j < gs.length from by omega]
    have hc1 : C ≤ 9223372036854775807 := by unfold maxLen at hC2; omega
    have hne : ¬ C = i := by omega
    have hne2 : ¬ C = i + 1 := by omega
    have hne3 : ¬ gs.length = i := hin ∘ Eq.symm
    have hic : i ≤ C := by omega
    have hic1 : i + 1 ≤ C := by omega
    have hi1 : (i : Int) ≤ (gs.length : Int) := by omega
    have hig : i ≤ gs.length := hi0
    clear hrun hg1 hcs htk hB1 hz1 hV hr hcell hC2
    go_enter Tryz.func154, Tryz.ntmps154
    go_wp2_with (first
      | (at_builtin; refine Lib.wpList_append_run _ rfl (.tmp 34) (.tmp 39) 30 3 rfl _ _ rfl rfl _ _ (HR.out _) ?_)
      | (refine wpList_copy_many rfl (.tmp 43) (.tmp 44) 30 30 rfl 3 1 1 Tryz.underlying30 size_int1 w.heap.size i (gs.length + 1 - i) (C - i) ⟨V, 0, none⟩ 1 1 (by rfl) (by rfl) cur 3 HG1.out [.int .i64 x] (by show min _ _ = _; omega) rfl HV1.out HF1.out (by simp [Value.oneCell']) w.heap.size w HB1.out (Nat.le_refl _) ?_; intro w2 HG2 HB2 HS2))
    obtain ⟨cur2, hcur2⟩ : ∃ cur2, cur2 = (cur.toList.take i ++ [Value.int .i64 x] ++ cur.toList.drop (i + [Value.int .i64 x].length)).toArray := ⟨_, rfl⟩
    have hg2 : w2.drew.heap[w.heap.size]? = some (.cells cur2 3 (0, 0)) := by rw [hcur2]; exact HG2.out
    have HS2' : cur2.size = C := by rw [hcur2]; have := HCS.out; simp; omega
    have HT2 : Hid (cur2.toList.take (i + 1) = (gs.take i ++ [x]).map (Value.int .i64)) := by
      rw [Hid, hcur2]
      show (cur.toList.take i ++ [Value.int .i64 x] ++ cur.toList.drop (i + [Value.int .i64 x].length)).take (i + [Value.int .i64 x].length) = _
      rw [take_set_drop _ _ _ (by have := HCS.out; simp; omega), HTK.out, List.map_append]
      rfl
    have HGW : Hid (w2.drew.heap[w.heap.size]? = some (.cells cur2 3 (0, 0))) := hg2
    have hl3 : ((gs.drop i).map (Value.int .i64)).length = gs.length - i := by simp
    have HF2 : Hid (i + 1 + ((gs.drop i).map (Value.int .i64)).length ≤ cur2.size) := by rw [Hid, hl3, HS2']; omega
    have HL3 : Hid (((gs.drop i).map (Value.int .i64)).length = (gs.length - i) * 1) := by rw [Hid, hl3, Nat.mul_one]
    have HX2 := HX.out w2.drew (HB2.out.drew)
    have HX3 : Hid (∀ j u, ((gs.drop i).map (Value.int .i64))[j]? = some u → w2.drew.cell? ((⟨bk, off + i, none⟩ : Addr).add j) = some u) := HX2
    have HC3 : Hid (cur2.size = C) := HS2'
    have hg3 := setRow_heap w2.drew w.heap.size cur2 (cur2.toList.take (i + 1) ++ (gs.drop i).map (Value.int .i64) ++ cur2.toList.drop (i + 1 + ((gs.drop i).map (Value.int .i64)).length)).toArray 3 (0, 0) HGW.out
    have hb3 : Below w.heap.size w (w2.drew.setRow w.heap.size (cur2.toList.take (i + 1) ++ (gs.drop i).map (Value.int .i64) ++ cur2.toList.drop (i + 1 + ((gs.drop i).map (Value.int .i64)).length)).toArray) := below_setRow (HB2.out.drew) (Nat.le_refl _) _
    have hs3 : (cur2.toList.take (i + 1) ++ (gs.drop i).map (Value.int .i64) ++ cur2.toList.drop (i + 1 + ((gs.drop i).map (Value.int .i64)).length)).length = C := by
      have h1 := HC3.out
      have h2 := HF2.out
      simp only [List.length_append, List.length_take, List.length_drop, Array.length_toList, List.length_map] at h2 ⊢
      omega
    have ht3 : (cur2.toList.take (i + 1) ++ (gs.drop i).map (Value.int .i64) ++ cur2.toList.drop (i + 1 + ((gs.drop i).map (Value.int .i64)).length)).take ((gs.length + 1) * 1) = (gs.take i ++ x :: gs.drop i).map (Value.int .i64) := by
      have h0 : (gs.length + 1) * 1 = i + 1 + ((gs.drop i).map (Value.int .i64)).length := by simp; omega
      rw [h0, take_set_drop _ _ _ (by rw [Array.length_toList]; exact HF2.out), HT2.out, ← List.map_append]
      simp
    obtain ⟨w3, hw3⟩ : ∃ w3, w3 = w2.drew.setRow w.heap.size (cur2.toList.take (i + 1) ++ (gs.drop i).map (Value.int .i64) ++ cur2.toList.drop (i + 1 + ((gs.drop i).map (Value.int .i64)).length)).toArray := ⟨_, rfl⟩
    rw [← hw3] at hg3 hb3
    have HW3 : Hid (w3 = w2.drew.setRow w.heap.size (cur2.toList.take (i + 1) ++ (gs.drop i).map (Value.int .i64) ++ cur2.toList.drop (i + 1 + ((gs.drop i).map (Value.int .i64)).length)).toArray) := hw3
    clear hw3
    generalize cur2.toList.take (i + 1) ++ (gs.drop i).map (Value.int .i64) ++ cur2.toList.drop (i + 1 + ((gs.drop i).map (Value.int .i64)).length) = L at hg3 hs3 ht3
    have HG3 : Hid (w3.heap[w.heap.size]? = some (.cells L.toArray 3 (0, 0))) := hg3
    have HB3 : Hid (Below w.heap.size w w3) := hb3
    have HS3 : Hid (L.length = C) := hs3
    have HT3 : Hid (L.take ((gs.length + 1) * 1) = (gs.take i ++ x :: gs.drop i).map (Value.int .i64)) := ht3
    clear hg3 hb3 hs3 ht3
    have hwr : IntKind.i64.wrap ((i : Int) + 1) = (i : Int) + 1 := by
      rw [IntKind.wrap_i64] <;> omega
    have hi5 : (0 : Int) ≤ (i : Int) + 1 := by omega
    have hi6 : (i : Int) + 1 ≤ (gs.length : Int) + 1 := by omega
    clear hcur2 hg2 HS2' hl3 HX2
    go_region_law (refine step_copy_many rfl (.tmp 50) (.tmp 53) 30 30 rfl 3 1 (gs.length - i) Tryz.underlying30 size_int1 w.heap.size (i + 1) (gs.length + 1 - (i + 1)) (C - (i + 1)) ⟨bk, off + i, none⟩ (gs.length - i) (gs.length - i) (by simp [Act.eval, Act.put]) (by simp [Act.eval, Act.put]) cur2 3 HGW.out ((gs.drop i).map (Value.int .i64)) (by show min _ _ = _; omega) HL3.out HX3.out HF2.out (ints_one1 _) ?_; rw [← HW3.out])
    go_wp2
    go_ret
    refine ⟨_, rfl, ⟨by simp; omega, .inr ⟨w.heap.size, C, L.toArray, rfl, Nat.le_refl _, HG3.out, hC1, HC2.out, by simpa using HS3.out, HT3.out⟩⟩, HB3.out⟩
end Go.Proofs.YtdceimnapbblnaaGreat
namespace Go.Proofs.YtdceimnapbblnaaGreat
open Go.RowKit
set_option linter.unusedVariables false
section
variable {P : Program} {Q : Exit → Act → World → Prop}
/-- every operation waits for earlier ones alone, and the last for all -/
def lastB (l : List Oper) (o : Oper) : Bool :=
  ((List.range l.length).all fun i => o.after.any fun e => Region.binds .any e && e.on == i) &&
  (o.after.all fun e => !Region.binds .any e || decide (e.on < l.length)) &&
  ((List.range l.length).all fun j => match l[j]? with
    | some oj => (oj.after.all fun e => !Region.binds .any e || decide (e.on < j)) && (match oj.guard with | none => true | some (g, _) => decide (g < l.length))
    | none => true) && o.guard.isNone
structure LastP (l : List Oper) (o : Oper) : Prop where
  all : ∀ i, i < l.length → ∃ e ∈ o.after, Region.binds .any e = true ∧ e.on = i
  lt : ∀ e ∈ o.after, Region.binds .any e = true → e.on < l.length
  up : ∀ (j : Nat) (oj : Oper), l[j]? = some oj → ∀ e ∈ oj.after, Region.binds .any e = true → e.on < j
  gd : ∀ (j : Nat) (oj : Oper), l[j]? = some oj → ∀ (g : Nat) (b : Bool), oj.guard = some (g, b) → g < l.length
  no : o.guard = none
theorem lastP {l : List Oper} {o : Oper} (h : lastB l o = true) : LastP l o := by
  unfold lastB at h
  simp only [Bool.and_eq_true] at h
  obtain ⟨⟨⟨h1, h2⟩, h3⟩, h4⟩ := h
  rw [List.all_eq_true] at h1 h3
  rw [Array.all_eq_true_iff_forall_mem] at h2
  have h3' : ∀ (j : Nat) (oj : Oper), l[j]? = some oj → (oj.after.all fun e => !Region.binds .any e || decide (e.on < j)) = true ∧ (match oj.guard with | none => true | some (g, _) => decide (g < l.length)) = true := fun j oj hj => by
    have := h3 j (List.mem_range.2 (List.getElem?_eq_some_iff.1 hj).1)
    simp only [hj, Bool.and_eq_true] at this
    exact this
  refine ⟨fun i hi => ?_, fun e he hb => ?_, fun j oj hj e he hb => ?_, fun j oj hj g b hg => ?_, by simpa using h4⟩
  · have := h1 i (List.mem_range.2 hi)
    rw [Array.any_eq_true'] at this
    obtain ⟨e, he, hb⟩ := this
    simp only [Bool.and_eq_true, beq_iff_eq] at hb
    exact ⟨e, he, hb.1, hb.2⟩
  · have := h2 e he
    rw [hb] at this
    simpa using this
  · have := (h3' j oj hj).1
    rw [Array.all_eq_true_iff_forall_mem] at this
    have := this e he
    rw [hb] at this
    simpa using this
  · have := (h3' j oj hj).2
    rw [hg] at this
    simpa using this
def lastQ (P : Program) (ops : Array Oper) (Q : Exit → Act → World → Prop) (n : Nat) : Exit → Act → World → Prop
  | .normal, a, w => wpOp P ops Q n (Q .normal) a w
  | e, a, w => Q e a w
theorem upon_last {ops : Array Oper} {n : Nat} {o : Oper} {a : Act} {w : World} {K K' : Act → World → Prop} (h : ∀ a w, K a w → K' a w) (hh : o.wp P a w K (lastQ P ops Q n)) : o.wp P a w K' Q := by
  unfold Oper.wp at *
  generalize (execOp a.eval o).run P w = r at *
  cases r with
  | ok x w' =>
    cases x <;> simp only [Oper.upon] at hh ⊢ <;>
      first
        | exact h _ _ hh
        | exact Calls.mono hh (fun e w'' he => by cases e <;> first | exact h _ _ he | exact he)
        | exact Rows.mono hh (fun _ _ he => h _ _ he)
  | halt x w' => cases x <;> simp only [Oper.upon] at hh ⊢ <;> exact hh
theorem ops_head {l : List Oper} {o : Oper} {j : Nat} (hj : j < l.length) : (l ++ [o]).toArray[j]? = l.toArray[j]? := by
  rw [List.getElem?_toArray, List.getElem?_toArray, List.getElem?_append_left hj]
theorem ops_last {l : List Oper} {o : Oper} : (l ++ [o]).toArray[l.length]? = some o := by
  rw [List.getElem?_toArray, List.getElem?_append_right (Nat.le_refl _)]
  simp
theorem getD_f {L L' : Array Bool} {n : Nat} (s1 : L.size = n + 1) (s2 : L'.size = n) (he : ∀ i, i < n → L[i]? = L'[i]?) (hn : L.getD n true = false) (j : Nat) : L.getD j false = L'.getD j false := by
  rw [Array.getD_eq_getD_getElem?, Array.getD_eq_getD_getElem?]
  by_cases h : j < n
  · rw [he j h]
  · rw [Array.getElem?_eq_none (xs := L') (by omega)]
    by_cases h2 : j = n
    · subst h2
      rw [Array.getD_eq_getD_getElem?] at hn
      cases hx : L[j]? with
      | none => rfl
      | some b => rw [hx] at hn; simpa using hn
    · rw [Array.getElem?_eq_none (by omega)]
theorem getD_t {L L' : Array Bool} {n : Nat} (he : ∀ i, i < n → L[i]? = L'[i]?) {j : Nat} (hj : j < n) : L.getD j true = L'.getD j true := by
  rw [Array.getD_eq_getD_getElem?, Array.getD_eq_getD_getElem?, he j hj]
theorem ready_head {l : List Oper} {o : Oper} {L L' : Array Bool} (s1 : L.size = l.length + 1) (s2 : L'.size = l.length) (he : ∀ i, i < l.length → L[i]? = L'[i]?) (hn : L.getD l.length true = false) {j : Nat} (hj : j < l.length) :
    j ∈ Region.ready .any (l ++ [o]).toArray L ↔ j ∈ Region.ready .any l.toArray L' := by
  rw [mem_ready, mem_ready, ops_head hj, getD_t he hj]
  constructor
  · rintro ⟨h1, oj, h2, h3⟩
    exact ⟨h1, oj, h2, fun e hm hb => by rw [← getD_f s1 s2 he hn]; exact h3 e hm hb⟩
  · rintro ⟨h1, oj, h2, h3⟩
    exact ⟨h1, oj, h2, fun e hm hb => by rw [getD_f s1 s2 he hn]; exact h3 e hm hb⟩
theorem ready_lt {l : List Oper} {L' : Array Bool} {j : Nat} (h : j ∈ Region.ready .any l.toArray L') : j < l.length := by
  obtain ⟨_, oj, h2, _⟩ := mem_ready.1 h
  rw [List.getElem?_toArray] at h2
  exact (List.getElem?_eq_some_iff.1 h2).1
/-- where none may come up, all have -/
theorem all_listed {l : List Oper} {o : Oper} (H : LastP l o) {L' : Array Bool} (s2 : L'.size = l.length) (hr : Region.ready .any l.toArray L' = []) : ∀ n i, i < n → i < l.length → L'.getD i true = true := by
  intro n
  induction n with
  | zero => intro i h; omega
  | succ n ih =>
    intro i hi hl
    cases hx : L'.getD i true with
    | true => rfl
    | false =>
      exfalso
      have hm : i ∈ Region.ready .any l.toArray L' := by
        refine mem_ready.2 ⟨hx, l[i], by rw [List.getElem?_toArray, List.getElem?_eq_getElem hl], fun e he hb => ?_⟩
        have hlt := H.up i l[i] (List.getElem?_eq_getElem hl) e he hb
        have h1 := ih e.on (by omega) (by omega)
        rw [Array.getD_eq_getD_getElem?, Array.getElem?_eq_getElem (by omega)] at h1 ⊢
        simpa using h1
      rw [hr] at hm
      cases hm
theorem any_end {l : List Oper} {o : Oper} (H : LastP l o) (fuel : Nat) (L L' : Array Bool) (a : Act) (w : World) (s1 : L.size = l.length + 1) (s2 : L'.size = l.length) (he : ∀ i, i < l.length → L[i]? = L'[i]?) (hn : L.getD l.length true = false)
    (hr : Region.ready .any l.toArray L' = []) (h : wpOp P (l ++ [o]).toArray Q l.length (Q .normal) a w) : wpAny P .any (l ++ [o]).toArray Q (fuel + 1) L a w := by
  have hall := all_listed H s2 hr l.length
  have hlast : l.length ∈ Region.ready .any (l ++ [o]).toArray L := by
    refine mem_ready.2 ⟨hn, o, ops_last, fun e hm hb => ?_⟩
    have hlt := H.lt e hm hb
    have h1 := hall e.on hlt hlt
    rw [getD_f s1 s2 he hn, Array.getD_eq_getD_getElem?, Array.getElem?_eq_getElem (by omega)]
    rw [Array.getD_eq_getD_getElem?, Array.getElem?_eq_getElem (by omega)] at h1
    simpa using h1
  refine ⟨fun h0 => (by rw [h0] at hlast; cases hlast), fun i hi => ?_⟩
  have hin : i = l.length := by
    by_cases hil : i < l.length
    · have := (ready_head s1 s2 he hn hil).1 hi
      rw [hr] at this
      cases this
    · obtain ⟨_, oi, h2, _⟩ := mem_ready.1 hi
      have := (Array.getElem?_eq_some_iff.1 h2).1
      simp at this
      omega
  subst hin
  refine wpOp_mono (fun a' w' hq => ?_) h
  have hnone : Region.ready .any (l ++ [o]).toArray (L.setIfInBounds l.length true) = [] := by
    cases hx : Region.ready .any (l ++ [o]).toArray (L.setIfInBounds l.length true) with
    | nil => rfl
    | cons j js =>
      exfalso
      have hj : j ∈ Region.ready .any (l ++ [o]).toArray (L.setIfInBounds l.length true) := by rw [hx]; simp
      obtain ⟨h1, oj, h2, _⟩ := mem_ready.1 hj
      have hlt := (Array.getElem?_eq_some_iff.1 h2).1
      simp at hlt
      by_cases hjn : j = l.length
      · subst hjn
        rw [Array.getD_eq_getD_getElem?, Array.getElem?_setIfInBounds] at h1
        simp [s1] at h1
      · have h3 := hall j (by omega) (by omega)
        rw [getD_set_ne true (by omega), getD_t he (by omega), h3] at h1
        cases h1
  cases fuel with
  | zero => exact ⟨hnone, hq⟩
  | succ f => exact ⟨fun _ => hq, fun i hi => by rw [hnone] at hi; cases hi⟩
theorem any_snoc {l : List Oper} {o : Oper} (H : LastP l o) : ∀ (fuel : Nat) (L L' : Array Bool) (a : Act) (w : World), L.size = l.length + 1 → L'.size = l.length → (∀ i, i < l.length → L[i]? = L'[i]?) → L.getD l.length true = false →
    wpAny P .any l.toArray (lastQ P (l ++ [o]).toArray Q l.length) fuel L' a w → wpAny P .any (l ++ [o]).toArray Q (fuel + 1) L a w := by
  intro fuel
  induction fuel with
  | zero =>
    intro L L' a w s1 s2 he hn h
    exact any_end H 0 L L' a w s1 s2 he hn h.1 h.2
  | succ fuel ih =>
    intro L L' a w s1 s2 he hn h
    by_cases hr : Region.ready .any l.toArray L' = []
    · exact any_end H (fuel + 1) L L' a w s1 s2 he hn hr (h.1 hr)
    · refine ⟨fun h0 => ?_, fun i hi => ?_⟩
      · exfalso
        cases hx : Region.ready .any l.toArray L' with
        | nil => exact hr hx
        | cons j js =>
          have hj : j ∈ Region.ready .any l.toArray L' := by rw [hx]; simp
          have := (ready_head (o := o) s1 s2 he hn (ready_lt hj)).2 hj
          rw [h0] at this
          cases this
      · have hil : i < l.length := by
          by_cases hil : i < l.length
          · exact hil
          · exfalso
            obtain ⟨_, oi, h2, h3⟩ := mem_ready.1 hi
            have hlt := (Array.getElem?_eq_some_iff.1 h2).1
            simp at hlt
            obtain rfl : i = l.length := by omega
            rw [ops_last] at h2
            obtain rfl : o = oi := Option.some.inj h2
            cases hx : Region.ready .any l.toArray L' with
            | nil => exact hr hx
            | cons j js =>
              have hj : j ∈ Region.ready .any l.toArray L' := by rw [hx]; simp
              have hjl := ready_lt hj
              obtain ⟨e, hm, hb, he2⟩ := H.all j hjl
              have h4 := h3 e hm hb
              rw [he2, getD_f s1 s2 he hn] at h4
              have h5 := (mem_ready.1 hj).1
              rw [Array.getD_eq_getD_getElem?, Array.getElem?_eq_getElem (by omega)] at h4 h5
              simp at h4 h5
              rw [h4] at h5
              cases h5
        have h1 := h.2 i ((ready_head s1 s2 he hn hil).1 hi)
        unfold wpOp at h1 ⊢
        rw [ops_head hil]
        have hg : l.toArray[i]? = some l[i] := by rw [List.getElem?_toArray, List.getElem?_eq_getElem hil]
        rw [hg] at h1 ⊢
        simp only at h1 ⊢
        have hw : Region.wanted l[i] (yielded (l ++ [o]).toArray a.tmps) = Region.wanted l[i] (yielded l.toArray a.tmps) := by
          unfold Region.wanted
          cases hgd : l[i].guard with
          | none => rfl
          | some gb =>
            obtain ⟨g, b⟩ := gb
            have hgl := H.gd i l[i] (List.getElem?_eq_getElem hil) g b hgd
            simp only [yielded, ops_head hgl]
        rw [hw]
        have hnext : ∀ a' w', wpAny P .any l.toArray (lastQ P (l ++ [o]).toArray Q l.length) fuel (L'.setIfInBounds i true) a' w' → wpAny P .any (l ++ [o]).toArray Q (fuel + 1) (L.setIfInBounds i true) a' w' := fun a' w' hh => by
          refine ih (L.setIfInBounds i true) (L'.setIfInBounds i true) a' w' (by simpa using s1) (by simpa using s2) (fun k hk => ?_) ?_ hh
          · rw [Array.getElem?_setIfInBounds, Array.getElem?_setIfInBounds, he k hk]
            simp [s1, s2, hil, show i < l.length + 1 by omega]
          · rw [getD_set_ne true (by omega)]
            exact hn
        by_cases hwt : Region.wanted l[i] (yielded l.toArray a.tmps) = true
        · rw [if_pos hwt] at h1 ⊢
          rcases h1 with h1 | ⟨h1, h2⟩
          · exact .inl (upon_last hnext h1)
          · exact .inr ⟨h1, h2⟩
        · rw [if_neg hwt] at h1 ⊢
          exact hnext _ _ h1
/-- all operations but the last in a class of worlds, then the last -/
theorem region_kin_last {id : Nat} {a : Act} {w : World} {L : List Oper} {o : Oper} (n B : Nat) (ho : L.drop n = [o]) (hm : P.follows .mixedOrders = true) (hB : Region.lexB .any (L.take n).toArray = true) (hL : lastB (L.take n) o = true)
    (h : Nonempty (Kin B w) → wpQuiet P (L.take n).toArray (fun w' => ∃ p : Kin B w, w' = p.v) (fun a' => ∀ w', (∃ p : Kin B w, w' = p.v) → wpList P L.toArray Q [o] a' w') (L.take n) a) : (Code.region id L.toArray true).wp P Q a w := by
  have e : L = L.take n ++ [o] := by rw [← ho, List.take_append_drop]
  generalize L.take n = l at *
  subst e
  have H := lastP hL
  refine wp_region_any hm ?_
  have hop : ∀ a' w', wpList P (l ++ [o]).toArray Q [o] a' w' → wpOp P (l ++ [o]).toArray Q l.length (Q .normal) a' w' := fun a' w' hh => by
    unfold wpOp
    rw [ops_last]
    exact hh
  have h0 := h (kinNe B w)
  simp only [Region.lexB, Bool.and_eq_true] at hB
  have h1 := wpAnyQ_lex (P := P) (C := fun w' => ∃ p : Kin B w, w' = p.v) (md := .any) hB.1 l 0 (Array.replicate l.length false) a (by simp) (by simpa using hB.2) h0
  have h2 : wpAny P .any l.toArray (lastQ P (l ++ [o]).toArray Q l.length) l.length (Array.replicate l.length false) a { w with drawn := w.drawn + 1 } :=
    wpAny_of_quiet (Q := fun a' => ∀ w', (∃ p : Kin B w, w' = p.v) → wpList P (l ++ [o]).toArray Q [o] a' w') (fun a' w' hw' hq => hop a' w' (hq w' hw')) _ _ _ _ ⟨⟨w.drew, (Below.refl _ _).drew⟩, rfl⟩ h1
  have h3 := any_snoc H l.length (Array.replicate (l.length + 1) false) (Array.replicate l.length false) a _ (by simp) (by simp) (fun i hi => by simp [hi, show i < l.length + 1 by omega]) (by simp) h2
  simpa using h3
end
end Go.Proofs.YtdceimnapbblnaaGreat
namespace Go.Proofs.YtdceimnapbblnaaGreat
open Go.RowKit
set_option linter.unusedVariables false
section
variable {P : Program} {Q : Exit → Act → World → Prop}
theorem region_held_last {id : Nat} {a : Act} {w : World} {L : List Oper} {o : Oper} {S : World → Prop} (n : Nat) (ho : L.drop n = [o]) (hm : P.follows .mixedOrders = true) (hL : lastB (L.take n) o = true) (hS : S w.drew)
    (h : S w.drew → wpAnyH P .any (L.take n).toArray (lastQ P L.toArray Q (L.take n).length) S (L.take n).length (Array.replicate (L.take n).length false) a w.drew) : (Code.region id L.toArray true).wp P Q a w := by
  have e : L = L.take n ++ [o] := by rw [← ho, List.take_append_drop]
  generalize L.take n = l at *
  subst e
  have H := lastP hL
  refine wp_region_any hm ?_
  have h2 : wpAny P .any l.toArray (lastQ P (l ++ [o]).toArray Q l.length) l.length (Array.replicate l.length false) a { w with drawn := w.drawn + 1 } := wpAny_of_held _ _ _ _ (h hS)
  have h3 := any_snoc H l.length (Array.replicate (l.length + 1) false) (Array.replicate l.length false) a _ (by simp) (by simp) (fun i hi => by simp [hi, show i < l.length + 1 by omega]) (by simp) h2
  simpa using h3
/-- the last operation, as a list walks it -/
theorem lastQ_done {ops : Array Oper} {n : Nat} {o : Oper} {a : Act} {w : World} (ho : ops[n]? = some o) (h : wpList P ops Q [o] a w) : lastQ P ops Q n .normal a w := by
  show wpOp P ops Q n (Q .normal) a w
  unfold wpOp
  rw [ho]
  exact h
end
end Go.Proofs.YtdceimnapbblnaaGreat
namespace Go.Proofs.YtdceimnapbblnaaGreat
open Go.RowKit
set_option linter.unusedVariables false
section
variable {P : Program} {Q : Exit → Act → World → Prop}
/-- every operation waits for earlier ones alone, each is waited for by a later one -/
def lastT (l : List Oper) (o : Oper) : Bool :=
  ((List.range l.length).all fun i => o.after.any (fun e => Region.binds .any e && e.on == i) || (List.range l.length).any fun j => decide (i < j) && match l[j]? with
    | some oj => oj.after.any fun e => Region.binds .any e && e.on == i
    | none => false) &&
  (o.after.all fun e => !Region.binds .any e || decide (e.on < l.length)) &&
  ((List.range l.length).all fun j => match l[j]? with
    | some oj => (oj.after.all fun e => !Region.binds .any e || decide (e.on < j)) && (match oj.guard with | none => true | some (g, _) => decide (g < l.length))
    | none => true) && o.guard.isNone
structure LastT (l : List Oper) (o : Oper) : Prop where
  lead : ∀ i, i < l.length → (∃ e ∈ o.after, Region.binds .any e = true ∧ e.on = i) ∨ ∃ j oj, i < j ∧ l[j]? = some oj ∧ ∃ e ∈ oj.after, Region.binds .any e = true ∧ e.on = i
  lt : ∀ e ∈ o.after, Region.binds .any e = true → e.on < l.length
  up : ∀ (j : Nat) (oj : Oper), l[j]? = some oj → ∀ e ∈ oj.after, Region.binds .any e = true → e.on < j
  gd : ∀ (j : Nat) (oj : Oper), l[j]? = some oj → ∀ (g : Nat) (b : Bool), oj.guard = some (g, b) → g < l.length
  no : o.guard = none
theorem lastTP {l : List Oper} {o : Oper} (h : lastT l o = true) : LastT l o := by
  unfold lastT at h
  simp only [Bool.and_eq_true] at h
  obtain ⟨⟨⟨h1, h2⟩, h3⟩, h4⟩ := h
  rw [List.all_eq_true] at h1 h3
  rw [Array.all_eq_true_iff_forall_mem] at h2
  have h3' : ∀ (j : Nat) (oj : Oper), l[j]? = some oj → (oj.after.all fun e => !Region.binds .any e || decide (e.on < j)) = true ∧ (match oj.guard with | none => true | some (g, _) => decide (g < l.length)) = true := fun j oj hj => by
    have := h3 j (List.mem_range.2 (List.getElem?_eq_some_iff.1 hj).1)
    simp only [hj, Bool.and_eq_true] at this
    exact this
  refine ⟨fun i hi => ?_, fun e he hb => ?_, fun j oj hj e he hb => ?_, fun j oj hj g b hg => ?_, by simpa using h4⟩
  · have := h1 i (List.mem_range.2 hi)
    simp only [Bool.or_eq_true] at this
    rcases this with this | this
    · rw [Array.any_eq_true'] at this
      obtain ⟨e, he, hb⟩ := this
      simp only [Bool.and_eq_true, beq_iff_eq] at hb
      exact .inl ⟨e, he, hb.1, hb.2⟩
    · rw [List.any_eq_true] at this
      obtain ⟨j, hj, hb⟩ := this
      simp only [Bool.and_eq_true, decide_eq_true_eq] at hb
      obtain ⟨hb1, hb2⟩ := hb
      cases hx : l[j]? with
      | none => rw [hx] at hb2; cases hb2
      | some oj =>
        rw [hx] at hb2
        simp only at hb2
        rw [Array.any_eq_true'] at hb2
        obtain ⟨e, he, hb⟩ := hb2
        simp only [Bool.and_eq_true, beq_iff_eq] at hb
        exact .inr ⟨j, oj, hb1, hx, e, he, hb.1, hb.2⟩
  · have := h2 e he
    rw [hb] at this
    simpa using this
  · have := (h3' j oj hj).1
    rw [Array.all_eq_true_iff_forall_mem] at this
    have := this e he
    rw [hb] at this
    simpa using this
  · have := (h3' j oj hj).2
    rw [hg] at this
    simpa using this
theorem all_done {l : List Oper} {o : Oper} (H : LastT l o) {L' : Array Bool} (hC : ∀ (j : Nat) (oj : Oper), l[j]? = some oj → L'.getD j false = true → ∀ e ∈ oj.after, Region.binds .any e = true → L'.getD e.on false = true)
    (ho : ∀ e ∈ o.after, Region.binds .any e = true → L'.getD e.on false = true) : ∀ n i, l.length - n ≤ i → i < l.length → L'.getD i false = true := by
  intro n
  induction n with
  | zero => intro i h1 h2; omega
  | succ n ih =>
    intro i h1 h2
    rcases H.lead i h2 with ⟨e, he, hb, hi⟩ | ⟨j, oj, hij, hj, e, he, hb, hi⟩
    · rw [← hi]; exact ho e he hb
    · have hjl := (List.getElem?_eq_some_iff.1 hj).1
      rw [← hi]
      exact hC j oj hj (ih j (by omega) hjl) e he hb
theorem closed_set {l : List Oper} {L' : Array Bool} {i : Nat} (hC : ∀ (j : Nat) (oj : Oper), l[j]? = some oj → L'.getD j false = true → ∀ e ∈ oj.after, Region.binds .any e = true → L'.getD e.on false = true) (s2 : L'.size = l.length)
    (hi : i ∈ Region.ready .any l.toArray L') : ∀ (j : Nat) (oj : Oper), l[j]? = some oj → (L'.setIfInBounds i true).getD j false = true → ∀ e ∈ oj.after, Region.binds .any e = true → (L'.setIfInBounds i true).getD e.on false = true := by
  have grow : ∀ k, L'.getD k false = true → (L'.setIfInBounds i true).getD k false = true := fun k hk => by
    rw [Array.getD_eq_getD_getElem?, Array.getElem?_setIfInBounds]
    by_cases h : i = k
    · rw [if_pos h]
      subst h
      rw [Array.getD_eq_getD_getElem?] at hk
      by_cases h2 : i < L'.size
      · rw [if_pos h2]; rfl
      · rw [Array.getElem?_eq_none (by omega)] at hk; cases hk
    · rw [if_neg h]
      rw [Array.getD_eq_getD_getElem?] at hk
      exact hk
  intro j oj hj hd e he hb
  by_cases h : i = j
  · subst h
    obtain ⟨_, oi, h2, h3⟩ := mem_ready.1 hi
    rw [List.getElem?_toArray, hj] at h2
    obtain rfl := Option.some.inj h2
    exact grow _ (h3 e he hb)
  · refine grow _ (hC j oj hj ?_ e he hb)
    rw [Array.getD_eq_getD_getElem?, Array.getElem?_setIfInBounds, if_neg h] at hd
    rw [Array.getD_eq_getD_getElem?]
    exact hd
/-- where none may come up, all have -/
theorem all_listedT {l : List Oper} {o : Oper} (H : LastT l o) {L' : Array Bool} (s2 : L'.size = l.length) (hr : Region.ready .any l.toArray L' = []) : ∀ n i, i < n → i < l.length → L'.getD i true = true := by
  intro n
  induction n with
  | zero => intro i h; omega
  | succ n ih =>
    intro i hi hl
    cases hx : L'.getD i true with
    | true => rfl
    | false =>
      exfalso
      have hm : i ∈ Region.ready .any l.toArray L' := by
        refine mem_ready.2 ⟨hx, l[i], by rw [List.getElem?_toArray, List.getElem?_eq_getElem hl], fun e he hb => ?_⟩
        have hlt := H.up i l[i] (List.getElem?_eq_getElem hl) e he hb
        have h1 := ih e.on (by omega) (by omega)
        rw [Array.getD_eq_getD_getElem?, Array.getElem?_eq_getElem (by omega)] at h1 ⊢
        simpa using h1
      rw [hr] at hm
      cases hm
theorem any_endT {l : List Oper} {o : Oper} (H : LastT l o) (fuel : Nat) (L L' : Array Bool) (a : Act) (w : World) (s1 : L.size = l.length + 1) (s2 : L'.size = l.length) (he : ∀ i, i < l.length → L[i]? = L'[i]?) (hn : L.getD l.length true = false)
    (hr : Region.ready .any l.toArray L' = []) (h : wpOp P (l ++ [o]).toArray Q l.length (Q .normal) a w) : wpAny P .any (l ++ [o]).toArray Q (fuel + 1) L a w := by
  have hall := all_listedT H s2 hr l.length
  have hlast : l.length ∈ Region.ready .any (l ++ [o]).toArray L := by
    refine mem_ready.2 ⟨hn, o, ops_last, fun e hm hb => ?_⟩
    have hlt := H.lt e hm hb
    have h1 := hall e.on hlt hlt
    rw [getD_f s1 s2 he hn, Array.getD_eq_getD_getElem?, Array.getElem?_eq_getElem (by omega)]
    rw [Array.getD_eq_getD_getElem?, Array.getElem?_eq_getElem (by omega)] at h1
    simpa using h1
  refine ⟨fun h0 => (by rw [h0] at hlast; cases hlast), fun i hi => ?_⟩
  have hin : i = l.length := by
    by_cases hil : i < l.length
    · have := (ready_head s1 s2 he hn hil).1 hi
      rw [hr] at this
      cases this
    · obtain ⟨_, oi, h2, _⟩ := mem_ready.1 hi
      have := (Array.getElem?_eq_some_iff.1 h2).1
      simp at this
      omega
  subst hin
  refine wpOp_mono (fun a' w' hq => ?_) h
  have hnone : Region.ready .any (l ++ [o]).toArray (L.setIfInBounds l.length true) = [] := by
    cases hx : Region.ready .any (l ++ [o]).toArray (L.setIfInBounds l.length true) with
    | nil => rfl
    | cons j js =>
      exfalso
      have hj : j ∈ Region.ready .any (l ++ [o]).toArray (L.setIfInBounds l.length true) := by rw [hx]; simp
      obtain ⟨h1, oj, h2, _⟩ := mem_ready.1 hj
      have hlt := (Array.getElem?_eq_some_iff.1 h2).1
      simp at hlt
      by_cases hjn : j = l.length
      · subst hjn
        rw [Array.getD_eq_getD_getElem?, Array.getElem?_setIfInBounds] at h1
        simp [s1] at h1
      · have h3 := hall j (by omega) (by omega)
        rw [getD_set_ne true (by omega), getD_t he (by omega), h3] at h1
        cases h1
  cases fuel with
  | zero => exact ⟨hnone, hq⟩
  | succ f => exact ⟨fun _ => hq, fun i hi => by rw [hnone] at hi; cases hi⟩
theorem any_snocT {l : List Oper} {o : Oper} (H : LastT l o) : ∀ (fuel : Nat) (L L' : Array Bool) (a : Act) (w : World), L.size = l.length + 1 → L'.size = l.length → (∀ i, i < l.length → L[i]? = L'[i]?) → L.getD l.length true = false → (∀ (j : Nat) (oj : Oper), l[j]? = some oj → L'.getD j false = true → ∀ e ∈ oj.after, Region.binds .any e = true → L'.getD e.on false = true) →
    wpAny P .any l.toArray (lastQ P (l ++ [o]).toArray Q l.length) fuel L' a w → wpAny P .any (l ++ [o]).toArray Q (fuel + 1) L a w := by
  intro fuel
  induction fuel with
  | zero =>
    intro L L' a w s1 s2 he hn hC h
    exact any_endT H 0 L L' a w s1 s2 he hn h.1 h.2
  | succ fuel ih =>
    intro L L' a w s1 s2 he hn hC h
    by_cases hr : Region.ready .any l.toArray L' = []
    · exact any_endT H (fuel + 1) L L' a w s1 s2 he hn hr (h.1 hr)
    · refine ⟨fun h0 => ?_, fun i hi => ?_⟩
      · exfalso
        cases hx : Region.ready .any l.toArray L' with
        | nil => exact hr hx
        | cons j js =>
          have hj : j ∈ Region.ready .any l.toArray L' := by rw [hx]; simp
          have := (ready_head (o := o) s1 s2 he hn (ready_lt hj)).2 hj
          rw [h0] at this
          cases this
      · have hil : i < l.length := by
          by_cases hil : i < l.length
          · exact hil
          · exfalso
            obtain ⟨_, oi, h2, h3⟩ := mem_ready.1 hi
            have hlt := (Array.getElem?_eq_some_iff.1 h2).1
            simp at hlt
            obtain rfl : i = l.length := by omega
            rw [ops_last] at h2
            obtain rfl : o = oi := Option.some.inj h2
            cases hx : Region.ready .any l.toArray L' with
            | nil => exact hr hx
            | cons j js =>
              have hj : j ∈ Region.ready .any l.toArray L' := by rw [hx]; simp
              have hjl := ready_lt hj
              have h4 := all_done H hC (fun e hm hb => by rw [← getD_f s1 s2 he hn]; exact h3 e hm hb) l.length j (by omega) hjl
              have h5 := (mem_ready.1 hj).1
              rw [Array.getD_eq_getD_getElem?, Array.getElem?_eq_getElem (by omega)] at h4 h5
              simp at h4 h5
              rw [h4] at h5
              cases h5
        have h1 := h.2 i ((ready_head s1 s2 he hn hil).1 hi)
        unfold wpOp at h1 ⊢
        rw [ops_head hil]
        have hg : l.toArray[i]? = some l[i] := by rw [List.getElem?_toArray, List.getElem?_eq_getElem hil]
        rw [hg] at h1 ⊢
        simp only at h1 ⊢
        have hw : Region.wanted l[i] (yielded (l ++ [o]).toArray a.tmps) = Region.wanted l[i] (yielded l.toArray a.tmps) := by
          unfold Region.wanted
          cases hgd : l[i].guard with
          | none => rfl
          | some gb =>
            obtain ⟨g, b⟩ := gb
            have hgl := H.gd i l[i] (List.getElem?_eq_getElem hil) g b hgd
            simp only [yielded, ops_head hgl]
        rw [hw]
        have hnext : ∀ a' w', wpAny P .any l.toArray (lastQ P (l ++ [o]).toArray Q l.length) fuel (L'.setIfInBounds i true) a' w' → wpAny P .any (l ++ [o]).toArray Q (fuel + 1) (L.setIfInBounds i true) a' w' := fun a' w' hh => by
          refine ih (L.setIfInBounds i true) (L'.setIfInBounds i true) a' w' (by simpa using s1) (by simpa using s2) (fun k hk => ?_) ?_ (closed_set hC s2 ((ready_head s1 s2 he hn hil).1 hi)) hh
          · rw [Array.getElem?_setIfInBounds, Array.getElem?_setIfInBounds, he k hk]
            simp [s1, s2, hil, show i < l.length + 1 by omega]
          · rw [getD_set_ne true (by omega)]
            exact hn
        by_cases hwt : Region.wanted l[i] (yielded l.toArray a.tmps) = true
        · rw [if_pos hwt] at h1 ⊢
          rcases h1 with h1 | ⟨h1, h2⟩
          · exact .inl (upon_last hnext h1)
          · exact .inr ⟨h1, h2⟩
        · rw [if_neg hwt] at h1 ⊢
          exact hnext _ _ h1
theorem region_held_lastT {id : Nat} {a : Act} {w : World} {L : List Oper} {o : Oper} {S : World → Prop} (n : Nat) (ho : L.drop n = [o]) (hm : P.follows .mixedOrders = true) (hL : lastT (L.take n) o = true) (hS : S w.drew)
    (h : S w.drew → wpAnyH P .any (L.take n).toArray (lastQ P L.toArray Q (L.take n).length) S (L.take n).length (Array.replicate (L.take n).length false) a w.drew) : (Code.region id L.toArray true).wp P Q a w := by
  have e : L = L.take n ++ [o] := by rw [← ho, List.take_append_drop]
  generalize L.take n = l at *
  subst e
  have H := lastTP hL
  refine wp_region_any hm ?_
  have h2 : wpAny P .any l.toArray (lastQ P (l ++ [o]).toArray Q l.length) l.length (Array.replicate l.length false) a { w with drawn := w.drawn + 1 } := wpAny_of_held _ _ _ _ (h hS)
  have h3 := any_snocT H l.length (Array.replicate (l.length + 1) false) (Array.replicate l.length false) a _ (by simp) (by simp) (fun i hi => by simp [hi, show i < l.length + 1 by omega]) (by simp) (fun j oj hj hd => by
    rw [Array.getD_eq_getD_getElem?, Array.getElem?_replicate] at hd
    split at hd <;> cases hd) h2
  simpa using h3
end
end Go.Proofs.YtdceimnapbblnaaGreat
namespace Go.Proofs.YtdceimnapbblnaaGreat
open Go.RowKit
set_option linter.unusedVariables false

theorem size_int : (Tryz.prog.info? 3).map (·.size) = some 1 := by kernel_rfl
theorem ints_one (l : List Int) : ∀ v ∈ l.map (Value.int .i64), v.oneCell' = true := by
  intro v hv
  simp at hv
  obtain ⟨a, _, rfl⟩ := hv
  rfl
theorem len_min {n : Nat} {B x : Int} (h : n ≤ 12) : ((digL n B x).map (Value.int .i64)).length = Nat.min 12 n := by rw [List.length_map, digL_len]; exact (Nat.min_eq_right h).symm
theorem belA9 {w w4 : World} {o : Obj} (h : Below w.heap.size w w4) : Below w.heap.size w (w4.alloc o) := h.alloc h.size o
theorem splice_all {l m : List Int} (h : l.length = m.length) : splice (l.map (Value.int .i64)) 0 (m.map (Value.int .i64)) = m.map (Value.int .i64) := by
  simp [splice, h]
/-- the first digits of a row, read from where it lies, behind a call and a new block -/
theorem row_src {n : Nat} {B x : Int} {w3 w4 : World} {g : Nat} {A : TypeId} {o : Obj} (hn : n ≤ 12) (h : w3.heap[g]? = some (.cells (zv (rowZ n (digL n B x))) A (0, 0))) (hb : Below w3.heap.size w3 w4) :
    ∀ j v, ((digL n B x).map (Value.int .i64))[j]? = some v → (w4.alloc o).cell? ((⟨g, 0, none⟩ : Addr).add j) = some v := by
  intro j v hv
  have hg : g < w3.heap.size := (Array.getElem?_eq_some_iff.1 h).1
  have hg4 : g < w4.heap.size := Nat.lt_of_lt_of_le hg hb.size
  have e : (⟨g, 0, none⟩ : Addr).add j = ⟨g, j, none⟩ := by unfold Addr.add; split <;> simp_all
  rw [e, World.cell?_alloc_past o g j hg4, hb.cell (p := ⟨g, j, none⟩) hg, cell_of_row _ _ _ _ _ _ h, ← hv]
  have hj : j < n := by
    have := (List.getElem?_eq_some_iff.1 hv).1
    simpa [digL_len] using this
  simp only [zv, rowZ, List.map_append, List.getElem?_toArray]
  rw [List.getElem?_append_left (by simp [digL_len]; omega)]

theorem row_size {n : Nat} {B x : Int} (h : n ≤ 12) : (zv (rowZ n (digL n B x))).size = 12 := by rw [zv_size]; simp [rowZ, digL_len]; omega
theorem row_len {n : Nat} {B x : Int} (h : n ≤ 12) : (rowZ n (digL n B x)).length = 12 := by simp [rowZ, digL_len]; omega

/-- a row that is stored into the block that was made last: what stands behind it is said of any such world -/
theorem wpList_store_new {P : Program} {ops : Array Oper} {rest : List Oper} {o : Oper} {a : Act} {Q : Exit → Act → World → Prop} (hgd : o.guard = none) (ty : TypeId) (x y : Operand) (ho : o.op = .store ty x y)
    (w0 : World) (z r : Array Value) (hx : a.eval x = .pointer (some ⟨w0.heap.size, 0, none⟩)) (hy : a.eval y = .agg r) (A : TypeId) (hi : (P.info? ty).map (·.size) = some r.size)
    (hold : z.size = r.size) (h1 : r.all (·.oneCell') = true)
    (h : ∀ w', Hid (w'.heap[w0.heap.size]? = some (.cells r A (0, 0))) → Below w0.heap.size w0 w' → wpList P ops Q rest (a.put o.dst undef) w') : wpList P ops Q (o :: rest) a (w0.alloc (.cells z A)) := by
  refine wpList_store_row hgd ty x y ho w0.heap.size r hx hy A z (heap_alloc_new _ _) hi hold h1 ?_
  exact h _ (setRow_heap _ _ _ _ _ _ (heap_alloc_new _ _)) (below_setRow ((Below.refl _ _).alloc (Nat.le_refl _) _) (Nat.le_refl _) _)

end Go.Proofs.YtdceimnapbblnaaGreat
namespace Go.Proofs.YtdceimnapbblnaaGreat
open Go.RowKit Go.Deep
set_option linter.unusedVariables false
theorem asked_no {b d : Int} {ps : List Pr} {x k : Int} (h : goodP b d ps = false ∨ hasB (idsP ps) x = false ∨ numB b d k = false) : askP b d ps x k = false := by
  unfold askP
  rcases h with h | h | h <;> rw [h] <;> simp
set_option maxHeartbeats 1600000 in
theorem lasked4_any (b d : Int) (a : Option Addr) (cap : Nat) (ps : List Pr) (x k : Int) (w : World) (hm : ps.length ≤ 1048576) (hr : PeersAt w a ps) :
    Calls Tryz.prog 97 #[.agg #[.int .i64 b, .int .i64 d, .slice a ps.length cap], .int .i64 x, .int .i64 k] w fun e w' => e = .returned (.bool (askP b d ps x k)) ∧ Below w.heap.size w w' := by
  have hil := idsP_len ps
  have CG := lgood_any b d a cap ps (w.alloc (.cells #[.int .i64 b, .int .i64 d, .slice a ps.length cap] 28)) hm (hr.alloc _)
  have HR : Hid (PeersAt w a ps) := hr
  clear hr
  cases hg : goodP b d ps
  · rw [hg] at CG
    rw [asked_no (.inl hg)]
    clear hg
    go_enter Tryz.func97, Tryz.ntmps97
    go_wp2_with fail
    refine CG.mono ?_
    rintro e w1 ⟨rfl, hw1⟩
    go_wp2
    go_ret
    exact ⟨rfl, bel1 hw1 (by simp)⟩
  · rw [hg] at CG
    have l2 := (goodP_true hg).1.l2
    rw [hil] at l2
    have CM : ∀ w1, BxP w w1 b d (.slice a ps.length cap) → Calls Tryz.prog 147 #[.agg #[.int .i64 b, .int .i64 d, .slice a ps.length cap]] w1 fun e w' => ∃ a1 cap1, e = .returned (.slice a1 ps.length cap1) ∧ RowAt w' a1 (idsP ps) ∧ Below w1.heap.size w1 w' := fun w1 h => by
      refine (lmembers_any b d a cap ps w1 hm (HR.out.keep h.bel)).mono ?_
      rintro e w2 ⟨v1, rfl, hown1, hw1⟩
      obtain ⟨a1, cap1, rfl, hc1, hrow1⟩ := own_rowAt hown1
      rw [hil]
      exact ⟨a1, cap1, rfl, hrow1, hw1⟩
    cases hh : hasB (idsP ps) x
    · rw [asked_no (.inr (.inl hh))]
      clear hg
      go_enter Tryz.func97, Tryz.ntmps97
      go_wp2_with fail
      refine CG.mono ?_
      rintro e w1 ⟨rfl, hw1⟩
      have BX1 : Hid (BxP w w1 b d (.slice a ps.length cap)) := bxP1 hw1 (by simp)
      clear CG hw1
      obtain ⟨_, _, q0, q1, q2⟩ := BX1.out
      go_wp2_with fail
      refine (CM _ BX1.out).mono ?_
      rintro e w2 ⟨a1, cap1, rfl, row1, hw2⟩
      have CH := lhas_any a1 cap1 (idsP ps) x w2 (by unfold maxLen; omega) row1
      rw [hil, hh] at CH
      have B2 : Hid (Below w.heap.size w w2) := belt BX1.out.bel hw2
      clear CM q0 q1 q2 hh row1 hw2
      go_wp2_with fail
      refine CH.mono ?_
      rintro e w3 ⟨rfl, hw3⟩
      subst hw3
      go_wp2
      go_ret
      exact ⟨rfl, B2.out⟩
    · have hn := numsB_1 b d k
      have hv : Hid (askP b d ps x k = numB b d k) := by unfold Hid askP; rw [hg, hh]; simp
      clear hg
      generalize askP b d ps x k = A at *
      go_enter Tryz.func97, Tryz.ntmps97
      go_wp2_with fail
      refine CG.mono ?_
      rintro e w1 ⟨rfl, hw1⟩
      have BX1 : Hid (BxP w w1 b d (.slice a ps.length cap)) := bxP1 hw1 (by simp)
      clear CG hw1
      obtain ⟨_, _, q0, q1, q2⟩ := BX1.out
      go_wp2_with fail
      refine (CM _ BX1.out).mono ?_
      rintro e w2 ⟨a1, cap1, rfl, row1, hw2⟩
      have CH := lhas_any a1 cap1 (idsP ps) x w2 (by unfold maxLen; omega) row1
      rw [hil, hh] at CH
      have BX2 : Hid (BxP w w2 b d (.slice a ps.length cap)) := BX1.out.keep hw2
      clear CM q0 q1 q2 hh row1 hw2 BX1
      obtain ⟨_, _, q0, q1, q2⟩ := BX2.out
      go_wp2_with fail
      refine CH.mono ?_
      rintro e w3 ⟨rfl, hw3⟩
      subst hw3
      go_wp2_with fail
      refine (lnums_any b d _ _ _ [k] _ (by simp [maxLen]) ?hl ?hc).mono ?_
      case hl => simp
      case hc =>
        intro i hi
        match i, hi with
        | 0, _ => simp
      rintro e w4 ⟨rfl, hw4⟩
      go_wp2
      go_ret
      exact ⟨ret_bool hv.out.symm, belt BX2.out.bel (bel1 hw4 (by simp))⟩
theorem sz_pow {d : Int} (hd : 0 ≤ d) (m : Nat) : sz ((m : Int) * d) = sz d ^ m := by
  unfold sz
  rw [← Int.pow_mul]
  congr 1
  rw [Int.toNat_mul (by omega) hd, Int.toNat_natCast, Nat.mul_comm]
theorem digL_get {B : Int} (hB : 0 < B) : ∀ (n : Nat) (x : Int) (i : Nat), i < n → (digL n B x).getD i 0 = x / B ^ (n - 1 - i) % B
  | 0, x, i, h => by omega
  | n + 1, x, i, h => by
    unfold digL
    by_cases hi : i < n
    · rw [show n + 1 - 1 - i = (n - 1 - i) + 1 by omega]
      have := digL_get hB n (x / B) i hi
      rw [List.getD_eq_getElem?_getD, List.getElem?_append_left (by rw [digL_len]; exact hi), ← List.getD_eq_getElem?_getD, this, Int.ediv_ediv_of_nonneg (by omega), Int.pow_succ, Int.mul_comm]
    · obtain rfl : i = n := by omega
      rw [List.getD_eq_getElem?_getD, List.getElem?_append_right (by rw [digL_len]; exact Nat.le_refl _), digL_len]
      simp
theorem dgt4_get {b d k : Int} {m : Nat} (hg : gsB b d = true) (m1 : 1 ≤ m) (m2 : m ≤ cnt b d) : (digL (cnt b d) (sz d) k).getD (cnt b d - m) 0 = dgt4 d k (m : Int) := by
  obtain ⟨h1, h2, h3, h4, _⟩ := gsB_true hg
  have hs := sz_bd h3 (show d ≤ 12 by omega)
  rw [digL_get (by omega) _ _ _ (by omega), show cnt b d - 1 - (cnt b d - m) = m - 1 by omega]
  unfold dgt4
  rw [show ((m : Int) - 1) = ((m - 1 : Nat) : Int) by omega, sz_pow (by omega)]
theorem row_get {n i : Nat} {l : List Int} (hl : l.length = n) (hi : i < n) : (zv (rowZ n l))[i]? = some (.int .i64 (l.getD i 0)) := by
  have h : i < (rowZ n l).length := by simp [rowZ, hl]; omega
  rw [zv_get _ _ h]
  congr 2
  unfold rowZ
  rw [List.getD_eq_getElem?_getD, List.getElem?_append_left (by omega), List.getD_eq_getElem?_getD]
set_option maxRecDepth 100000 in
set_option maxHeartbeats 1600000 in
theorem nextDigit_any (b d k : Int) (m : Nat) (w : World) (hg : gsB b d = true) (k1 : 0 ≤ k) (k2 : k < sz b) (m1 : 1 ≤ m) (m2 : m ≤ cnt b d) :
    Calls Tryz.prog 146 #[.agg #[.int .i64 b, .int .i64 d], .int .i64 k, .int .i64 (m : Int)] w fun e w' => e = .returned (.int .i64 (dgt4 d k (m : Int))) ∧ Below w.heap.size w w' := by
  obtain ⟨hb1, hb2, hd1, hd2, _⟩ := gsB_true hg
  obtain ⟨hq, q1, q2⟩ := cnt_bd hb1 hb2 hd1 hd2
  have hv := dgt4_get (k := k) hg m1 m2
  have HI : Hid ((Tryz.prog.info? 242).map (·.size) = some (zv (rowZ (cnt b d) (digL (cnt b d) (sz d) k))).size) := by
    show _ = _
    rw [row_size q2]; kernel_rfl
  have HO : Hid ((zv (List.replicate 12 0)).size = (zv (rowZ (cnt b d) (digL (cnt b d) (sz d) k))).size) := by
    show _ = _
    rw [row_size q2, zv_size]; rfl
  have HN : Hid ((zv (rowZ (cnt b d) (digL (cnt b d) (sz d) k))).all (·.oneCell') = true) := zv_one _
  have HG : Hid ((zv (rowZ (cnt b d) (digL (cnt b d) (sz d) k)))[cnt b d - m]? = some (.int .i64 (dgt4 d k (m : Int)))) := by
    unfold Hid
    rw [row_get (digL_len _ _ _) (by omega), hv]
  clear hv
  go_enter Tryz.func146, Tryz.ntmps146
  go_wp2_with fail
  refine (row_any _ _ _ _ hb1 hb2 hd1 hd2 k1 k2).mono ?_
  rintro e w1 ⟨rfl, hw1⟩
  obtain ⟨k10, k11, z1⟩ := keep2 (bk := w.heap.size) (u := .int .i64 b) (v := .int .i64 d) hw1 (by simp; try omega) (by simp) (by simp)
  go_wp2_with ((refine wpList_store_new rfl 242 (.tmp 7) (.tmp 10) rfl w1 _ _ rfl rfl _ HI.out HO.out HN.out ?_; intro w2 s21 hw2; obtain ⟨k20, k21, z2⟩ := keep2 hw2 z1 k10 k11))
  refine (count_any _ _ _ hb1 hb2 hd1 hd2).mono ?_
  rintro e w3 ⟨rfl, hw3⟩
  have c5 : w3.cell? ⟨w1.heap.size, cnt b d - m, none⟩ = some (.int .i64 (dgt4 d k (m : Int))) := by
    rw [hw3.cell (p := ⟨w1.heap.size, cnt b d - m, none⟩) (Array.getElem?_eq_some_iff.1 s21.out).1, cell_of_row w2 _ _ _ _ _ s21.out]
    exact HG.out
  have hi : (cnt b d : Int) - (m : Int) = ((cnt b d - m : Nat) : Int) := by omega
  have hi2 : cnt b d - m < 12 := by omega
  have B3 : Hid (Below w.heap.size w w3) := belt (belt (bel1 hw1 (by simp)) hw2) hw3
  clear HI HO HN HG s21 hw3 hw2 hw1 k20 k21 k10 k11
  generalize cnt b d - m = i at *
  obtain ⟨g, hg2⟩ : ∃ g, g = dgt4 d k (m : Int) := ⟨_, rfl⟩
  rw [← hg2] at c5
  have HG2 : Hid (g = dgt4 d k (m : Int)) := hg2
  clear hg2
  go_wp2_with fail
  go_ret
  exact ⟨ret_int HG2.out, B3.out⟩
set_option maxHeartbeats 1600000 in
theorem ldigit4_any (b d k l : Int) (w : World) (hg : gsB b d = true) (k1 : 0 ≤ k) (k2 : k < sz b) (l1 : 1 ≤ l) (l2 : l ≤ b / d) :
    Calls Tryz.prog 193 #[.agg #[.int .i64 b, .int .i64 d], .int .i64 k, .int .i64 l] w fun e w' => e = .returned (.int .i64 (dgt4 d k l)) ∧ Below w.heap.size w w' := by
  obtain ⟨hb1, hb2, hd1, hd2, _⟩ := gsB_true hg
  obtain ⟨hq, q1, q2⟩ := cnt_bd hb1 hb2 hd1 hd2
  have hd3 : d ≤ 12 := by omega
  obtain ⟨hs1, hs2⟩ := sz_bd hd1 hd3
  obtain ⟨hs3, hs4⟩ := sz_bd hb1 hb2
  obtain ⟨nd1, nd2⟩ := ndbd hg (show 0 ≤ l - 1 by omega) (show l - 1 ≤ b / d by omega)
  obtain ⟨y, hy⟩ : ∃ y, y = (l - 1) * d := ⟨_, rfl⟩
  have HV : Hid (dgt4 d k l = k / sz y % sz d) := by unfold Hid dgt4; rw [hy]
  have hwy : wrap64 ((l - 1) * d) = y := by rw [← hy]; exact IntWalk.wrap64_in y (by omega)
  rw [← hy] at nd1 nd2
  clear hy
  have hK : k / 2 ^ y.toNat = k / sz y := rfl
  have K1 : 0 ≤ k / sz y := Int.ediv_nonneg k1 (Int.le_of_lt (sz_pos _))
  have K2 : k / sz y ≤ 4096 := Int.le_trans (Int.ediv_le_self _ k1) (by omega)
  generalize dgt4 d k l = G at *
  go_enter Tryz.func193, Tryz.ntmps193
  go_wp2_with fail
  have c0 : ∀ p : Kin (w.heap.size + 1) (w.alloc (.cells #[.int .i64 b, .int .i64 d] 25)), p.v.cell? ⟨w.heap.size, 0, none⟩ = some (.int .i64 b) := kin_cell (by omega) (by go_simp)
  have c1 : ∀ p : Kin (w.heap.size + 1) (w.alloc (.cells #[.int .i64 b, .int .i64 d] 25)), p.v.cell? ⟨w.heap.size, 1, none⟩ = some (.int .i64 d) := kin_cell (by omega) (by go_simp)
  refine region_kin (w.heap.size + 1) (by kernel_rfl) (by kernel_rfl) (fun hne => ?_)
  repeat (go_big_quiet_step ((go_at_call 240; exact kin_of (by simp) (lbase_any _ _ _ hd1 hd3))))
  refine wpQuiet_nil ?_
  intro _ hw'
  obtain ⟨⟨w1, hw1⟩, hw''⟩ := hw'
  obtain rfl : _ = w1 := hw''
  clear c0 c1 hne
  go_wp2
  go_ret
  exact ⟨ret_int HV.out.symm, ((Below.refl _ _).alloc (Nat.le_refl _) _).trans (hw1.mono (by omega))⟩
theorem num_ok {b d x : Int} (hg : gsB b d = true) (h1 : 0 ≤ x) (h2 : x < sz b) : numB b d x = true := numB_yes hg h1 h2
theorem bVal_eq {b d f x t : Int} (hg : gsB b d = true) (f1 : 0 ≤ f) (f2 : f < sz b) (x1 : 0 ≤ x) (x2 : x < sz b) (t1 : 0 ≤ t) (t2 : t < sz b) : bVal b d f x t = btwB b f x t := by
  unfold bVal aOk
  rw [num_ok hg f1 f2, num_ok hg x1 x2, num_ok hg t1 t2]
  simp
theorem aVal_eq {b d f x t : Int} (hg : gsB b d = true) (f1 : 0 ≤ f) (f2 : f < sz b) (x1 : 0 ≤ x) (x2 : x < sz b) (t1 : 0 ≤ t) (t2 : t < sz b) : aVal b d f x t = arcB b f x t := by
  unfold aVal aOk
  rw [num_ok hg f1 f2, num_ok hg x1 x2, num_ok hg t1 t2]
  simp
theorem sVal_eq {b d x g : Int} (hg : gsB b d = true) (x1 : 0 ≤ x) (x2 : x < sz b) (g1 : 0 ≤ g) (g2 : g < sz d) : sVal b d x g = shf b d x g := by
  unfold sVal sOk
  rw [num_ok hg x1 x2, digB_yes hg g1 g2]
  simp
/-- a peer stands for a number -/
def stdB (b i x t : Int) : Bool := decide (x = i ∨ btwB b i x t = true)
set_option maxHeartbeats 1600000 in
theorem standsFor_any (b d : Int) (q o : Nat) (p : Pr) (x : Int) (w : World) (hg : gsB b d = true) (i1 : 0 ≤ p.id) (i2 : p.id < sz b) (s1 : 0 ≤ p.succ) (s2 : p.succ < sz b) (x1 : 0 ≤ x) (x2 : x < sz b) (hq : q < w.heap.size) (hp : PeerAt w q o p) :
    Calls Tryz.prog 144 #[.agg #[.int .i64 b, .int .i64 d], .pointer (some ⟨q, o, none⟩), .int .i64 x] w fun e w' => e = .returned (.bool (stdB b p.id x p.succ)) ∧ Below w.heap.size w w' := by
  obtain ⟨c0, c1, _, _⟩ := hp
  obtain ⟨xi, xs, xp, bs⟩ := p
  have CB := fun w => Between_any b d xi x xs w
  rw [bVal_eq hg i1 i2 x1 x2 s1 s2] at CB
  have z0 : ∀ k : Kin (w.heap.size + 1) (w.alloc (.cells #[.int .i64 b, .int .i64 d] 25)), k.v.cell? ⟨q, o, none⟩ = some (.int .i64 xi) := kin_cell (by omega) ((cell_alloc_old' _ hq trivial).trans c0)
  have z1 : ∀ k : Kin (w.heap.size + 1) (w.alloc (.cells #[.int .i64 b, .int .i64 d] 25)), k.v.cell? ⟨q, o + 1, none⟩ = some (.int .i64 xs) := kin_cell (by omega) ((cell_alloc_old' _ hq trivial).trans c1)
  have b0 : ∀ p : Kin (w.heap.size + 1) (w.alloc (.cells #[.int .i64 b, .int .i64 d] 25)), p.v.cell? ⟨w.heap.size, 0, none⟩ = some (.int .i64 b) := kin_cell (by omega) (by go_simp)
  have b1 : ∀ p : Kin (w.heap.size + 1) (w.alloc (.cells #[.int .i64 b, .int .i64 d] 25)), p.v.cell? ⟨w.heap.size, 1, none⟩ = some (.int .i64 d) := kin_cell (by omega) (by go_simp)
  clear c0 c1
  have HV : Hid (stdB b xi x xs = (btwB b xi x xs || decide (x = xi))) := by
    unfold Hid stdB
    cases btwB b xi x xs <;> simp
  have HVV : Hid (∀ v, stdB b xi x xs = v → stdB b xi x xs = v) := fun _ h => h
  show Calls _ _ _ _ fun e w' => e = .returned (.bool (stdB b xi x xs)) ∧ _
  generalize stdB b xi x xs = V at *
  cases hb : btwB b xi x xs
  · rw [hb] at CB HV
    have HW : Hid (V = (x == xi)) := by
      have h := HV.out
      rw [Bool.false_or] at h
      exact h
    clear hb
    go_enter Tryz.func144, Tryz.ntmps144
    go_wp2_with fail
    refine region_kin (w.heap.size + 1) (by kernel_rfl) (by kernel_rfl) (fun hne => ?_)
    repeat (go_big_quiet_step ((go_at_call 216; exact kin_of (by simp) (CB _))))
    refine wpQuiet_nil ?_
    intro w5 hw'
    obtain ⟨⟨w6, hw5⟩, hw''⟩ := hw'
    obtain rfl : w5 = w6 := hw''
    have e0 : w5.cell? ⟨q, o, none⟩ = some (.int .i64 xi) := z0 ⟨w5, hw5⟩
    have e1 : w5.cell? ⟨q, o + 1, none⟩ = some (.int .i64 xs) := z1 ⟨w5, hw5⟩
    have B5 : Hid (Below w.heap.size w w5) := bel1 hw5 (by simp)
    clear z0 z1 b0 b1 hne hw5
    go_wp2
    go_ret
    exact ⟨ret_bool HW.out.symm, B5.out⟩
  · rw [hb] at CB HV
    have HW : Hid (V = true) := by
      have h := HV.out
      rw [Bool.true_or] at h
      exact h
    clear hb
    go_enter Tryz.func144, Tryz.ntmps144
    go_wp2_with fail
    refine region_kin (w.heap.size + 1) (by kernel_rfl) (by kernel_rfl) (fun hne => ?_)
    repeat (go_big_quiet_step ((go_at_call 216; exact kin_of (by simp) (CB _))))
    refine wpQuiet_nil ?_
    intro w5 hw'
    obtain ⟨⟨w6, hw5⟩, hw''⟩ := hw'
    obtain rfl : w5 = w6 := hw''
    have e0 : w5.cell? ⟨q, o, none⟩ = some (.int .i64 xi) := z0 ⟨w5, hw5⟩
    have e1 : w5.cell? ⟨q, o + 1, none⟩ = some (.int .i64 xs) := z1 ⟨w5, hw5⟩
    have B5 : Hid (Below w.heap.size w w5) := bel1 hw5 (by simp)
    clear z0 z1 b0 b1 hne hw5
    go_wp2
    go_ret
    exact ⟨ret_bool HW.out.symm, B5.out⟩
end Go.Proofs.YtdceimnapbblnaaGreat
namespace Go.Proofs.YtdceimnapbblnaaGreat
open Go.RowKit Go.Deep
set_option linter.unusedVariables false
/-- peers behind a pointer -/
structure PQ (w : World) (q : Nat) (b d : Int) (bk off n cap : Nat) (ps : List Pr) : Prop where
  lt : q < w.heap.size
  c0 : w.cell? ⟨q, 0, none⟩ = some (.int .i64 b)
  c1 : w.cell? ⟨q, 1, none⟩ = some (.int .i64 d)
  c2 : w.cell? ⟨q, 2, none⟩ = some (.slice (some ⟨bk, off, none⟩) n cap)
  pa : PeersAt w (some ⟨bk, off, none⟩) ps
  ln : ps.length = n
theorem PQ.keep {w w1 : World} {q : Nat} {b d : Int} {bk off n cap : Nat} {ps : List Pr} (h : PQ w q b d bk off n cap ps) (hb : Below w.heap.size w w1) : PQ w1 q b d bk off n cap ps :=
  ⟨Nat.lt_of_lt_of_le h.lt hb.size, (hb.cell (p := ⟨q, 0, none⟩) h.lt).trans h.c0, (hb.cell (p := ⟨q, 1, none⟩) h.lt).trans h.c1, (hb.cell (p := ⟨q, 2, none⟩) h.lt).trans h.c2, h.pa.keep hb, h.ln⟩
theorem succ_rng {b d : Int} {ps : List Pr} (hg : goodP b d ps = true) {x : Int} (hx : hasB (idsP ps) x = true) : 0 ≤ (peerI ps x).succ ∧ (peerI ps x).succ < sz b := by
  obtain ⟨_, h2, _⟩ := peerI_good hg hx
  rw [h2]
  exact has_rng (goodP_true hg).1 (nxt_has (goodP_true hg).1 x)
set_option maxHeartbeats 1600000 in
theorem startFrom_any (b d : Int) (q bk off n cap : Nat) (ps : List Pr) (x k : Int) (w : World) (hg : goodP b d ps = true) (hx : hasB (idsP ps) x = true) (k1 : 0 ≤ k) (k2 : k < sz b) (hq : PQ w q b d bk off n cap ps) :
    Calls Tryz.prog 141 #[.pointer (some ⟨q, 0, none⟩), .int .i64 x, .int .i64 k] w fun e w' => e = .returned (.agg (stt b d ps x k).cells) ∧ Below w.heap.size w w' := by
  have R := (goodP_true hg).1
  have gs := R.gs
  have l2 := R.l2
  rw [idsP_len] at l2
  obtain ⟨x1, x2⟩ := has_rng R hx
  obtain ⟨s1, s2⟩ := succ_rng hg hx
  obtain ⟨n1, n2⟩ := (show n = ps.length ∧ True from ⟨hq.ln.symm, trivial⟩)
  subst n1
  obtain ⟨hbk, pa⟩ := peer_at hx hq.pa
  have c1 := pa.c1
  have CP : ∀ p : Kin (w.heap.size + 1) (w.alloc (.cells #[.int .i64 0, .int .i64 0, .int .i64 0, .int .i64 0, .int .i64 0, .int .i64 0, .int .i64 0] 49)), Calls Tryz.prog 142 #[.pointer (some ⟨q, 0, none⟩), .int .i64 x] p.v fun e w' => e = .returned (.pointer (some ⟨bk, off + idxI ps x * 4, none⟩)) ∧ w' = p.v := fun p => by
    have h := hq.keep (((Below.refl _ _).alloc (Nat.le_refl _) _).trans (p.bel.mono (Nat.le_succ _)))
    exact peerOf_any q bk off cap ps x p.v (by omega) hx h.c2 h.pa
  have CI := fun w1 => imagFrom_any b d x (peerI ps x).succ k w1 gs x1 x2 s1 s2 k1 k2
  have z0 : ∀ p : Kin (w.heap.size + 1) (w.alloc (.cells #[.int .i64 0, .int .i64 0, .int .i64 0, .int .i64 0, .int .i64 0, .int .i64 0, .int .i64 0] 49)), p.v.cell? ⟨q, 0, none⟩ = some (.int .i64 b) := kin_cell (by have := hq.lt; omega) ((cell_alloc_old' _ hq.lt trivial).trans hq.c0)
  have z1 : ∀ p : Kin (w.heap.size + 1) (w.alloc (.cells #[.int .i64 0, .int .i64 0, .int .i64 0, .int .i64 0, .int .i64 0, .int .i64 0, .int .i64 0] 49)), p.v.cell? ⟨q, 1, none⟩ = some (.int .i64 d) := kin_cell (by have := hq.lt; omega) ((cell_alloc_old' _ hq.lt trivial).trans hq.c1)
  have y1 : ∀ p : Kin (w.heap.size + 1) (w.alloc (.cells #[.int .i64 0, .int .i64 0, .int .i64 0, .int .i64 0, .int .i64 0, .int .i64 0, .int .i64 0] 49)), p.v.cell? ⟨bk, off + idxI ps x * 4 + 1, none⟩ = some (.int .i64 (peerI ps x).succ) := kin_cell (by omega) ((cell_alloc_old' _ hbk trivial).trans c1)
  have HV : Hid ((stt b d ps x k).cells = #[.int .i64 x, .int .i64 (bestI b d x (peerI ps x).succ k).1, .int .i64 (bestI b d x (peerI ps x).succ k).2, .int .i64 0, .int .i64 0, .int .i64 0, .int .i64 0]) := rfl
  clear pa c1 hq
  generalize (stt b d ps x k).cells = A at *
  generalize (bestI b d x (peerI ps x).succ k).1 = v1 at *
  generalize (bestI b d x (peerI ps x).succ k).2 = v2 at *
  generalize (peerI ps x).succ = xs at *
  generalize idxI ps x = ix at *
  go_enter Tryz.func141, Tryz.ntmps141
  go_wp2_with fail
  refine region_kin (w.heap.size + 1) (by kernel_rfl) (by kernel_rfl) (fun hne => ?_)
  repeat (go_big_quiet_step (first | (go_at_call 142; exact kin_same (CP _)) | (go_at_call 214; exact kin_of (by simp) (CI _))))
  refine wpQuiet_nil ?_
  intro w5 hw'
  obtain ⟨⟨w6, hw5⟩, hw''⟩ := hw'
  obtain rfl : w5 = w6 := hw''
  have B5 : Hid (Below w.heap.size w w5) := bel1 hw5 (by simp)
  have K5 : Hid (Bk w5 w.heap.size #[.int .i64 0, .int .i64 0, .int .i64 0, .int .i64 0, .int .i64 0, .int .i64 0, .int .i64 0] 49) := (Bk.new w #[.int .i64 0, .int .i64 0, .int .i64 0, .int .i64 0, .int .i64 0, .int .i64 0, .int .i64 0] 49).keepN hw5 (by omega)
  clear z0 z1 y1 hne hw5 CP CI
  obtain ⟨f0, f1, f2, f3, f4, f5, f6⟩ := K5.out.f7
  obtain ⟨r0, r1, r2, r3, r4, r5, r6⟩ := Bk.c7 K5.out
  go_wp2_with fail
  refine bodyPost_ret (results_cell_row Tryz.results141 _ _ w.heap.size _ _ _ _ rfl (Bk.setL [.int .i64 x, .int .i64 v1, .int .i64 v2, .int .i64 0, .int .i64 0, .int .i64 0, .int .i64 0] 0 K5.out) Tryz.underlying49 rfl (by kernel_rfl)) rfl ⟨by rw [HV.out]; rfl, setL_below (Nat.le_refl _) [.int .i64 x, .int .i64 v1, .int .i64 v2, .int .i64 0, .int .i64 0, .int .i64 0, .int .i64 0] 0 B5.out⟩
theorem field_succ (xi xs xp : Int) (v : Value) (w : World) : (Instr.field 130 (.agg #[.int .i64 xi, .int .i64 xs, .int .i64 xp, v]) 1).run Tryz.prog w = .ok (.int .i64 xs) w := by kernel_rfl
theorem bkV_at {w : World} {a : Option Addr} {ps : List Pr} {x : Int} (hx : hasB (idsP ps) x = true) (hr : PeersAt w a ps) : ∃ ab nb cb, bkV w a ps x = .slice ab nb cb := by
  obtain ⟨h1, _⟩ := idxI_mem ps x hx
  obtain ⟨bk, off, rfl⟩ := peersAt_form hr (by omega)
  obtain ⟨_, h4⟩ := peer_at hx hr
  obtain ⟨ab, cb, c3, _⟩ := h4.c3
  refine ⟨ab, (peerI ps x).backs.length, cb, ?_⟩
  unfold bkV
  rw [if_pos hx]
  show (w.cell? ⟨bk, off + idxI ps x * 4 + 3, none⟩).getD undef = _
  rw [c3]
  rfl
set_option maxRecDepth 100000 in
set_option maxHeartbeats 3200000 in
theorem lstart_any (b d : Int) (a : Option Addr) (cap : Nat) (ps : List Pr) (x k : Int) (w : World) (hg : goodP b d ps = true) (hx : hasB (idsP ps) x = true) (k1 : 0 ≤ k) (k2 : k < sz b) (hr : PeersAt w a ps) :
    Calls Tryz.prog 99 #[.agg #[.int .i64 b, .int .i64 d, .slice a ps.length cap], .int .i64 x, .int .i64 k] w fun e w' => e = .returned (.agg (stt b d ps x k).cells) ∧ Below w.heap.size w w' := by
  have R := (goodP_true hg).1
  have gs := R.gs
  have l2 := R.l2
  rw [idsP_len] at l2
  obtain ⟨x1, x2⟩ := has_rng R hx
  obtain ⟨s1, s2⟩ := succ_rng hg hx
  have B2 : Below w.heap.size w ((w.alloc (.cells #[.int .i64 b, .int .i64 d, .slice a ps.length cap] 28)).alloc (.cells #[.int .i64 0, .int .i64 0, .int .i64 0, .int .i64 0, .int .i64 0, .int .i64 0, .int .i64 0] 49)) := ((Below.refl _ _).alloc (Nat.le_refl _) _).alloc (by simp) _
  have BX : BxP w ((w.alloc (.cells #[.int .i64 b, .int .i64 d, .slice a ps.length cap] 28)).alloc (.cells #[.int .i64 0, .int .i64 0, .int .i64 0, .int .i64 0, .int .i64 0, .int .i64 0, .int .i64 0] 49)) b d (.slice a ps.length cap) := bxP1 (N := w.heap.size + 1) ((Below.refl _ _).alloc (by simp) _) (Nat.le_refl _)
  have K2 : Bk ((w.alloc (.cells #[.int .i64 b, .int .i64 d, .slice a ps.length cap] 28)).alloc (.cells #[.int .i64 0, .int .i64 0, .int .i64 0, .int .i64 0, .int .i64 0, .int .i64 0, .int .i64 0] 49)) (w.heap.size + 1) #[.int .i64 0, .int .i64 0, .int .i64 0, .int .i64 0, .int .i64 0, .int .i64 0, .int .i64 0] 49 := by
    have := Bk.new (w.alloc (.cells #[.int .i64 b, .int .i64 d, .slice a ps.length cap] 28)) #[.int .i64 0, .int .i64 0, .int .i64 0, .int .i64 0, .int .i64 0, .int .i64 0, .int .i64 0] 49
    simpa using this
  have CP : ∀ w1, Below w.heap.size w w1 → Calls Tryz.prog 158 #[.agg #[.int .i64 b, .int .i64 d, .slice a ps.length cap], .int .i64 x] w1 fun e w' => e = .returned (.agg #[.int .i64 (peerI ps x).id, .int .i64 (peerI ps x).succ, .int .i64 (peerI ps x).point, bkV w a ps x]) ∧ Below w1.heap.size w1 w' := fun w1 hb => by
    have h := lpeer_any b d a cap ps x w1 (by omega) (hr.keep hb)
    rwa [bkV_keep hr hb (Nat.le_refl _)] at h
  have CI := fun w1 => lbest_any b d x (peerI ps x).succ k w1 gs x1 x2 s1 s2 k1 k2
  have HV : Hid ((stt b d ps x k).cells = #[.int .i64 x, .int .i64 (bestI b d x (peerI ps x).succ k).1, .int .i64 (bestI b d x (peerI ps x).succ k).2, .int .i64 0, .int .i64 0, .int .i64 0, .int .i64 0]) := rfl
  obtain ⟨ab, nb, cb, hvb⟩ := bkV_at hx hr
  rw [hvb] at CP
  clear hr hvb
  have bxa := BX.keep ((Below.refl _ _).drew)
  clear BX
  have HB2 : Hid _ := B2
  have HK2 : Hid (Bk ((w.alloc (.cells #[.int .i64 b, .int .i64 d, .slice a ps.length cap] 28)).alloc (.cells #[.int .i64 0, .int .i64 0, .int .i64 0, .int .i64 0, .int .i64 0, .int .i64 0, .int .i64 0] 49)) (w.heap.size + 1) #[.int .i64 0, .int .i64 0, .int .i64 0, .int .i64 0, .int .i64 0, .int .i64 0, .int .i64 0] 49) := K2
  clear B2 K2
  generalize (stt b d ps x k).cells = A at *
  generalize (bestI b d x (peerI ps x).succ k).1 = v1 at *
  generalize (bestI b d x (peerI ps x).succ k).2 = v2 at *
  generalize (peerI ps x).succ = xs at *
  generalize (peerI ps x).id = xi at *
  generalize (peerI ps x).point = xp at *
  have hfs := fun w1 => field_succ xi xs xp (.slice ab nb cb) w1
  go_enter Tryz.func99, Tryz.ntmps99
  go_wp2_with fail
  go_region_held (fun w' => w'.cell? ⟨w.heap.size, 0, none⟩ = some (.int .i64 b) ∧ w'.cell? ⟨w.heap.size, 1, none⟩ = some (.int .i64 d) ∧ w'.cell? ⟨w.heap.size, 2, none⟩ = some (.slice a ps.length cap)) (with_reducible (first | exact ⟨bxa.c0, bxa.c1, bxa.c2⟩ | exact ⟨bxb.c0, bxb.c1, bxb.c2⟩ | exact ⟨bxc.c0, bxc.c1, bxc.c2⟩)) (first | (go_at_call 158; refine (CP _ bxa.bel).mono ?_; rintro e wd ⟨rfl, hwd⟩; have bxb := bxa.keep hwd) | (go_at_call 157; refine (CI _).mono ?_; rintro e w5 ⟨rfl, hwe⟩; have bxc := bxb.keep hwe))
  have B5 : Hid (Below w.heap.size w w5) := bxc.bel
  have K5 : Hid (Bk w5 (w.heap.size + 1) #[.int .i64 0, .int .i64 0, .int .i64 0, .int .i64 0, .int .i64 0, .int .i64 0, .int .i64 0] 49) := ((HK2.out.keep ((Below.refl _ _).drew)).keep hwd).keep hwe
  clear bxa bxb bxc hwd hwe CP CI HB2 HK2
  obtain ⟨f0, f1, f2, f3, f4, f5, f6⟩ := K5.out.f7
  obtain ⟨r0, r1, r2, r3, r4, r5, r6⟩ := Bk.c7 K5.out
  go_wp2_with fail
  refine bodyPost_ret (results_cell_row Tryz.results99 _ _ (w.heap.size + 1) _ _ _ _ rfl (Bk.setL [.int .i64 x, .int .i64 v1, .int .i64 v2, .int .i64 0, .int .i64 0, .int .i64 0, .int .i64 0] 0 K5.out) Tryz.underlying49 rfl (by kernel_rfl)) rfl ⟨by rw [HV.out]; rfl, setL_below (by omega) [.int .i64 x, .int .i64 v1, .int .i64 v2, .int .i64 0, .int .i64 0, .int .i64 0, .int .i64 0] 0 B5.out⟩
end Go.Proofs.YtdceimnapbblnaaGreat
namespace Go.Proofs.YtdceimnapbblnaaGreat
open Go.RowKit Go.Deep
set_option linter.unusedVariables false
set_option linter.unusedSimpArgs false
/-- the message that a look begins with -/
def bgM (b d : Int) (ps : List Pr) (look x k : Int) : Mg := ⟨1, look, x, x, k, (stt b d ps x k).imag, (stt b d ps x k).left, 0, []⟩
structure BG2 (w w' : World) (q : Nat) (b d : Int) (ap am : Option Addr) (cp cm : Nat) (v3 v6 : Value) (m0 : Nat) (ps : List Pr) (ms : List Mg) (gs : List Int) (look x k : Int) (gA cA gB cB : Nat) : Prop where
  bk : Wire.Bk w' q #[.int .i64 b, .int .i64 d, .slice ap ps.length cp, v3, .slice (some ⟨gA, 0, none⟩) (ms.length + 1) cA, .slice (some ⟨gB, 0, none⟩) (gs.length + 1) cB, v6] 36
  bag : BagW gA (gA + 1) w' (some ⟨gA, 0, none⟩) cA (ms ++ [bgM b d ps look x k])
  own : w'.ownsRow w.heap.size 3 1 (.slice (some ⟨gB, 0, none⟩) (gs.length + 1) cB) (gs.length + 1) ((joinL gs look).map (Value.int .i64))
  old : (Value.slice am ms.length cm).ownBlock = some gA ∨ w.heap.size ≤ gA
  ne : ¬ gA = gB ∧ gA < w'.heap.size
  size : w.heap.size ≤ w'.heap.size
  oth : ∀ z, z < w.heap.size → ¬ z = q → (Value.slice am ms.length cm).ownBlock ≠ some z → w'.heap[z]? = w.heap[z]?
  bel : ∀ B W, B ≤ q → B ≤ m0 → B ≤ w.heap.size → Below B W w → Below B W w'
theorem getD_app {α : Type} (ms : List α) (m d : α) (i : Nat) (h : i ≤ ms.length) : (ms ++ [m]).getD i d = if i < ms.length then ms.getD i d else m := by
  rw [List.getD_eq_getElem?_getD, List.getElem?_append]
  split
  · rw [List.getD_eq_getElem?_getD]
  · rw [show i - ms.length = 0 by omega]; rfl
theorem BagW.snoc {m0 : Nat} {w1 : World} {g c : Nat} {ms : List Mg} {m : Mg} {zs : List Value} (hx : RowM zs ms ms.length) (ho : w1.ownsRow m0 102 9 (.slice (some ⟨g, 0, none⟩) (ms.length + 1) c) (ms.length + 1) (zs ++ mgV m (.slice none 0 0))) : BagW g (g + 1) w1 (some ⟨g, 0, none⟩) c (ms ++ [m]) := by
  have hl : (ms ++ [m]).length = ms.length + 1 := by simp
  have hz := hx.len
  refine ⟨zs ++ mgV m (.slice none 0 0), ?_, ⟨by rw [List.length_append, hl, hz]; simp [mgV]; omega, fun i hi => ⟨.slice none 0 0, fun j v hj => ?_, fun _ => rfl⟩⟩, fun z h => by
    have : g = z := by simpa [Value.ownBlock] using h
    omega⟩
  · rw [hl]
    obtain ⟨h1, h2 | ⟨g', cap', cur, h', hb, hc', r1, r2, r3, r4⟩⟩ := ho
    · exact absurd h2.1 (by simp)
    · have h'' := h'
      simp only [Value.slice.injEq, Option.some.injEq, Addr.mk.injEq, and_true, true_and] at h''
      obtain ⟨rfl, rfl⟩ := h''
      exact ⟨h1, .inr ⟨g, c, cur, rfl, Nat.le_refl _, hc', r1, r2, r3, r4⟩⟩
  · rw [hl] at hi
    rw [getD_app _ _ _ _ (by omega)] at hj
    by_cases h : i < ms.length
    · rw [if_pos h] at hj
      obtain ⟨s, e1, e2⟩ := hx.el i h
      rw [e2 h] at e1
      have h1 := e1 j v hj
      rw [List.getElem?_append_left (List.getElem?_eq_some_iff.1 h1).1]
      exact h1
    · rw [if_neg h] at hj
      have : i = ms.length := by omega
      subst this
      rw [List.getElem?_append_right (by omega), hz, show ms.length * 9 + j - ms.length * 9 = j by omega]
      exact hj
/-- behind the look put into Begun -/
structure BG0 (w wc : World) (q : Nat) (C : Array Value) (gs : List Int) (look : Int) (gB cB : Nat) : Prop where
  bk : Wire.Bk wc q C 36
  own : wc.ownsRow w.heap.size 3 1 (.slice (some ⟨gB, 0, none⟩) (gs.length + 1) cB) (gs.length + 1) ((joinL gs look).map (Value.int .i64))
  size : w.heap.size ≤ wc.heap.size
  oth : ∀ z, z < w.heap.size → ¬ z = q → wc.heap[z]? = w.heap[z]?
  bel : ∀ B W, B ≤ q → B ≤ w.heap.size → Below B W w → Below B W wc
set_option maxRecDepth 100000 in
set_option maxHeartbeats 6400000 in
theorem begin_any (q : Nat) (b d : Int) (ap am ag : Option Addr) (cp cm : Nat) (v3 v6 : Value) (m0 m1 p0 p1 : Nat) (ps : List Pr) (ms : List Mg) (gs : List Int) (look x k : Int) (w : World) (hq : Wire.Bk w q #[.int .i64 b, .int .i64 d, .slice ap ps.length cp, v3, .slice am ms.length cm, .slice ag gs.length gs.length, v6] 36) (hb : BagW m0 m1 w am cm ms) (hr : RowAt w ag gs) (hgn : ag = none → gs = []) (hgl : gs.length ≤ 12) (hml : ms.length ≤ 12)
    (hp : OwnPs p0 p1 w ap ps.length ps) (hqp : q < p0 ∨ p1 ≤ q) (hg : goodP b d ps = true) (hx : hasB (idsP ps) x = true) (k1 : 0 ≤ k) (k2 : k < sz b) (hm0w : m0 ≤ w.heap.size) (hqm : ∀ z, (Value.slice am ms.length cm).ownBlock = some z → ¬ z = q) :
    Calls Tryz.prog 96 #[.pointer (some ⟨q, 0, none⟩), .int .i64 look, .int .i64 x, .int .i64 k] w fun e w' => ∃ gA cA gB cB, e = .returned (.tuple #[]) ∧ BG2 w w' q b d ap am cp cm v3 v6 m0 ps ms gs look x k gA cA gB cB := by
  have HQ : Hid (Wire.Bk w q #[.int .i64 b, .int .i64 d, .slice ap ps.length cp, v3, .slice am ms.length cm, .slice ag gs.length gs.length, v6] 36) := hq
  have HBG : Hid (BagW m0 m1 w am cm ms) := hb
  have HRG : Hid (RowAt w ag gs) := hr
  have HGN : Hid (ag = none → gs = []) := hgn
  have HP : Hid (OwnPs p0 p1 w ap ps.length ps) := hp
  have HG : Hid (goodP b d ps = true) := hg
  have HX : Hid (hasB (idsP ps) x = true) := hx
  have HK2 : Hid (k < sz b) := k2
  have HQM : Hid (∀ z, (Value.slice am ms.length cm).ownBlock = some z → ¬ z = q) := hqm
  have hq0 : q < w.heap.size := hq.lt
  obtain ⟨j0, j1, j2, j3, j4, j5, j6⟩ := Wire.Bk.m7 hq
  clear hq hb hr hgn hp hg hx k2 hqm
  go_enter Tryz.func96, Tryz.ntmps96
  go_wp2_with fail
  go_cut [0] (fun v0 wc => ∃ gB cB : Nat, v0 = .pointer (some ⟨q, 0, none⟩) ∧ Hid (BG0 w wc q #[.int .i64 b, .int .i64 d, .slice ap ps.length cp, v3, .slice am ms.length cm, .slice (some ⟨gB, 0, none⟩) (gs.length + 1) cB, v6] gs look gB cB))
  case first =>
    refine region_held_lastT (S := fun w' => Below w.heap.size w w') 16 rfl (by kernel_rfl) (by kernel_rfl) ((Below.refl _ _).drew) (fun hs0 => ?_)
    simp only [List.take_succ_cons, List.take_zero]
    have hdz : Hid (w.drew.heap.size = w.heap.size) := rfl
    generalize w.drew = wd at *
    refine wpAnyH_take (i := 0) (oi := _) (v := _) rfl (by kernel_rfl) (by kernel_rfl) (by kernel_rfl) (fun _ _ _ h => h) (.inl ⟨by rfl, by intro w hSw; go_simp; with_reducible rfl⟩) hs0 ?_
    try simp only [Act.put, List.setIfInBounds_toArray, List.set_cons_zero, List.set_cons_succ]
    refine wpAnyH_take (i := 1) (oi := _) (v := _) rfl (by kernel_rfl) (by kernel_rfl) (by kernel_rfl) (fun _ _ _ h => h) (.inl ⟨by rfl, by intro w hSw; go_simp; with_reducible rfl⟩) hs0 ?_
    try simp only [Act.put, List.setIfInBounds_toArray, List.set_cons_zero, List.set_cons_succ]
    refine wpAnyH_take (i := 2) (oi := _) (v := _) rfl (by kernel_rfl) (by kernel_rfl) (by kernel_rfl) (fun _ _ _ h => h) (.inl ⟨by rfl, by intro w hSw; go_simp; with_reducible rfl⟩) hs0 ?_
    try simp only [Act.put, List.setIfInBounds_toArray, List.set_cons_zero, List.set_cons_succ]
    refine wpAnyH_take (i := 3) (oi := _) (v := _) rfl (by kernel_rfl) (by kernel_rfl) (by kernel_rfl) (fun _ _ _ h => h) (.inl ⟨by rfl, by intro w hSw; go_simp; with_reducible rfl⟩) hs0 ?_
    try simp only [Act.put, List.setIfInBounds_toArray, List.set_cons_zero, List.set_cons_succ]
    refine wpAnyH_take (i := 4) (oi := _) (v := _) rfl (by kernel_rfl) (by kernel_rfl) (by kernel_rfl) (fun _ _ _ h => h) (.inl ⟨by rfl, by intro w hSw; have hcc := (hSw.cell (p := ⟨q, 5, none⟩) hq0).trans j5; go_simp; with_reducible rfl⟩) hs0 ?_
    try simp only [Act.put, List.setIfInBounds_toArray, List.set_cons_zero, List.set_cons_succ]
    refine wpAnyH_take (i := 5) (oi := _) (v := _) rfl (by kernel_rfl) (by kernel_rfl) (by kernel_rfl) (fun _ _ _ h => h) (.inl ⟨by rfl, by intro w hSw; go_simp; with_reducible rfl⟩) hs0 ?_
    try simp only [Act.put, List.setIfInBounds_toArray, List.set_cons_zero, List.set_cons_succ]
    refine wpAnyH_take (i := 6) (oi := _) (v := _) rfl (by kernel_rfl) (by kernel_rfl) (by kernel_rfl) (fun _ _ _ h => h) (.inl ⟨by rfl, by intro w hSw; go_simp; with_reducible rfl⟩) hs0 ?_
    try simp only [Act.put, List.setIfInBounds_toArray, List.set_cons_zero, List.set_cons_succ]
    refine wpAnyH_take (i := 7) (oi := _) (v := _) rfl (by kernel_rfl) (by kernel_rfl) (by kernel_rfl) (fun _ _ _ h => h) (.inl ⟨by rfl, by intro w hSw; go_simp; with_reducible rfl⟩) hs0 ?_
    try simp only [Act.put, List.setIfInBounds_toArray, List.set_cons_zero, List.set_cons_succ]
    refine wpAnyH_take (i := 8) (oi := _) (v := _) rfl (by kernel_rfl) (by kernel_rfl) (by kernel_rfl) (fun _ _ _ h => h) (.inl ⟨by rfl, by intro w hSw; have hcc := (hSw.cell (p := ⟨q, 5, none⟩) hq0).trans j5; go_simp; with_reducible rfl⟩) hs0 ?_
    try simp only [Act.put, List.setIfInBounds_toArray, List.set_cons_zero, List.set_cons_succ]
    refine wpAnyH_take (i := 9) (oi := _) (v := _) rfl (by kernel_rfl) (by kernel_rfl) (by kernel_rfl) (fun _ _ _ h => h) (.inl ⟨by rfl, by intro w hSw; go_simp; with_reducible rfl⟩) hs0 ?_
    try simp only [Act.put, List.setIfInBounds_toArray, List.set_cons_zero, List.set_cons_succ]
    refine wpAnyH_take (i := 11) (oi := _) (v := _) rfl (by kernel_rfl) (by kernel_rfl) (by kernel_rfl) (fun _ _ _ h => h) (.inl ⟨by rfl, by intro w hSw; go_simp; with_reducible rfl⟩) hs0 ?_
    try simp only [Act.put, List.setIfInBounds_toArray, List.set_cons_zero, List.set_cons_succ]
    refine wpAnyH_ready (rs := [10, 12]) (by kernel_rfl) (by simp) ?_
    refine AllReadyH.cons rfl (fun K hK => ?_) ?_
    · skip
      go_simp
      refine (below_any ag gs.length gs look wd (by unfold maxLen; omega) (HRG.out.keep hs0)).mono ?_
      rintro e w9 ⟨rfl, h9⟩
      have h9' := h9.symm
      subst h9'
      refine hK.out _ _ hs0 (fun _ => ?_)
      clear hK K h9
      try simp only [Act.put, List.setIfInBounds_toArray, List.set_cons_zero, List.set_cons_succ]
      refine wpAnyH_ready (rs := [12]) (by kernel_rfl) (by simp) ?_
      refine AllReadyH.cons rfl (fun K hK => ?_) AllReadyH.nil
      go_simp
      have hw4 : Below wd.heap.size wd (wd.alloc (.cells #[.int .i64 look] 3)) := belA _ _
      have hs4 := belt hs0 hw4
      have hV : (wd.alloc (.cells #[.int .i64 look] 3)).heap[wd.heap.size]? = some (.cells #[.int .i64 look] 3 (0, 0)) := heap_alloc_new _ _
      refine hK.out _ _ hs4 (fun _ => ?_)
      clear hK K
      try simp only [Act.put, List.setIfInBounds_toArray, List.set_cons_zero, List.set_cons_succ]
      generalize wd.alloc (.cells #[.int .i64 look] 3) = w4 at *
      refine wpAnyH_ready (rs := [13]) (by kernel_rfl) (by simp) ?_
      refine AllReadyH.cons rfl (fun K hK => ?_) AllReadyH.nil
      go_simp
      have hRi : RowAt w4 ag gs := HRG.out.keep hs4
      refine (insert_full ag gs (blw gs look) wd.heap.size look w4 (by omega) (blw_le look gs) hRi hV HGN.out).mono ?_
      rintro e w5 ⟨v5, rfl, hown5, hw5⟩
      obtain ⟨gB, cB, rfl⟩ := Joins.ownsRow_form hown5 (by omega)
      have hs5 : Below w.heap.size w w5 := belt hs4 hw5
      have hz5 : w4.heap.size ≤ w5.heap.size := hw5.size
      refine hK.out _ _ hs5 (fun _ => ?_)
      clear hK K
      try simp only [Act.put, List.setIfInBounds_toArray, List.set_cons_zero, List.set_cons_succ]
      refine wpAnyH_take (i := 14) (oi := _) (v := _) rfl (by kernel_rfl) (by kernel_rfl) (by kernel_rfl) (fun _ _ _ h => h) (.inl ⟨by rfl, by intro w hSw; go_simp; with_reducible rfl⟩) hs5 ?_
      try simp only [Act.put, List.setIfInBounds_toArray, List.set_cons_zero, List.set_cons_succ]
      refine wpAnyH_take (i := 15) (oi := _) (v := _) rfl (by kernel_rfl) (by kernel_rfl) (by kernel_rfl) (fun _ _ _ h => h) (.inl ⟨by rfl, by intro w hSw; go_simp; with_reducible rfl⟩) hs5 ?_
      try simp only [Act.put, List.setIfInBounds_toArray, List.set_cons_zero, List.set_cons_succ]
      refine wpAnyH_done (by kernel_rfl) (lastQ_done rfl ?_) _
      have HQ5 : Hid (Wire.Bk w5 q #[.int .i64 b, .int .i64 d, .slice ap ps.length cp, v3, .slice am ms.length cm, .slice ag gs.length gs.length, v6] 36) := HQ.out.keep hs5
      have h5c := HQ5.out.cell 5
      have h5f := HQ5.out.fr 5
      simp at h5c
      have HO5 : Hid (w5.ownsRow w4.heap.size 3 1 (.slice (some ⟨gB, 0, none⟩) (gs.length + 1) cB) (gs.length + 1) ((joinL gs look).map (Value.int .i64))) := hown5
      have HS5 : Hid (Below w.heap.size w w5) := hs5
      have HZ5 : Hid (w.heap.size ≤ w4.heap.size ∧ w4.heap.size ≤ w5.heap.size) := ⟨hs4.size, hz5⟩
      clear hown5 hw5 hs5 hz5 hRi hV
      go_wp2_with fail
      have fin : BG0 w (w5.setCell ⟨q, 5, none⟩ (.slice (some ⟨gB, 0, none⟩) (gs.length + 1) cB)) q #[.int .i64 b, .int .i64 d, .slice ap ps.length cp, v3, .slice am ms.length cm, .slice (some ⟨gB, 0, none⟩) (gs.length + 1) cB, v6] gs look gB cB := by
        have z1 := HZ5.out
        refine ⟨HQ5.out.set 5 _, Joins.ownsRow_le (own_blocks HO5.out (fun z hz => heap_setCell_other _ _ _ _ (by have := (HO5.out.lt z hz).1; simp; omega))) z1.1, ?_, fun z h1 h2 => ?_, fun B W h1 h2 h3 => ?_⟩
        · simp [World.setCell]; omega
        · rw [heap_setCell_other _ _ _ _ (by simpa using h2)]; exact HS5.out.block z h1
        · exact (h3.trans (HS5.out.mono h2)).setCell (p := ⟨q, 5, none⟩) h1 _
      have FIN : Hid (BG0 w (w5.setCell ⟨q, 5, none⟩ (.slice (some ⟨gB, 0, none⟩) (gs.length + 1) cB)) q #[.int .i64 b, .int .i64 d, .slice ap ps.length cp, v3, .slice am ms.length cm, .slice (some ⟨gB, 0, none⟩) (gs.length + 1) cB, v6] gs look gB cB) := fin
      clear fin h5c h5f
      go_meet
      exact ⟨gB, cB, rfl, FIN⟩
    refine AllReadyH.cons rfl (fun K hK => ?_) AllReadyH.nil
    go_simp
    have hw4 : Below wd.heap.size wd (wd.alloc (.cells #[.int .i64 look] 3)) := belA _ _
    have hs4 := belt hs0 hw4
    have hV : (wd.alloc (.cells #[.int .i64 look] 3)).heap[wd.heap.size]? = some (.cells #[.int .i64 look] 3 (0, 0)) := heap_alloc_new _ _
    refine hK.out _ _ hs4 (fun _ => ?_)
    clear hK K
    try simp only [Act.put, List.setIfInBounds_toArray, List.set_cons_zero, List.set_cons_succ]
    generalize wd.alloc (.cells #[.int .i64 look] 3) = w4 at *
    refine wpAnyH_ready (rs := [10]) (by kernel_rfl) (by simp) ?_
    refine AllReadyH.cons rfl (fun K hK => ?_) AllReadyH.nil
    go_simp
    refine (below_any ag gs.length gs look w4 (by unfold maxLen; omega) (HRG.out.keep hs4)).mono ?_
    rintro e w9 ⟨rfl, h9⟩
    have h9' := h9.symm
    subst h9'
    refine hK.out _ _ hs4 (fun _ => ?_)
    clear hK K h9
    try simp only [Act.put, List.setIfInBounds_toArray, List.set_cons_zero, List.set_cons_succ]
    refine wpAnyH_ready (rs := [13]) (by kernel_rfl) (by simp) ?_
    refine AllReadyH.cons rfl (fun K hK => ?_) AllReadyH.nil
    go_simp
    have hRi : RowAt w4 ag gs := HRG.out.keep hs4
    refine (insert_full ag gs (blw gs look) wd.heap.size look w4 (by omega) (blw_le look gs) hRi hV HGN.out).mono ?_
    rintro e w5 ⟨v5, rfl, hown5, hw5⟩
    obtain ⟨gB, cB, rfl⟩ := Joins.ownsRow_form hown5 (by omega)
    have hs5 : Below w.heap.size w w5 := belt hs4 hw5
    have hz5 : w4.heap.size ≤ w5.heap.size := hw5.size
    refine hK.out _ _ hs5 (fun _ => ?_)
    clear hK K
    try simp only [Act.put, List.setIfInBounds_toArray, List.set_cons_zero, List.set_cons_succ]
    refine wpAnyH_take (i := 14) (oi := _) (v := _) rfl (by kernel_rfl) (by kernel_rfl) (by kernel_rfl) (fun _ _ _ h => h) (.inl ⟨by rfl, by intro w hSw; go_simp; with_reducible rfl⟩) hs5 ?_
    try simp only [Act.put, List.setIfInBounds_toArray, List.set_cons_zero, List.set_cons_succ]
    refine wpAnyH_take (i := 15) (oi := _) (v := _) rfl (by kernel_rfl) (by kernel_rfl) (by kernel_rfl) (fun _ _ _ h => h) (.inl ⟨by rfl, by intro w hSw; go_simp; with_reducible rfl⟩) hs5 ?_
    try simp only [Act.put, List.setIfInBounds_toArray, List.set_cons_zero, List.set_cons_succ]
    refine wpAnyH_done (by kernel_rfl) (lastQ_done rfl ?_) _
    have HQ5 : Hid (Wire.Bk w5 q #[.int .i64 b, .int .i64 d, .slice ap ps.length cp, v3, .slice am ms.length cm, .slice ag gs.length gs.length, v6] 36) := HQ.out.keep hs5
    have h5c := HQ5.out.cell 5
    have h5f := HQ5.out.fr 5
    simp at h5c
    have HO5 : Hid (w5.ownsRow w4.heap.size 3 1 (.slice (some ⟨gB, 0, none⟩) (gs.length + 1) cB) (gs.length + 1) ((joinL gs look).map (Value.int .i64))) := hown5
    have HS5 : Hid (Below w.heap.size w w5) := hs5
    have HZ5 : Hid (w.heap.size ≤ w4.heap.size ∧ w4.heap.size ≤ w5.heap.size) := ⟨hs4.size, hz5⟩
    clear hown5 hw5 hs5 hz5 hRi hV
    go_wp2_with fail
    have fin : BG0 w (w5.setCell ⟨q, 5, none⟩ (.slice (some ⟨gB, 0, none⟩) (gs.length + 1) cB)) q #[.int .i64 b, .int .i64 d, .slice ap ps.length cp, v3, .slice am ms.length cm, .slice (some ⟨gB, 0, none⟩) (gs.length + 1) cB, v6] gs look gB cB := by
      have z1 := HZ5.out
      refine ⟨HQ5.out.set 5 _, Joins.ownsRow_le (own_blocks HO5.out (fun z hz => heap_setCell_other _ _ _ _ (by have := (HO5.out.lt z hz).1; simp; omega))) z1.1, ?_, fun z h1 h2 => ?_, fun B W h1 h2 h3 => ?_⟩
      · simp [World.setCell]; omega
      · rw [heap_setCell_other _ _ _ _ (by simpa using h2)]; exact HS5.out.block z h1
      · exact (h3.trans (HS5.out.mono h2)).setCell (p := ⟨q, 5, none⟩) h1 _
    have FIN : Hid (BG0 w (w5.setCell ⟨q, 5, none⟩ (.slice (some ⟨gB, 0, none⟩) (gs.length + 1) cB)) q #[.int .i64 b, .int .i64 d, .slice ap ps.length cp, v3, .slice am ms.length cm, .slice (some ⟨gB, 0, none⟩) (gs.length + 1) cB, v6] gs look gB cB) := fin
    clear fin h5c h5f
    go_meet
    exact ⟨gB, cB, rfl, FIN⟩
  case rest =>
    obtain ⟨gB, cB, rfl, HC⟩ := hcut
    have hl1 : 1 ≤ ps.length := by have := (goodP_true HG.out).1.l1; rwa [idsP_len] at this
    have OP1 : OwnPs p0 p1 wc ap ps.length ps := HP.out.blocks (fun z a1 a2 a3 => HC.out.oth z a3 (by omega))
    obtain ⟨bk, hbk⟩ : ∃ bk, ap = some ⟨bk, 0, none⟩ := by
      rcases OP1.2 with h | ⟨g, L, ha, _⟩
      · rw [h] at hl1; simp at hl1
      · exact ⟨g, ha⟩
    have c0 := HC.out.bk.cell 0
    have c1 := HC.out.bk.cell 1
    have c2 := HC.out.bk.cell 2
    simp at c0 c1 c2
    rw [hbk] at c2
    have OP2 := OP1.peersAt
    rw [hbk] at OP2
    have CS := startFrom_any b d q bk 0 ps.length cp ps x k wc HG.out HX.out k1 HK2.out ⟨HC.out.bk.lt, c0, c1, c2, OP2, rfl⟩
    clear c0 c1 c2 OP1 hl1 OP2 hbk
    go_wp2_with fail
    refine CS.mono ?_
    rintro e w2 ⟨rfl, hw2⟩
    clear CS
    have hst : (stt b d ps x k).cells = #[.int .i64 (stt b d ps x k).at_, .int .i64 (stt b d ps x k).imag, .int .i64 (stt b d ps x k).left, .int .i64 0, .int .i64 0, .int .i64 0, .int .i64 0] := rfl
    rw [hst]
    have HI : Hid ((bgM b d ps look x k).x5 = (stt b d ps x k).imag ∧ (bgM b d ps look x k).x6 = (stt b d ps x k).left) := ⟨rfl, rfl⟩
    have HM : Hid (mgV (bgM b d ps look x k) (.slice none 0 0) = [.int .i64 1, .int .i64 look, .int .i64 x, .int .i64 x, .int .i64 k, .int .i64 (stt b d ps x k).imag, .int .i64 (stt b d ps x k).left, .int .i64 0, .slice none 0 0]) := rfl
    clear hst
    generalize (stt b d ps x k).imag = im at *
    generalize (stt b d ps x k).left = le at *
    generalize (stt b d ps x k).at_ = at1 at *
    have HQ2 : Hid (Wire.Bk w2 q #[.int .i64 b, .int .i64 d, .slice ap ps.length cp, v3, .slice am ms.length cm, .slice (some ⟨gB, 0, none⟩) (gs.length + 1) cB, v6] 36) := HC.out.bk.keep hw2
    have HW2 : Hid (Below wc.heap.size wc w2) := hw2
    have HZ2 : Hid (wc.heap.size ≤ w2.heap.size) := hw2.size
    clear hw2
    go_wp2_with fail
    obtain ⟨w3, hw3⟩ : ∃ w3, w3 = w2.alloc (.cells #[.int .i64 at1, .int .i64 im, .int .i64 le, .int .i64 0, .int .i64 0, .int .i64 0, .int .i64 0] 49) := ⟨_, rfl⟩
    rw [← hw3]
    have HQ3 : Wire.Bk w3 q #[.int .i64 b, .int .i64 d, .slice ap ps.length cp, v3, .slice am ms.length cm, .slice (some ⟨gB, 0, none⟩) (gs.length + 1) cB, v6] 36 := by rw [hw3]; exact HQ2.out.alloc _
    have HX3 : Wire.Bk w3 w2.heap.size #[.int .i64 at1, .int .i64 im, .int .i64 le, .int .i64 0, .int .i64 0, .int .i64 0, .int .i64 0] 49 := by rw [hw3]; exact Wire.Bk.new _ _ _
    have HZ3 : Hid (w3.heap.size = w2.heap.size + 1) := by rw [Hid, hw3]; simp
    have HW3 : Hid (Below wc.heap.size wc w3) := by rw [hw3]; exact belt HW2.out (belA _ _)
    clear hw3 HQ2
    obtain ⟨i0, hi, hz0, hz1, hz2⟩ := info_msgE
    refine region_held_lastT (S := fun w' => Wire.Bk w' q #[.int .i64 b, .int .i64 d, .slice ap ps.length cp, v3, .slice am ms.length cm, .slice (some ⟨gB, 0, none⟩) (gs.length + 1) cB, v6] 36 ∧ Wire.Bk w' w2.heap.size #[.int .i64 at1, .int .i64 im, .int .i64 le, .int .i64 0, .int .i64 0, .int .i64 0, .int .i64 0] 49) 18 rfl (by kernel_rfl) (by kernel_rfl) ⟨HQ3, HX3⟩ (fun hs0 => ?_)
    simp only [List.take_succ_cons, List.take_zero]
    have hdz : Hid (w3.drew.heap.size = w3.heap.size) := rfl
    have HB3 : Hid (Below w3.heap.size w3 w3.drew) := (Below.refl _ _).drew
    clear HQ3 HX3
    generalize w3.drew = wd at *
    refine wpAnyH_take (i := 0) (oi := _) (v := _) rfl (by kernel_rfl) (by kernel_rfl) (by kernel_rfl) (fun _ _ _ h => h) (.inl ⟨by rfl, by intro w hSw; go_simp; with_reducible rfl⟩) hs0 ?_
    try simp only [Act.put, List.setIfInBounds_toArray, List.set_cons_zero, List.set_cons_succ]
    refine wpAnyH_take (i := 1) (oi := _) (v := _) rfl (by kernel_rfl) (by kernel_rfl) (by kernel_rfl) (fun _ _ _ h => h) (.inl ⟨by rfl, by intro w hSw; go_simp; with_reducible rfl⟩) hs0 ?_
    try simp only [Act.put, List.setIfInBounds_toArray, List.set_cons_zero, List.set_cons_succ]
    refine wpAnyH_take (i := 2) (oi := _) (v := _) rfl (by kernel_rfl) (by kernel_rfl) (by kernel_rfl) (fun _ _ _ h => h) (.inl ⟨by rfl, by intro w hSw; go_simp; with_reducible rfl⟩) hs0 ?_
    try simp only [Act.put, List.setIfInBounds_toArray, List.set_cons_zero, List.set_cons_succ]
    refine wpAnyH_take (i := 3) (oi := _) (v := _) rfl (by kernel_rfl) (by kernel_rfl) (by kernel_rfl) (fun _ _ _ h => h) (.inl ⟨by rfl, by intro w hSw; go_simp; with_reducible rfl⟩) hs0 ?_
    try simp only [Act.put, List.setIfInBounds_toArray, List.set_cons_zero, List.set_cons_succ]
    refine wpAnyH_take (i := 4) (oi := _) (v := _) rfl (by kernel_rfl) (by kernel_rfl) (by kernel_rfl) (fun _ _ _ h => h) (.inl ⟨by rfl, by intro w hSw; have hcc := hSw.1.cell 4; simp at hcc; go_simp; with_reducible rfl⟩) hs0 ?_
    try simp only [Act.put, List.setIfInBounds_toArray, List.set_cons_zero, List.set_cons_succ]
    refine wpAnyH_take (i := 5) (oi := _) (v := _) rfl (by kernel_rfl) (by kernel_rfl) (by kernel_rfl) (fun _ _ _ h => h) (.inl ⟨by rfl, by intro w hSw; go_simp; with_reducible rfl⟩) hs0 ?_
    try simp only [Act.put, List.setIfInBounds_toArray, List.set_cons_zero, List.set_cons_succ]
    refine wpAnyH_take (i := 6) (oi := _) (v := _) rfl (by kernel_rfl) (by kernel_rfl) (by kernel_rfl) (fun _ _ _ h => h) (.inl ⟨by rfl, by intro w hSw; go_simp; with_reducible rfl⟩) hs0 ?_
    try simp only [Act.put, List.setIfInBounds_toArray, List.set_cons_zero, List.set_cons_succ]
    refine wpAnyH_take (i := 7) (oi := _) (v := _) rfl (by kernel_rfl) (by kernel_rfl) (by kernel_rfl) (fun _ _ _ h => h) (.inl ⟨by rfl, by intro w hSw; go_simp; with_reducible rfl⟩) hs0 ?_
    try simp only [Act.put, List.setIfInBounds_toArray, List.set_cons_zero, List.set_cons_succ]
    refine wpAnyH_take (i := 8) (oi := _) (v := _) rfl (by kernel_rfl) (by kernel_rfl) (by kernel_rfl) (fun _ _ _ h => h) (.inl ⟨by rfl, by intro w hSw; go_simp; with_reducible rfl⟩) hs0 ?_
    try simp only [Act.put, List.setIfInBounds_toArray, List.set_cons_zero, List.set_cons_succ]
    refine wpAnyH_take (i := 9) (oi := _) (v := _) rfl (by kernel_rfl) (by kernel_rfl) (by kernel_rfl) (fun _ _ _ h => h) (.inl ⟨by rfl, by intro w hSw; go_simp; with_reducible rfl⟩) hs0 ?_
    try simp only [Act.put, List.setIfInBounds_toArray, List.set_cons_zero, List.set_cons_succ]
    refine wpAnyH_take (i := 10) (oi := _) (v := _) rfl (by kernel_rfl) (by kernel_rfl) (by kernel_rfl) (fun _ _ _ h => h) (.inl ⟨by rfl, by intro w hSw; have hcc := hSw.2.cell 1; simp at hcc; go_simp; with_reducible rfl⟩) hs0 ?_
    try simp only [Act.put, List.setIfInBounds_toArray, List.set_cons_zero, List.set_cons_succ]
    refine wpAnyH_take (i := 11) (oi := _) (v := _) rfl (by kernel_rfl) (by kernel_rfl) (by kernel_rfl) (fun _ _ _ h => h) (.inl ⟨by rfl, by intro w hSw; go_simp; with_reducible rfl⟩) hs0 ?_
    try simp only [Act.put, List.setIfInBounds_toArray, List.set_cons_zero, List.set_cons_succ]
    refine wpAnyH_take (i := 12) (oi := _) (v := _) rfl (by kernel_rfl) (by kernel_rfl) (by kernel_rfl) (fun _ _ _ h => h) (.inl ⟨by rfl, by intro w hSw; have hcc := hSw.2.cell 2; simp at hcc; go_simp; with_reducible rfl⟩) hs0 ?_
    try simp only [Act.put, List.setIfInBounds_toArray, List.set_cons_zero, List.set_cons_succ]
    refine wpAnyH_take (i := 13) (oi := _) (v := _) rfl (by kernel_rfl) (by kernel_rfl) (by kernel_rfl) (fun _ _ _ h => h) (.inl ⟨by rfl, by intro w hSw; go_simp; with_reducible rfl⟩) hs0 ?_
    try simp only [Act.put, List.setIfInBounds_toArray, List.set_cons_zero, List.set_cons_succ]
    refine wpAnyH_ready (rs := [14]) (by kernel_rfl) (by simp) ?_
    refine AllReadyH.cons rfl (fun K hK => ?_) AllReadyH.nil
    go_simp
    have hs4 : Wire.Bk (wd.alloc (.cells #[.int .i64 1, .int .i64 look, .int .i64 x, .int .i64 x, .int .i64 k, .int .i64 im, .int .i64 le, .int .i64 0, .slice none 0 0] 102)) q #[.int .i64 b, .int .i64 d, .slice ap ps.length cp, v3, .slice am ms.length cm, .slice (some ⟨gB, 0, none⟩) (gs.length + 1) cB, v6] 36 ∧ Wire.Bk (wd.alloc (.cells #[.int .i64 1, .int .i64 look, .int .i64 x, .int .i64 x, .int .i64 k, .int .i64 im, .int .i64 le, .int .i64 0, .slice none 0 0] 102)) w2.heap.size #[.int .i64 at1, .int .i64 im, .int .i64 le, .int .i64 0, .int .i64 0, .int .i64 0, .int .i64 0] 49 := ⟨hs0.1.alloc _, hs0.2.alloc _⟩
    have hV : (wd.alloc (.cells #[.int .i64 1, .int .i64 look, .int .i64 x, .int .i64 x, .int .i64 k, .int .i64 im, .int .i64 le, .int .i64 0, .slice none 0 0] 102)).heap[wd.heap.size]? = some (.cells #[.int .i64 1, .int .i64 look, .int .i64 x, .int .i64 x, .int .i64 k, .int .i64 im, .int .i64 le, .int .i64 0, .slice none 0 0] 102 (0, 0)) := heap_alloc_new _ _
    have hw4 : Below wd.heap.size wd (wd.alloc (.cells #[.int .i64 1, .int .i64 look, .int .i64 x, .int .i64 x, .int .i64 k, .int .i64 im, .int .i64 le, .int .i64 0, .slice none 0 0] 102)) := belA _ _
    have hz4 : (wd.alloc (.cells #[.int .i64 1, .int .i64 look, .int .i64 x, .int .i64 x, .int .i64 k, .int .i64 im, .int .i64 le, .int .i64 0, .slice none 0 0] 102)).heap.size = wd.heap.size + 1 := by simp
    refine hK.out _ _ hs4 (fun _ => ?_)
    clear hK K
    try simp only [Act.put, List.setIfInBounds_toArray, List.set_cons_zero, List.set_cons_succ]
    generalize wd.alloc (.cells #[.int .i64 1, .int .i64 look, .int .i64 x, .int .i64 x, .int .i64 k, .int .i64 im, .int .i64 le, .int .i64 0, .slice none 0 0] 102) = w4 at *
    refine wpAnyH_ready (rs := [15]) (by kernel_rfl) (by simp) ?_
    refine AllReadyH.cons rfl (fun K hK => ?_) AllReadyH.nil
    rw [if_pos (by rfl)]
    have HB04 : Hid (∀ z, z < wc.heap.size → w4.heap[z]? = wc.heap[z]?) := fun z hz => by
      have z1 := HZ2.out; have z2 := HZ3.out; have z3 := hdz.out
      exact (hw4.block z (by omega)).trans ((HB3.out.block z (by omega)).trans (HW3.out.block z hz))
    obtain ⟨zs, hown, hxm, hlm⟩ := HBG.out
    have hown4 : w4.ownsRow m0 102 9 (.slice am ms.length cm) ms.length zs := own_blocks hown (fun z hz => by
      have h1 := (hown.lt z hz).2
      exact (HB04.out z (by have := HC.out.size; omega)).trans (HC.out.oth z h1 (HQM.out z hz)))
    have hmsrc : ∀ j u, ([.int .i64 1, .int .i64 look, .int .i64 x, .int .i64 x, .int .i64 k, .int .i64 im, .int .i64 le, .int .i64 0, .slice none 0 0] : List Value)[j]? = some u → w4.cell? ((⟨wd.heap.size, 0, none⟩ : Addr).add j) = some u := fun j u hj => by
      rw [add_none', Nat.zero_add, cell_of_row w4 _ _ _ _ _ hV]
      simpa using hj
    have hm0 : m0 ≤ w4.heap.size := by have z0 := HC.out.size; have z1 := HZ2.out; have z2 := HZ3.out; have z3 := hdz.out; omega
    refine wp_append_gw _ _ _ 33 rfl m0 102 i0 _ 9 88 Tryz.underlying33 hi hz0 hz1 hz2 rfl (by decide) (.slice am ms.length cm) ms.length zs (by rfl) hown4 ⟨wd.heap.size, 0, none⟩ 1 1 [.int .i64 1, .int .i64 look, .int .i64 x, .int .i64 x, .int .i64 k, .int .i64 im, .int .i64 le, .int .i64 0, .slice none 0 0] (by rfl) (by rfl) hmsrc (by simp [Value.oneCell']) (by unfold maxLen; omega) (by omega) hm0 ?_
    intro v5 w5 hown5 hgr5r
    have hgr5 : Gw w4 w5 (.slice am ms.length cm) v5 := hgr5r
    clear hgr5r
    obtain ⟨gA, cA, rfl⟩ := Joins.ownsRow_form hown5 (by omega)
    have hwx : w2.heap.size < w4.heap.size := by have z2 := HZ3.out; have z3 := hdz.out; omega
    have hold : ∀ z, (Value.slice am ms.length cm).ownBlock = some z → z < w.heap.size ∧ ¬ z = q := fun z hz => ⟨(hown.lt z hz).2, HQM.out z hz⟩
    have hcs := HC.out.size
    have hs5 : Wire.Bk w5 q #[.int .i64 b, .int .i64 d, .slice ap ps.length cp, v3, .slice am ms.length cm, .slice (some ⟨gB, 0, none⟩) (gs.length + 1) cB, v6] 36 ∧ Wire.Bk w5 w2.heap.size #[.int .i64 at1, .int .i64 im, .int .i64 le, .int .i64 0, .int .i64 0, .int .i64 0, .int .i64 0] 49 := by
      have z1 := HZ2.out
      refine ⟨(hgr5.block q hs4.1.lt (fun h => (hold q h).2 rfl)).trans hs4.1, (hgr5.block w2.heap.size hs4.2.lt (fun h => ?_)).trans hs4.2⟩
      have := (hold _ h).1
      omega
    refine hK.out _ _ hs5 (fun _ => ?_)
    clear hK K
    try simp only [Act.put, List.setIfInBounds_toArray, List.set_cons_zero, List.set_cons_succ]
    refine wpAnyH_take (i := 16) (oi := _) (v := _) rfl (by kernel_rfl) (by kernel_rfl) (by kernel_rfl) (fun _ _ _ h => h) (.inl ⟨by rfl, by intro w hSw; go_simp; with_reducible rfl⟩) hs5 ?_
    try simp only [Act.put, List.setIfInBounds_toArray, List.set_cons_zero, List.set_cons_succ]
    refine wpAnyH_take (i := 17) (oi := _) (v := _) rfl (by kernel_rfl) (by kernel_rfl) (by kernel_rfl) (fun _ _ _ h => h) (.inl ⟨by rfl, by intro w hSw; go_simp; with_reducible rfl⟩) hs5 ?_
    try simp only [Act.put, List.setIfInBounds_toArray, List.set_cons_zero, List.set_cons_succ]
    refine wpAnyH_done (by kernel_rfl) (lastQ_done rfl ?_) _
    have HQ5 : Hid (Wire.Bk w5 q #[.int .i64 b, .int .i64 d, .slice ap ps.length cp, v3, .slice am ms.length cm, .slice (some ⟨gB, 0, none⟩) (gs.length + 1) cB, v6] 36) := hs5.1
    have h5c := hs5.1.cell 4
    have h5f := hs5.1.fr 4
    simp at h5c
    have HO5 : Hid (w5.ownsRow m0 102 9 (.slice (some ⟨gA, 0, none⟩) (ms.length + 1) cA) (ms.length + 1) (zs ++ [.int .i64 1, .int .i64 look, .int .i64 x, .int .i64 x, .int .i64 k, .int .i64 im, .int .i64 le, .int .i64 0, .slice none 0 0])) := hown5
    have HG5 : Hid (Gw w4 w5 (.slice am ms.length cm) (.slice (some ⟨gA, 0, none⟩) (ms.length + 1) cA)) := hgr5
    have HOL : Hid (∀ z, (Value.slice am ms.length cm).ownBlock = some z → z < w.heap.size ∧ ¬ z = q ∧ m0 ≤ z) := fun z hz => ⟨(hold z hz).1, (hold z hz).2, (hown.lt z hz).1⟩
    have HX5 : Hid (RowM zs ms ms.length) := hxm
    have HZ5 : Hid (w.heap.size ≤ wc.heap.size ∧ wc.heap.size ≤ w2.heap.size ∧ w2.heap.size < w4.heap.size ∧ w4.heap.size ≤ w5.heap.size) := ⟨hcs, HZ2.out, hwx, hgr5.size⟩
    have HW4 : Hid (Below wc.heap.size wc w4) := (HW3.out.trans (HB3.out.mono (by have z1 := HZ2.out; have z2 := HZ3.out; omega))).trans (hw4.mono (by have z1 := HZ2.out; have z2 := HZ3.out; have z3 := hdz.out; omega))
    clear hs5 hown5 hgr5 hold hxm hlm hown hown4 hmsrc hV hs4 hw4 hz4 hs0 hwx hcs hi hz0 hz1 hz2 hm0 hdz
    go_wp2_with fail
    clear h5c h5f
    have hq0w : ¬ (Value.slice am ms.length cm).ownBlock = some q := fun h => (HOL.out q h).2.1 rfl
    obtain ⟨w6, hw6⟩ : ∃ w6, w6 = w5.setCell ⟨q, 4, none⟩ (.slice (some ⟨gA, 0, none⟩) (ms.length + 1) cA) := ⟨_, rfl⟩
    have hO6 : ∀ z, ¬ z = q → w6.heap[z]? = w5.heap[z]? := fun z hz => by rw [hw6]; exact heap_setCell_other _ _ _ _ (by simpa using hz)
    have hS6 : w6.heap.size = w5.heap.size := by rw [hw6]; simp [World.setCell]
    have z1 := HZ5.out
    have hBlk : ∀ z, z < wc.heap.size → ¬ z = q → (Value.slice am ms.length cm).ownBlock ≠ some z → w6.heap[z]? = wc.heap[z]? := fun z h1 h2 h3 => by
      rw [hO6 z h2, HG5.out.block z (by omega) h3]
      exact HW4.out.block z h1
    have hgA : gA < w5.heap.size := (HO5.out.lt gA rfl).2
    have hgAq : ¬ gA = q := fun h => by
      rcases HG5.out.own with h1 | h1
      · exact hq0w (by rw [← h1, h]; rfl)
      · have := h1 gA rfl; omega
    have hB := HC.out.own.lt gB rfl
    have fin : BG2 w w6 q b d ap am cp cm v3 v6 m0 ps ms gs look x k gA cA gB cB := by
      refine ⟨?_, BagW.snoc (m0 := m0) HX5.out ?_, ?_, ?_, ⟨?_, by omega⟩, by omega, fun z h1 h2 h3 => ?_, fun B W h1 h2 h3 h4 => ?_⟩
      · rw [hw6]; exact HQ5.out.set 4 _
      · rw [HM.out]
        exact own_blocks HO5.out (fun z hz => hO6 z (fun h => hgAq (by
          have : gA = z := by simpa [Value.ownBlock] using hz
          omega)))
      · refine own_blocks HC.out.own (fun z hz => hBlk z (HC.out.own.lt z hz).2 (fun h => ?_) (fun h => ?_))
        · have := (HC.out.own.lt z hz).1; omega
        · have h5 := (HC.out.own.lt z hz).1
          have h6 := (HOL.out z h).1
          omega
      · rcases HG5.out.own with h1 | h1
        · exact .inl (by rw [← h1]; rfl)
        · have := h1 gA rfl; exact .inr (by omega)
      · intro h
        rcases HG5.out.own with h1 | h1
        · have := (HOL.out gA (by rw [← h1]; rfl)).1; omega
        · have := h1 gA rfl; omega
      · rw [hBlk z (by omega) h2 h3]
        exact HC.out.oth z h1 h2
      · rw [hw6]
        refine Below.setCell (p := ⟨q, 4, none⟩) ?_ h1 _
        have b1 := HC.out.bel B W h1 h3 h4
        have b2 : Below B wc w4 := HW4.out.mono (by omega)
        have b3 : Below B w4 w5 := HG5.out.below (by omega) (fun z hz => by have := (HOL.out z hz).2.2; omega)
        exact (b1.trans b2).trans b3
    rw [← hw6]
    go_end0
    exact ⟨gA, cA, gB, cB, rfl, fin⟩
end Go.Proofs.YtdceimnapbblnaaGreat
namespace Go.Proofs.YtdceimnapbblnaaGreat
open Go.RowKit Go.Deep
set_option linter.unusedVariables false
set_option linter.unusedSimpArgs false
def cbB (b d : Int) (ps : List Pr) (gs : List Int) (look x k : Int) : Bool := inB look 0 255 && !hasB gs look && !decide (gs.length = 12) && hasB (idsP ps) x && numB b d k
theorem goodN_parts {b d ttl : Int} {ps : List Pr} {ms : List Mg} {gs : List Int} {rs : List Rp} (h : goodN b d ttl ps ms gs rs = true) : goodP b d ps = true ∧ gs.length ≤ 12 ∧ risB gs 0 255 = true := by
  unfold goodN at h
  simp only [Bool.and_eq_true, decide_eq_true_eq] at h
  exact ⟨h.1.1.1.1.1.1, h.1.1.1.2, h.1.1.2⟩
set_option maxRecDepth 100000 in
set_option maxHeartbeats 3200000 in
theorem canBegin_any (q : Nat) (b d ttl : Int) (ap am ag ar : Option Addr) (cp cm cg cr : Nat) (ps : List Pr) (ms : List Mg) (gs : List Int) (rs : List Rp) (look x k : Int) (w : World) (hk : Wire.Bk w q #[.int .i64 b, .int .i64 d, .slice ap ps.length cp, .int .i64 ttl, .slice am ms.length cm, .slice ag gs.length cg, .slice ar rs.length cr] 36) (hg : goodN b d ttl ps ms gs rs = true) (hr : NetAt w ap am ag ar ps ms gs rs) :
    Calls Tryz.prog 95 #[.pointer (some ⟨q, 0, none⟩), .int .i64 look, .int .i64 x, .int .i64 k] w fun e w' => e = .returned (.bool (cbB b d ps gs look x k)) ∧ Below w.heap.size w w' := by
  obtain ⟨hP, g1, g2⟩ := goodN_parts hg
  have R := (goodP_true hP).1
  have CL := isLook_any look w
  have CM := isMember_any ag cg gs look w (by unfold maxLen; omega) hr.g
  rw [memI_begun g1 g2] at CM
  have HK : Hid (Wire.Bk w q #[.int .i64 b, .int .i64 d, .slice ap ps.length cp, .int .i64 ttl, .slice am ms.length cm, .slice ag gs.length cg, .slice ar rs.length cr] 36) := hk
  have HP : Hid (PeersAt w ap ps) := hr.p
  have HR : Hid (Ring b d (idsP ps)) := R
  obtain ⟨j0, j1, j2, j3, j4, j5, j6⟩ := Wire.Bk.m7 hk
  have CI := isId_any b d q ap cp ps x w R hk.lt j2 hr.p
  have hq := hk.lt
  clear hk hr hg hP g2 R
  cases hA : inB look 0 255
  · rw [hA] at CL
    have HV : Hid (cbB b d ps gs look x k = false) := by unfold Hid cbB; rw [hA]; rfl
    clear hA
    go_enter Tryz.func95, Tryz.ntmps95
    go_wp2_with fail
    refine CL.mono ?_
    rintro e w1 ⟨rfl, he⟩
    have he' := he.symm
    subst he'
    go_wp2
    go_ret
    exact ⟨ret_bool HV.out.symm, Below.refl _ _⟩
  rw [hA] at CL
  cases hM : hasB gs look
  · rw [hM] at CM
    by_cases hL : gs.length = 12
    · have HV : Hid (cbB b d ps gs look x k = false) := by unfold Hid cbB; rw [hA, hM, hL]; rfl
      have hL2 : (gs.length : Int) = 12 := by omega
      clear hA hM hL g1
      go_enter Tryz.func95, Tryz.ntmps95
      go_wp2_with fail
      refine CL.mono ?_
      rintro e w1 ⟨rfl, he⟩
      have he' := he.symm
      subst he'
      go_wp2_with fail
      refine CM.mono ?_
      rintro e w1 ⟨rfl, he1⟩
      have he' := he1.symm
      subst he'
      go_wp2
      go_ret
      exact ⟨ret_bool HV.out.symm, Below.refl _ _⟩
    · cases hI : hasB (idsP ps) x
      · rw [hI] at CI
        have HV : Hid (cbB b d ps gs look x k = false) := by unfold Hid cbB; rw [hI, Bool.and_false, Bool.false_and]
        have hL2 : ¬ (gs.length : Int) = 12 := by omega
        clear hA hM hL g1 hI
        go_enter Tryz.func95, Tryz.ntmps95
        go_wp2_with fail
        refine CL.mono ?_
        rintro e w1 ⟨rfl, he⟩
        have he' := he.symm
        subst he'
        go_wp2_with fail
        refine CM.mono ?_
        rintro e w1 ⟨rfl, he1⟩
        have he' := he1.symm
        subst he'
        go_wp2_with fail
        refine CI.mono ?_
        rintro e w1 ⟨rfl, hw1⟩
        go_wp2
        go_ret
        exact ⟨ret_bool HV.out.symm, hw1⟩
      · rw [hI] at CI
        have HV : Hid (cbB b d ps gs look x k = numB b d k) := by unfold Hid cbB; rw [hA, hM, hI, decide_eq_false hL]; simp
        have hL2 : ¬ (gs.length : Int) = 12 := by omega
        clear hA hM hL g1 hI
        go_enter Tryz.func95, Tryz.ntmps95
        go_wp2_with fail
        refine CL.mono ?_
        rintro e w1 ⟨rfl, he⟩
        have he' := he.symm
        subst he'
        go_wp2_with fail
        refine CM.mono ?_
        rintro e w1 ⟨rfl, he1⟩
        have he' := he1.symm
        subst he'
        go_wp2_with fail
        refine CI.mono ?_
        rintro e w1 ⟨rfl, hw1⟩
        have y0 := (hw1.cell (p := ⟨q, 0, none⟩) hq).trans j0
        have y1 := (hw1.cell (p := ⟨q, 1, none⟩) hq).trans j1
        clear j0 j1 j2 j3 j4 j5 j6 CL CM CI
        go_wp2_with fail
        refine (isNumber_any b d k w1).mono ?_
        rintro e w2 ⟨rfl, hw2⟩
        go_wp2
        go_ret
        exact ⟨ret_bool HV.out.symm, belt hw1 hw2⟩
  · rw [hM] at CM
    have HV : Hid (cbB b d ps gs look x k = false) := by unfold Hid cbB; rw [hA, hM]; rfl
    clear hA hM
    go_enter Tryz.func95, Tryz.ntmps95
    go_wp2_with fail
    refine CL.mono ?_
    rintro e w1 ⟨rfl, he⟩
    have he' := he.symm
    subst he'
    go_wp2_with fail
    refine CM.mono ?_
    rintro e w1 ⟨rfl, he1⟩
    have he' := he1.symm
    subst he'
    go_wp2
    go_ret
    exact ⟨ret_bool HV.out.symm, Below.refl _ _⟩
end Go.Proofs.YtdceimnapbblnaaGreat
