/- JoinTables and RowsIn of the specification, and as the laws call them. -/
import Derived.Test.YtpgngfdhnoonjaaSp1
namespace Go.Proofs.Ytpgngfdhnoonjaa.Tb
open Go.RowKit Wire Go.Deep
set_option linter.unusedVariables false
set_option linter.unusedSimpArgs false
theorem joinS_len (out : List Rw) (r : Rw) : (joinS out r).length ≤ out.length + 1 := by
  unfold joinS
  split
  · omega
  · rw [putL_len]; split <;> omega
theorem joinL_len : ∀ (b a : List Rw), (joinL a b).length ≤ a.length + b.length
  | [], _ => Nat.le_refl _
  | r :: b, a => by
    have h1 := joinL_len b (joinS a r)
    have h2 := joinS_len a r
    show (joinL (joinS a r) b).length ≤ _
    simp only [List.length_cons]
    omega
theorem joinL_take {a b : List Rw} {j : Nat} (h : j < b.length) : joinL a (b.take (j + 1)) = joinS (joinL a (b.take j)) (b.getD j rw0) := by
  rw [List.take_succ_eq_append_getElem h, joinL_snoc, getD_at h]
theorem OwR.at {B : Nat} {w : World} {a : Option Addr} {n c : Nat} {C : List Rw} (h : OwR B w (.slice a n c) C) : LsAt tyRw w a C ∧ C.length = n ∧ n ≤ c ∧ (a = none → c = 0) := by
  rcases Joins.ownsRow_forms h with ⟨h1, h2⟩ | ⟨g, c', h1⟩
  · cases h1
    have : C = [] := List.length_eq_zero_iff.1 h2
    subst this
    exact ⟨.inl rfl, rfl, Nat.le_refl _, fun _ => rfl⟩
  · cases h1
    have ho := owns_cells h
    refine ⟨?_, rfl, ho.2.1, fun hh => by cases hh⟩
    obtain ⟨⟨cur, hcur⟩, _, _⟩ := ho
    refine .inr ⟨g, 0, rfl, (Array.getElem?_eq_some_iff.1 hcur).1, fun i hi => ⟨rwV (C.getD i rw0), fun j v hj => ?_, rfl⟩⟩
    have hi2 : i < C.length := hi
    have hj4 : j < 4 := by have := (List.getElem?_eq_some_iff.1 hj).1; simpa [rwV] using this
    show w.cell? ⟨g, 0 + i * 4 + j, none⟩ = some v
    rw [show 0 + i * 4 + j = i * 4 + j from by omega]
    have e := World.ownsRow.cellAt (size := 4) h (i * 4 + j) (by omega)
    rw [e, flatR_get hi2 hj4]
    exact hj
theorem OwR.slice {B : Nat} {w : World} {v : Value} {C : List Rw} (h : OwR B w v C) : ∃ a c, v = .slice a C.length c := by
  rcases Joins.ownsRow_forms h with ⟨h1, h2⟩ | ⟨g, c', h1⟩
  · exact ⟨none, 0, by rw [h1, h2]⟩
  · exact ⟨_, c', h1⟩
set_option maxRecDepth 100000 in
set_option maxHeartbeats 12800000 in
theorem lJoin_any (b d : Int) (a a' : Option Addr) (cap cap' n n' : Nat) (ms ns : List Rw) (w : World) (hG : GT b d ms) (hG' : GT b d ns) (hn : ms.length = n) (h0 : a = none → cap = 0) (hr : LsAt tyRw w a ms) (hn' : ns.length = n') (hr' : LsAt tyRw w a' ns) :
    Calls Try.prog 61 #[.slice a n cap, .slice a' n' cap'] w fun e w' => ∃ v, e = .returned v ∧ OwR w.heap.size w' v (joinL ms ns) ∧ Below w.heap.size w w' := by
  have HR : Hid (LsAt tyRw w a ms) := hr
  have HR' : Hid (LsAt tyRw w a' ns) := hr'
  have HNN : Hid (ms.length = n) := hn
  have HNN' : Hid (ns.length = n') := hn'
  have HG : Hid (GT b d ms) := hG
  have HG' : Hid (GT b d ns) := hG'
  have hn8 : n ≤ 8 := by have := hG.len; omega
  have hn8' : n' ≤ 8 := by have := hG'.len; omega
  have HL0 : Hid (OwR w.heap.size (w.alloc (.cells #[] 37)) (.slice (some ⟨w.heap.size, 0, none⟩) 0 0) []) := own_lit4 w (Nat.le_refl _)
  clear hr hr' hn hn' hG hG'
  go_enter Try.func61, Try.ntmps61
  go_wp2_with (first | (at_builtin; refine wpList_app rfl _ _ rfl w.heap.size _ [] rfl HL0.out a n cap ms rfl HNN.out (HR.out.keep (belA _ _)) h0 (by simp) (by omega) (by simp) ?_; intro v5 w5 hown hgrow) | fail)
  have HO5 : Hid (OwR w.heap.size w5 v5 (joinL ms (ns.take 0))) := hown
  have HB5 : Hid (Below w.heap.size w w5) := grown_bel' (belA w (.cells #[] 37)) hgrow (by simp) HL0.out.lo
  clear hown hgrow HL0
  go_wp2_with fail
  go_loopw [5, 15] (fun vo vi wr => ∃ (j : Nat) (v : Value), j ≤ n' ∧ vi = .int .i64 j ∧ vo = v ∧ Hid (OwR w.heap.size wr v (joinL ms (ns.take j))) ∧ Hid (Below w.heap.size w wr)) (fun _ vi _ => n' - (intOf vi).toNat)
  case atStart => exact ⟨0, v5, Nat.zero_le _, rfl, rfl, HO5, HB5⟩
  case round =>
    obtain ⟨j, v, hj, rfl, hv, HO, HB⟩ := hrel
    clear HO5 HB5
    have hv' := hv.symm
    clear hv
    subst hv'
    by_cases hlt : j < n'
    · have hjl : j < ns.length := by rw [HNN'.out]; exact hlt
      obtain ⟨bk, off, rfl⟩ := lsAt_form HR'.out (by show 0 < ns.length; omega)
      obtain ⟨hb1, hcr⟩ := rwAt_cell (HR'.out.keep HB.out) hjl
      obtain ⟨c0, c1, c2, c3⟩ := CellsAt.rw hcr
      clear hcr hb1
      have HS : Hid (joinL ms (ns.take (j + 1)) = joinS (joinL ms (ns.take j)) (ns.getD j rw0)) := joinL_take hjl
      have HLEN : Hid ((joinL ms (ns.take j)).length ≤ 16) := by
        have h1 := joinL_len (ns.take j) ms
        have h2 : (ns.take j).length ≤ ns.length := by rw [List.length_take]; omega
        have := HNN.out
        have := HNN'.out
        unfold Hid
        omega
      clear hjl
      generalize ns.getD j rw0 = r at c0 c1 c2 c3 HS
      obtain ⟨ln, hln⟩ : ∃ L, Hid (L = joinL ms (ns.take (j + 1))) := ⟨_, rfl⟩
      rw [← hln.out] at HS
      generalize joinL ms (ns.take j) = L at HS HO HLEN
      obtain ⟨av, cv, rfl⟩ := HO.out.slice
      obtain ⟨q1, _, q3, q4⟩ := HO.out.at
      have HQ1 : Hid (LsAt tyRw wr av L) := q1
      have HQ4 : Hid (av = none → cv = 0) := q4
      obtain ⟨x0, x1, x2, g⟩ := r
      have HS : Hid (ln = if hasK L x0 = true ∧ newB ⟨x0, x1, x2, g⟩ (L.getD (atK L x0) rw0) = false then L else putL L ⟨x0, x1, x2, g⟩) := HS
      have HKR : Hid (Wire.Bk (wr.alloc (.cells #[.int .i64 x0, .int .i64 x1, .int .i64 x2, .bool g] 37)) wr.heap.size #[.int .i64 x0, .int .i64 x1, .int .i64 x2, .bool g] 37) := Wire.Bk.new _ _ _
      have CA := lAt_any av cv L.length L x0 _ rfl (by have := HLEN.out; unfold maxLen; omega) (q1.keep (belA wr (.cells #[.int .i64 x0, .int .i64 x1, .int .i64 x2, .bool g] 37)))
      have CL : ∀ w1 : World, Below wr.heap.size wr w1 → Calls Try.prog 75 #[.slice av L.length cv, .agg #[.int .i64 x0, .int .i64 x1, .int .i64 x2, .bool g]] w1 fun e w' => ∃ v, e = .returned v ∧ OwR w1.heap.size w' v (putL L ⟨x0, x1, x2, g⟩) ∧ Below w1.heap.size w1 w' := fun w1 hb => lLay_any av cv L.length L x0 x1 x2 g w1 rfl (by have := HLEN.out; omega) q3 q4 (HQ1.out.keep hb)
      have hL16 : L.length ≤ 16 := HLEN.out
      clear q1 q3 q4
      cases hk : hasK L x0
      · have HSS : Hid (ln = putL L ⟨x0, x1, x2, g⟩) := by unfold Hid; rw [HS.out, hk]; rfl
        rw [hk] at CA
        generalize (atK L x0 : Int) = kk at CA
        clear HS hk
        go_wp2_with fail
        refine CA.mono ?_
        rintro e w1 ⟨rfl, HW⟩
        have HB1 : Hid (Below wr.heap.size wr w1) := belt (belA _ _) HW
        have HKR1 : Hid (Wire.Bk w1 wr.heap.size #[.int .i64 x0, .int .i64 x1, .int .i64 x2, .bool g] 37) := HKR.out.keep HW
        clear CA HW HKR c0 c1 c2 c3
        obtain ⟨r0, r1, r2, r3⟩ := Wire.Bk.c4 HKR1.out
        go_wp2
        refine region_kin w1.heap.size (by kernel_rfl) (by kernel_rfl) (fun hne => ?_)
        repeat (go_big_quiet_step (fail))
        refine wpQuiet_nil ?_
        intro xw hw'
        obtain ⟨⟨w2, hw2⟩, hw2'⟩ := hw'
        have hw2'' : w2 = xw := hw2'.symm
        subst hw2''
        have HB2 : Hid (Below wr.heap.size wr w2) := belt HB1.out hw2
        have HKR2 : Hid (Wire.Bk w2 wr.heap.size #[.int .i64 x0, .int .i64 x1, .int .i64 x2, .bool g] 37) := HKR1.out.keep hw2
        clear hw2' hw2 HKR1 HB1 r0 r1 r2 r3 hne
        obtain ⟨r0, r1, r2, r3⟩ := Wire.Bk.c4 HKR2.out
        have hz2 := HKR2.out.lt
        go_wp2_with fail
        refine (CL _ HB2.out).mono ?_
        rintro e w3 ⟨v3, rfl, hO, HW⟩
        have HO3 : Hid (OwR w.heap.size w3 v3 (joinL ms (ns.take (j + 1)))) := by rw [← hln.out, HSS.out]; exact hO.mono (Nat.le_trans HB.out.size HB2.out.size)
        have HB3 : Hid (Below w.heap.size w w3) := belt HB.out (belt HB2.out HW)
        clear CL hO HW r0 r1 r2 r3 hz2 HKR2
        go_wp2
        go_roundw
        case rel => exact ⟨j + 1, v3, by omega, by go_num, rfl, HO3, HB3⟩
        case measure => simp [intOf]; omega
      · have hka : atK L x0 < L.length := (of_decide_eq_true hk).1
        obtain ⟨gb, go, rfl⟩ := lsAt_form HQ1.out (by show 0 < L.length; omega)
        obtain ⟨hb5, hcc⟩ := rwAt_cell HQ1.out hka
        obtain ⟨e0, e1, e2, e3⟩ := CellsAt.rw hcc
        have HE : Hid (gb < wr.heap.size ∧ wr.cell? ⟨gb, go + atK L x0 * 4, none⟩ = some (.int .i64 (L.getD (atK L x0) rw0).x0) ∧ wr.cell? ⟨gb, go + atK L x0 * 4 + 1, none⟩ = some (.int .i64 (L.getD (atK L x0) rw0).x1) ∧ wr.cell? ⟨gb, go + atK L x0 * 4 + 2, none⟩ = some (.int .i64 (L.getD (atK L x0) rw0).x2) ∧ wr.cell? ⟨gb, go + atK L x0 * 4 + 3, none⟩ = some (.bool (L.getD (atK L x0) rw0).b)) := ⟨hb5, e0, e1, e2, e3⟩
        clear hcc e0 e1 e2 e3 hb5
        rw [hk] at CA HS
        generalize L.getD (atK L x0) rw0 = q at HE HS
        obtain ⟨y0, y1, y2, c⟩ := q
        have HE : Hid (gb < wr.heap.size ∧ wr.cell? ⟨gb, go + atK L x0 * 4, none⟩ = some (.int .i64 y0) ∧ wr.cell? ⟨gb, go + atK L x0 * 4 + 1, none⟩ = some (.int .i64 y1) ∧ wr.cell? ⟨gb, go + atK L x0 * 4 + 2, none⟩ = some (.int .i64 y2) ∧ wr.cell? ⟨gb, go + atK L x0 * 4 + 3, none⟩ = some (.bool c)) := HE
        generalize atK L x0 = kk at CA HE hka
        have CNW := fun w1 => lNewer_any x0 x1 x2 y0 y1 y2 g c w1
        clear hk
        cases hnew : newB ⟨x0, x1, x2, g⟩ ⟨y0, y1, y2, c⟩
        · have HSS : Hid (ln = L) := by unfold Hid; rw [HS.out, hnew]; rfl
          rw [hnew] at CNW
          clear HS hnew CL
          go_wp2_with fail
          refine CA.mono ?_
          rintro e w1 ⟨rfl, HW⟩
          have HB1 : Hid (Below wr.heap.size wr w1) := belt (belA _ _) HW
          have HKR1 : Hid (Wire.Bk w1 wr.heap.size #[.int .i64 x0, .int .i64 x1, .int .i64 x2, .bool g] 37) := HKR.out.keep HW
          clear CA HW HKR c0 c1 c2 c3
          have zk1 := HKR1.out.lt
          have zg1 : gb < w1.heap.size := Nat.lt_of_lt_of_le HE.out.1 HB1.out.size
          have kr0 : ∀ p : Kin w1.heap.size w1, p.v.cell? ⟨wr.heap.size, 0, none⟩ = some (.int .i64 x0) := kin_cell zk1 (HKR1.out.cell 0)
          have kr1 : ∀ p : Kin w1.heap.size w1, p.v.cell? ⟨wr.heap.size, 1, none⟩ = some (.int .i64 x1) := kin_cell zk1 (HKR1.out.cell 1)
          have kr2 : ∀ p : Kin w1.heap.size w1, p.v.cell? ⟨wr.heap.size, 2, none⟩ = some (.int .i64 x2) := kin_cell zk1 (HKR1.out.cell 2)
          have kr3 : ∀ p : Kin w1.heap.size w1, p.v.cell? ⟨wr.heap.size, 3, none⟩ = some (.bool g) := kin_cell zk1 (HKR1.out.cell 3)
          have ke0 : ∀ p : Kin w1.heap.size w1, p.v.cell? ⟨gb, go + kk * 4, none⟩ = some (.int .i64 y0) := kin_cell zg1 ((HB1.out.cell (p := ⟨gb, go + kk * 4, none⟩) HE.out.1).trans HE.out.2.1)
          have ke1 : ∀ p : Kin w1.heap.size w1, p.v.cell? ⟨gb, go + kk * 4 + 1, none⟩ = some (.int .i64 y1) := kin_cell zg1 ((HB1.out.cell (p := ⟨gb, go + kk * 4 + 1, none⟩) HE.out.1).trans HE.out.2.2.1)
          have ke2 : ∀ p : Kin w1.heap.size w1, p.v.cell? ⟨gb, go + kk * 4 + 2, none⟩ = some (.int .i64 y2) := kin_cell zg1 ((HB1.out.cell (p := ⟨gb, go + kk * 4 + 2, none⟩) HE.out.1).trans HE.out.2.2.2.1)
          have ke3 : ∀ p : Kin w1.heap.size w1, p.v.cell? ⟨gb, go + kk * 4 + 3, none⟩ = some (.bool c) := kin_cell zg1 ((HB1.out.cell (p := ⟨gb, go + kk * 4 + 3, none⟩) HE.out.1).trans HE.out.2.2.2.2)
          go_wp2
          refine region_kin w1.heap.size (by kernel_rfl) (by kernel_rfl) (fun hne => ?_)
          repeat (go_big_quiet_step ((go_at_call 76; exact kin_of (Nat.le_refl _) (CNW _))))
          refine wpQuiet_nil ?_
          intro xw hw'
          obtain ⟨⟨w2, hw2⟩, hw2'⟩ := hw'
          have hw2'' : w2 = xw := hw2'.symm
          subst hw2''
          have HB2 : Hid (Below wr.heap.size wr w2) := belt HB1.out hw2
          have HKR2 : Hid (Wire.Bk w2 wr.heap.size #[.int .i64 x0, .int .i64 x1, .int .i64 x2, .bool g] 37) := HKR1.out.keep hw2
          clear kr0 kr1 kr2 kr3 ke0 ke1 ke2 ke3 hw2' hw2 HKR1 HB1 hne CNW HE zk1 zg1
          have HO3 : Hid (OwR w.heap.size w2 (.slice (some ⟨gb, go, none⟩) L.length cv) (joinL ms (ns.take (j + 1)))) := by rw [← hln.out, HSS.out]; exact HO.out.keep HB2.out
          have HB3 : Hid (Below w.heap.size w w2) := belt HB.out HB2.out
          go_wp2
          go_roundw
          case rel => exact ⟨j + 1, _, by omega, by go_num, rfl, HO3, HB3⟩
          case measure => simp [intOf]; omega
        · have HSS : Hid (ln = putL L ⟨x0, x1, x2, g⟩) := by unfold Hid; rw [HS.out, hnew]; rfl
          rw [hnew] at CNW
          clear HS hnew
          go_wp2_with fail
          refine CA.mono ?_
          rintro e w1 ⟨rfl, HW⟩
          have HB1 : Hid (Below wr.heap.size wr w1) := belt (belA _ _) HW
          have HKR1 : Hid (Wire.Bk w1 wr.heap.size #[.int .i64 x0, .int .i64 x1, .int .i64 x2, .bool g] 37) := HKR.out.keep HW
          clear CA HW HKR c0 c1 c2 c3
          have zk1 := HKR1.out.lt
          have zg1 : gb < w1.heap.size := Nat.lt_of_lt_of_le HE.out.1 HB1.out.size
          have kr0 : ∀ p : Kin w1.heap.size w1, p.v.cell? ⟨wr.heap.size, 0, none⟩ = some (.int .i64 x0) := kin_cell zk1 (HKR1.out.cell 0)
          have kr1 : ∀ p : Kin w1.heap.size w1, p.v.cell? ⟨wr.heap.size, 1, none⟩ = some (.int .i64 x1) := kin_cell zk1 (HKR1.out.cell 1)
          have kr2 : ∀ p : Kin w1.heap.size w1, p.v.cell? ⟨wr.heap.size, 2, none⟩ = some (.int .i64 x2) := kin_cell zk1 (HKR1.out.cell 2)
          have kr3 : ∀ p : Kin w1.heap.size w1, p.v.cell? ⟨wr.heap.size, 3, none⟩ = some (.bool g) := kin_cell zk1 (HKR1.out.cell 3)
          have ke0 : ∀ p : Kin w1.heap.size w1, p.v.cell? ⟨gb, go + kk * 4, none⟩ = some (.int .i64 y0) := kin_cell zg1 ((HB1.out.cell (p := ⟨gb, go + kk * 4, none⟩) HE.out.1).trans HE.out.2.1)
          have ke1 : ∀ p : Kin w1.heap.size w1, p.v.cell? ⟨gb, go + kk * 4 + 1, none⟩ = some (.int .i64 y1) := kin_cell zg1 ((HB1.out.cell (p := ⟨gb, go + kk * 4 + 1, none⟩) HE.out.1).trans HE.out.2.2.1)
          have ke2 : ∀ p : Kin w1.heap.size w1, p.v.cell? ⟨gb, go + kk * 4 + 2, none⟩ = some (.int .i64 y2) := kin_cell zg1 ((HB1.out.cell (p := ⟨gb, go + kk * 4 + 2, none⟩) HE.out.1).trans HE.out.2.2.2.1)
          have ke3 : ∀ p : Kin w1.heap.size w1, p.v.cell? ⟨gb, go + kk * 4 + 3, none⟩ = some (.bool c) := kin_cell zg1 ((HB1.out.cell (p := ⟨gb, go + kk * 4 + 3, none⟩) HE.out.1).trans HE.out.2.2.2.2)
          go_wp2
          refine region_kin w1.heap.size (by kernel_rfl) (by kernel_rfl) (fun hne => ?_)
          repeat (go_big_quiet_step ((go_at_call 76; exact kin_of (Nat.le_refl _) (CNW _))))
          refine wpQuiet_nil ?_
          intro xw hw'
          obtain ⟨⟨w2, hw2⟩, hw2'⟩ := hw'
          have hw2'' : w2 = xw := hw2'.symm
          subst hw2''
          have HB2 : Hid (Below wr.heap.size wr w2) := belt HB1.out hw2
          have HKR2 : Hid (Wire.Bk w2 wr.heap.size #[.int .i64 x0, .int .i64 x1, .int .i64 x2, .bool g] 37) := HKR1.out.keep hw2
          clear kr0 kr1 kr2 kr3 ke0 ke1 ke2 ke3 hw2' hw2 HKR1 HB1 hne CNW HE zk1 zg1
          obtain ⟨r0, r1, r2, r3⟩ := Wire.Bk.c4 HKR2.out
          have hz2 := HKR2.out.lt
          go_wp2_with fail
          refine (CL _ HB2.out).mono ?_
          rintro e w3 ⟨v3, rfl, hO, HW⟩
          have HO3 : Hid (OwR w.heap.size w3 v3 (joinL ms (ns.take (j + 1)))) := by rw [← hln.out, HSS.out]; exact hO.mono (Nat.le_trans HB.out.size HB2.out.size)
          have HB3 : Hid (Below w.heap.size w w3) := belt HB.out (belt HB2.out HW)
          clear CL hO HW r0 r1 r2 r3 hz2 HKR2
          go_wp2
          go_roundw
          case rel => exact ⟨j + 1, v3, by omega, by go_num, rfl, HO3, HB3⟩
          case measure => simp [intOf]; omega
    · have hje : j = n' := by omega
      subst hje
      have HF : Hid (OwR w.heap.size wr v (joinL ms ns)) := by
        have h := HO.out
        rw [List.take_of_length_le (by rw [HNN'.out]; exact Nat.le_refl _)] at h
        exact h
      clear HO
      go_wp2
      go_ret
      exact ⟨v, rfl, HF.out, HB.out⟩
end Go.Proofs.Ytpgngfdhnoonjaa.Tb
