/- The specification's good peers. -/
import Derived.Test.YtejajlloipkkhaaV8
namespace Go.Proofs.Ytejajlloipkkhaa
open Go.RowKit
set_option linter.unusedVariables false
theorem own_rowAt {w : World} {B : Nat} {v : Value} {l : List Int} (h : w.ownsRow B 3 1 v l.length (l.map (Value.int .i64))) : ∃ a cap, v = .slice a l.length cap ∧ l.length ≤ cap ∧ RowAt w a l := by
  by_cases h0 : 0 < l.length
  · obtain ⟨g, cap, rfl⟩ := Joins.ownsRow_form h h0
    obtain ⟨os, _, hc⟩ := OwnS.of_owns h
    exact ⟨_, cap, rfl, hc, os.rowAt⟩
  · have hl : l = [] := List.eq_nil_of_length_eq_zero (by omega)
    subst hl
    rcases Joins.ownsRow_forms h with ⟨h1, _⟩ | ⟨g, cap, h1⟩
    · exact ⟨none, 0, h1, Nat.zero_le _, .inl rfl⟩
    · exact ⟨_, cap, h1, Nat.zero_le _, .inl rfl⟩
/-- the box of peers that came in -/
structure BxP (w wr : World) (b d : Int) (v : Value) : Prop where
  bel : Below w.heap.size w wr
  lt : w.heap.size < wr.heap.size
  c0 : wr.cell? ⟨w.heap.size, 0, none⟩ = some (.int .i64 b)
  c1 : wr.cell? ⟨w.heap.size, 1, none⟩ = some (.int .i64 d)
  c2 : wr.cell? ⟨w.heap.size, 2, none⟩ = some v
theorem BxP.keep {w wr w1 : World} {b d : Int} {v : Value} (h : BxP w wr b d v) (hb : Below wr.heap.size wr w1) : BxP w w1 b d v :=
  ⟨belt h.bel hb, Nat.lt_of_lt_of_le h.lt hb.size, (hb.cell h.lt).trans h.c0, (hb.cell h.lt).trans h.c1, (hb.cell h.lt).trans h.c2⟩
theorem bxP1 {w w1 : World} {b d : Int} {v : Value} {T : TypeId} {N : Nat} (hb : Below N (w.alloc (.cells #[.int .i64 b, .int .i64 d, v] T)) w1) (hN : w.heap.size + 1 ≤ N) : BxP w w1 b d v := by
  have h0 : BxP w (w.alloc (.cells #[.int .i64 b, .int .i64 d, v] T)) b d v := ⟨(Below.refl _ _).alloc (Nat.le_refl _) _, by simp, by go_simp, by go_simp, by go_simp⟩
  exact h0.keep (hb.mono (by simp; omega))
def prB (zs : List Int) (p : Pr) : Bool := decide (p.succ = nxtI zs p.id) && hasB zs p.point && decide (p.backs.length ≤ 3) && decide (∀ i, i < p.backs.length → hasB zs (p.backs.getD i 0) = true)
def goodP (b d : Int) (ps : List Pr) : Bool := ringB b d (idsP ps) && decide (∀ i, i < ps.length → prB (idsP ps) (ps.getD i pr0) = true)
theorem prB_parts {zs : List Int} {p : Pr} : prB zs p = true ↔ p.succ = nxtI zs p.id ∧ hasB zs p.point = true ∧ p.backs.length ≤ 3 ∧ ∀ i, i < p.backs.length → hasB zs (p.backs.getD i 0) = true := by
  unfold prB
  simp only [Bool.and_eq_true, decide_eq_true_eq]
  constructor
  · rintro ⟨⟨⟨h1, h2⟩, h3⟩, h4⟩; exact ⟨h1, h2, h3, h4⟩
  · rintro ⟨h1, h2, h3, h4⟩; exact ⟨⟨⟨h1, h2⟩, h3⟩, h4⟩
theorem goodP_no {b d : Int} {ps : List Pr} {k : Nat} (hk : k < ps.length) (h : ¬ prB (idsP ps) (ps.getD k pr0) = true) : goodP b d ps = false := by
  unfold goodP
  rw [decide_eq_false (fun hh => h (hh k hk)), Bool.and_false]
theorem goodP_yes {b d : Int} {ps : List Pr} (hg : ringB b d (idsP ps) = true) (h : ∀ i, i < ps.length → prB (idsP ps) (ps.getD i pr0) = true) : goodP b d ps = true := by
  unfold goodP
  rw [hg, decide_eq_true h]; rfl
theorem cell_alloc_old' {w : World} {b i : Nat} (o : Obj) (h : b < w.heap.size) : True → (w.alloc o).cell? ⟨b, i, none⟩ = w.cell? ⟨b, i, none⟩ := fun _ => ((Below.refl w.heap.size w).alloc (Nat.le_refl _) o).cell (p := ⟨b, i, none⟩) h
set_option maxHeartbeats 6400000 in
theorem lgood_any (b d : Int) (a : Option Addr) (cap : Nat) (ps : List Pr) (w : World) (hm : ps.length ≤ 1048576) (hr : PeersAt w a ps) :
    Calls Try.prog 63 #[.agg #[.int .i64 b, .int .i64 d, .slice a ps.length cap]] w fun e w' => e = .returned (.bool (goodP b d ps)) ∧ Below w.heap.size w w' := by
  have hr1 := hr.alloc (.cells #[.int .i64 b, .int .i64 d, .slice a ps.length cap] 28)
  have hil := idsP_len ps
  have HR : Hid (PeersAt w a ps) := hr
  clear hr
  cases hg : ringB b d (idsP ps)
  · have hv : Hid (goodP b d ps = false) := by unfold Hid goodP; rw [hg]; rfl
    go_enter Try.func63, Try.ntmps63
    go_wp2_with fail
    refine (lmembers_any b d a cap ps _ hm hr1).mono ?_
    rintro e w1 ⟨v1, rfl, hown1, hw1⟩
    obtain ⟨a1, cap1, rfl, hc1, hrow1⟩ := own_rowAt hown1
    rw [hil] at hc1
    have CR := lring_any b d a1 cap1 (idsP ps) w1 (by unfold maxLen; omega) hrow1
    rw [hg, hil] at CR
    obtain ⟨bel1', _, q0, q1, q2⟩ := bxP1 hw1 (by simp)
    go_wp2_with fail
    refine CR.mono ?_
    rintro e w2 ⟨rfl, hw2⟩
    go_wp2
    go_ret
    exact ⟨ret_bool hv.out.symm, belt bel1' hw2⟩
  · have R := ringB_true hg
    have l2 := R.l2
    rw [hil] at l2
    go_enter Try.func63, Try.ntmps63
    go_wp2_with fail
    refine (lmembers_any b d a cap ps _ hm hr1).mono ?_
    rintro e w1 ⟨v1, rfl, hown1, hw1⟩
    obtain ⟨a1, cap1, rfl, hc1, hrow1⟩ := own_rowAt hown1
    rw [hil] at hc1
    have CR := lring_any b d a1 cap1 (idsP ps) w1 (by unfold maxLen; omega) hrow1
    rw [hg, hil] at CR
    have BX1 : Hid (BxP w w1 b d (.slice a ps.length cap)) := bxP1 hw1 (by simp)
    have HI1 : Hid (RowAt w1 a1 (idsP ps)) := hrow1
    clear hown1 hrow1 hr1 hw1
    obtain ⟨_, _, q0, q1, _⟩ := BX1.out
    go_wp2_with fail
    refine CR.mono ?_
    rintro e w2 ⟨rfl, hw2⟩
    clear CR
    have BX2 : Hid (BxP w w2 b d (.slice a ps.length cap)) := BX1.out.keep hw2
    have HI2 : Hid (RowAt w2 a1 (idsP ps)) := HI1.out.keep hw2
    have RR : Hid (Ring b d (idsP ps)) := R
    clear BX1 HI1 hw2 q0 q1 R
    obtain ⟨_, _, _, _, q2⟩ := BX2.out
    have q2' : Hid (w2.cell? ⟨w.heap.size, 2, none⟩ = some (.slice a ps.length cap)) := q2
    go_wp2_with fail
    go_loopw [18] (fun vi wr => ∃ (k : Nat), k ≤ ps.length ∧ vi = .int .i64 k ∧ Hid (BxP w wr b d (.slice a ps.length cap)) ∧ Hid (RowAt wr a1 (idsP ps)) ∧ Hid (∀ i, i < k → prB (idsP ps) (ps.getD i pr0) = true)) (fun vi _ => ps.length - (intOf vi).toNat)
    case atStart => exact ⟨0, Nat.zero_le _, rfl, BX2, HI2, fun i hi => by omega⟩
    case round =>
      obtain ⟨k, hk, rfl, BX, HI, HS⟩ := hrel
      clear BX2 HI2 q2 q2'
      by_cases hlt : k < ps.length
      · obtain ⟨bk, off, rfl⟩ := peersAt_form HR.out (by omega)
        have HB : Hid (Below w.heap.size w wr) := BX.out.bel
        obtain ⟨_, qlt, q0, q1, _⟩ := BX.out
        obtain ⟨c0, c1, c2, ab, cb, c3, hrb, hn, _⟩ := (peersAt_cell (HR.out.keep HB.out) (by omega)).2 k hlt
        have hid := idsP_get ps k
        obtain ⟨x01, x02⟩ := RR.out.rng k (by omega)
        rw [hid] at x01 x02
        have HN : Hid (¬ prB (idsP ps) (ps.getD k pr0) = true → goodP b d ps = false) := goodP_no hlt
        have HY : Hid (prB (idsP ps) (ps.getD k pr0) = true → ∀ i, i < k + 1 → prB (idsP ps) (ps.getD i pr0) = true) := fun hp i hi => by
          by_cases he : i = k
          · subst he; exact hp
          · exact HS.out i (by omega)
        unfold Hid at HN HY
        rw [prB_parts] at HN HY
        have HN : Hid _ := HN
        have HY : Hid _ := HY
        clear hid
        have HRB : Hid (RowAt wr ab (ps.getD k pr0).backs) := hrb
        clear hrb
        obtain ⟨bs, hbs⟩ : ∃ bs, bs = (ps.getD k pr0).backs := ⟨_, rfl⟩
        rw [← hbs] at c3 hn HN HY HRB
        clear hbs
        obtain ⟨nb, hnb⟩ : ∃ nb, nb = bs.length := ⟨_, rfl⟩
        rw [← hnb] at c3 hn HN HY
        have HNB : Hid (nb = bs.length) := hnb
        clear hnb
        generalize (ps.getD k pr0).id = x0 at c0 x01 x02 HN HY
        generalize (ps.getD k pr0).succ = x1 at c1 HN HY
        generalize (ps.getD k pr0).point = x2 at c2 HN HY
        have CN : ∀ w6, Below (wr.heap.size + 1) (wr.alloc (.cells #[.int .i64 x0, .int .i64 x1, .int .i64 x2, .slice ab nb cb] 101)) w6 → Calls Try.prog 99 #[.agg #[.int .i64 b, .int .i64 d], .slice a1 ps.length cap1, .int .i64 x0] w6 fun e w' => e = .returned (.int .i64 (nxtI (idsP ps) x0)) ∧ Below w6.heap.size w6 w' := fun w6 h6 => by
          have := lnext_any b d a1 cap1 (idsP ps) x0 w6 RR.out ((HI.out.alloc _).keepB h6 (by simp)) x01 x02
          rwa [hil] at this
        have CH : ∀ w6, Below (wr.heap.size + 1) (wr.alloc (.cells #[.int .i64 x0, .int .i64 x1, .int .i64 x2, .slice ab nb cb] 101)) w6 → Calls Try.prog 93 #[.slice a1 ps.length cap1, .int .i64 x2] w6 fun e w' => e = .returned (.bool (hasB (idsP ps) x2)) ∧ w' = w6 := fun w6 h6 => by
          have := lhas_any a1 cap1 (idsP ps) x2 w6 (by unfold maxLen; omega) ((HI.out.alloc _).keepB h6 (by simp))
          rwa [hil] at this
        unfold maxLen at hn
        by_cases h1 : x1 = nxtI (idsP ps) x0
        · have e1 : (x1 != nxtI (idsP ps) x0) = false := by rw [h1]; simp
          cases h2 : hasB (idsP ps) x2
          · rw [h2] at CH
            have hv : Hid (goodP b d ps = false) := HN.out (fun ⟨_, hh, _⟩ => by rw [h2] at hh; cases hh)
            clear h1 h2
            generalize nxtI (idsP ps) x0 = nx at CN e1
            go_wp2
            have z0 : ∀ p : Kin (wr.heap.size + 1) (wr.alloc (.cells #[.int .i64 x0, .int .i64 x1, .int .i64 x2, .slice ab nb cb] 101)), p.v.cell? ⟨wr.heap.size, 0, none⟩ = some (.int .i64 x0) := kin_cell (by omega) (by go_simp)
            have z1 : ∀ p : Kin (wr.heap.size + 1) (wr.alloc (.cells #[.int .i64 x0, .int .i64 x1, .int .i64 x2, .slice ab nb cb] 101)), p.v.cell? ⟨wr.heap.size, 1, none⟩ = some (.int .i64 x1) := kin_cell (by omega) (by go_simp)
            have z2 : ∀ p : Kin (wr.heap.size + 1) (wr.alloc (.cells #[.int .i64 x0, .int .i64 x1, .int .i64 x2, .slice ab nb cb] 101)), p.v.cell? ⟨wr.heap.size, 2, none⟩ = some (.int .i64 x2) := kin_cell (by omega) (by go_simp)
            have z3 : ∀ p : Kin (wr.heap.size + 1) (wr.alloc (.cells #[.int .i64 x0, .int .i64 x1, .int .i64 x2, .slice ab nb cb] 101)), p.v.cell? ⟨wr.heap.size, 3, none⟩ = some (.slice ab nb cb) := kin_cell (by omega) (by go_simp)
            have y0 : ∀ p : Kin (wr.heap.size + 1) (wr.alloc (.cells #[.int .i64 x0, .int .i64 x1, .int .i64 x2, .slice ab nb cb] 101)), p.v.cell? ⟨w.heap.size, 0, none⟩ = some (.int .i64 b) := kin_cell (by omega) ((cell_alloc_old' _ qlt trivial).trans q0)
            have y1 : ∀ p : Kin (wr.heap.size + 1) (wr.alloc (.cells #[.int .i64 x0, .int .i64 x1, .int .i64 x2, .slice ab nb cb] 101)), p.v.cell? ⟨w.heap.size, 1, none⟩ = some (.int .i64 d) := kin_cell (by omega) ((cell_alloc_old' _ qlt trivial).trans q1)
            refine region_kin (wr.heap.size + 1) (by kernel_rfl) (by kernel_rfl) (fun hne => ?_)
            repeat (go_big_quiet_step (first | (go_at_call 99; exact kin_of (by simp) (CN _ (Kin.bel _))) | (go_at_call 93; exact kin_same (CH _ (Kin.bel _)))))
            refine wpQuiet_nil ?_
            intro w5 hw'
            obtain ⟨⟨w6, hw5⟩, hw''⟩ := hw'
            obtain rfl : w5 = w6 := hw''
            clear z0 z1 z2 z3 y0 y1 hne
            go_wp2
            go_ret
            exact ⟨ret_bool hv.out.symm, belt HB.out (bel1 hw5 (by simp))⟩
          · rw [h2] at CH
            by_cases h3 : nb ≤ 3
            · have HY2 : Hid ((∀ i, i < nb → hasB (idsP ps) (bs.getD i 0) = true) → ∀ i, i < k + 1 → prB (idsP ps) (ps.getD i pr0) = true) := fun h => HY.out ⟨h1, h2, h3, h⟩
              have HN2 : Hid (∀ i, i < nb → hasB (idsP ps) (bs.getD i 0) = false → goodP b d ps = false) := fun i hi hh => HN.out (fun ⟨_, _, _, h4⟩ => by rw [h4 i hi] at hh; cases hh)
              clear h1 h2 HN HY HS
              generalize nxtI (idsP ps) x0 = nx at CN e1
              go_wp2
              have z0 : ∀ p : Kin (wr.heap.size + 1) (wr.alloc (.cells #[.int .i64 x0, .int .i64 x1, .int .i64 x2, .slice ab nb cb] 101)), p.v.cell? ⟨wr.heap.size, 0, none⟩ = some (.int .i64 x0) := kin_cell (by omega) (by go_simp)
              have z1 : ∀ p : Kin (wr.heap.size + 1) (wr.alloc (.cells #[.int .i64 x0, .int .i64 x1, .int .i64 x2, .slice ab nb cb] 101)), p.v.cell? ⟨wr.heap.size, 1, none⟩ = some (.int .i64 x1) := kin_cell (by omega) (by go_simp)
              have z2 : ∀ p : Kin (wr.heap.size + 1) (wr.alloc (.cells #[.int .i64 x0, .int .i64 x1, .int .i64 x2, .slice ab nb cb] 101)), p.v.cell? ⟨wr.heap.size, 2, none⟩ = some (.int .i64 x2) := kin_cell (by omega) (by go_simp)
              have z3 : ∀ p : Kin (wr.heap.size + 1) (wr.alloc (.cells #[.int .i64 x0, .int .i64 x1, .int .i64 x2, .slice ab nb cb] 101)), p.v.cell? ⟨wr.heap.size, 3, none⟩ = some (.slice ab nb cb) := kin_cell (by omega) (by go_simp)
              have y0 : ∀ p : Kin (wr.heap.size + 1) (wr.alloc (.cells #[.int .i64 x0, .int .i64 x1, .int .i64 x2, .slice ab nb cb] 101)), p.v.cell? ⟨w.heap.size, 0, none⟩ = some (.int .i64 b) := kin_cell (by omega) ((cell_alloc_old' _ qlt trivial).trans q0)
              have y1 : ∀ p : Kin (wr.heap.size + 1) (wr.alloc (.cells #[.int .i64 x0, .int .i64 x1, .int .i64 x2, .slice ab nb cb] 101)), p.v.cell? ⟨w.heap.size, 1, none⟩ = some (.int .i64 d) := kin_cell (by omega) ((cell_alloc_old' _ qlt trivial).trans q1)
              refine region_kin (wr.heap.size + 1) (by kernel_rfl) (by kernel_rfl) (fun hne => ?_)
              repeat (go_big_quiet_step (first | (go_at_call 99; exact kin_of (by simp) (CN _ (Kin.bel _))) | (go_at_call 93; exact kin_same (CH _ (Kin.bel _)))))
              refine wpQuiet_nil ?_
              intro w5 hw'
              obtain ⟨⟨w6, hw5⟩, hw''⟩ := hw'
              obtain rfl : w5 = w6 := hw''
              have HB5 : Hid (Below wr.heap.size wr w5) := bel1 hw5 (by simp)
              have HI5 : Hid (RowAt w5 a1 (idsP ps)) := HI.out.keep HB5.out
              have HRB5 : Hid (RowAt w5 ab bs) := HRB.out.keep HB5.out
              have BX5 : Hid (BxP w w5 b d (.slice (some ⟨bk, off, none⟩) ps.length cap)) := BX.out.keep HB5.out
              have z35 := z3 ⟨w5, hw5⟩
              clear z0 z1 z2 z3 y0 y1 hne CN CH HI HRB
              go_wp2_with fail
              go_loop [47] (fun v => ∃ j : Nat, j ≤ nb ∧ v = .int .i64 j ∧ Hid (∀ i, i < j → hasB (idsP ps) (bs.getD i 0) = true)) (fun v => nb - (intOf v).toNat)
              case atStart => exact ⟨0, Nat.zero_le _, rfl, fun i hi => by omega⟩
              case round =>
                obtain ⟨j, hj, rfl, HT⟩ := hrel
                by_cases hjl : j < nb
                · obtain ⟨bb, ob, rfl⟩ := rowAt_form HRB5.out (by have := HNB.out; omega)
                  have hcb := (rowAt_cell HRB5.out (by have := HNB.out; omega)).2 j (by have := HNB.out; omega)
                  have CB := lhas_any a1 cap1 (idsP ps) (bs.getD j 0) w5 (by unfold maxLen; omega) HI5.out
                  rw [hil] at CB
                  cases h5 : hasB (idsP ps) (bs.getD j 0)
                  · rw [h5] at CB
                    have hv : Hid (goodP b d ps = false) := HN2.out j hjl h5
                    clear h5
                    generalize bs.getD j 0 = z at hcb CB
                    go_wp2_with fail
                    refine CB.mono ?_
                    rintro e w7 ⟨rfl, hw7⟩
                    subst hw7
                    go_wp2
                    go_ret
                    exact ⟨ret_bool hv.out.symm, BX5.out.bel⟩
                  · rw [h5] at CB
                    have HT2 : Hid (∀ i, i < j + 1 → hasB (idsP ps) (bs.getD i 0) = true) := fun i hi => by
                      by_cases he : i = j
                      · subst he; exact h5
                      · exact HT.out i (by omega)
                    clear h5
                    generalize bs.getD j 0 = z at hcb CB
                    go_wp2_with fail
                    refine CB.mono ?_
                    rintro e w7 ⟨rfl, hw7⟩
                    subst hw7
                    go_wp2_with fail
                    go_round
                    case rel => exact ⟨j + 1, by omega, by go_num, HT2⟩
                    case measure => simp [intOf]; omega
                · have HS2 : Hid (∀ i, i < k + 1 → prB (idsP ps) (ps.getD i pr0) = true) := HY2.out (fun i hi => HT.out i (by omega))
                  go_wp2_with fail
                  go_roundw
                  case rel => exact ⟨k + 1, by omega, by go_num, BX5, HI5, HS2⟩
                  case measure => simp [intOf]; omega
            · have hv : Hid (goodP b d ps = false) := HN.out (fun ⟨_, _, hh, _⟩ => h3 hh)
              clear h1 h2
              generalize nxtI (idsP ps) x0 = nx at CN e1
              go_wp2
              have z0 : ∀ p : Kin (wr.heap.size + 1) (wr.alloc (.cells #[.int .i64 x0, .int .i64 x1, .int .i64 x2, .slice ab nb cb] 101)), p.v.cell? ⟨wr.heap.size, 0, none⟩ = some (.int .i64 x0) := kin_cell (by omega) (by go_simp)
              have z1 : ∀ p : Kin (wr.heap.size + 1) (wr.alloc (.cells #[.int .i64 x0, .int .i64 x1, .int .i64 x2, .slice ab nb cb] 101)), p.v.cell? ⟨wr.heap.size, 1, none⟩ = some (.int .i64 x1) := kin_cell (by omega) (by go_simp)
              have z2 : ∀ p : Kin (wr.heap.size + 1) (wr.alloc (.cells #[.int .i64 x0, .int .i64 x1, .int .i64 x2, .slice ab nb cb] 101)), p.v.cell? ⟨wr.heap.size, 2, none⟩ = some (.int .i64 x2) := kin_cell (by omega) (by go_simp)
              have z3 : ∀ p : Kin (wr.heap.size + 1) (wr.alloc (.cells #[.int .i64 x0, .int .i64 x1, .int .i64 x2, .slice ab nb cb] 101)), p.v.cell? ⟨wr.heap.size, 3, none⟩ = some (.slice ab nb cb) := kin_cell (by omega) (by go_simp)
              have y0 : ∀ p : Kin (wr.heap.size + 1) (wr.alloc (.cells #[.int .i64 x0, .int .i64 x1, .int .i64 x2, .slice ab nb cb] 101)), p.v.cell? ⟨w.heap.size, 0, none⟩ = some (.int .i64 b) := kin_cell (by omega) ((cell_alloc_old' _ qlt trivial).trans q0)
              have y1 : ∀ p : Kin (wr.heap.size + 1) (wr.alloc (.cells #[.int .i64 x0, .int .i64 x1, .int .i64 x2, .slice ab nb cb] 101)), p.v.cell? ⟨w.heap.size, 1, none⟩ = some (.int .i64 d) := kin_cell (by omega) ((cell_alloc_old' _ qlt trivial).trans q1)
              refine region_kin (wr.heap.size + 1) (by kernel_rfl) (by kernel_rfl) (fun hne => ?_)
              repeat (go_big_quiet_step (first | (go_at_call 99; exact kin_of (by simp) (CN _ (Kin.bel _))) | (go_at_call 93; exact kin_same (CH _ (Kin.bel _)))))
              refine wpQuiet_nil ?_
              intro w5 hw'
              obtain ⟨⟨w6, hw5⟩, hw''⟩ := hw'
              obtain rfl : w5 = w6 := hw''
              clear z0 z1 z2 z3 y0 y1 hne
              go_wp2
              go_ret
              exact ⟨ret_bool hv.out.symm, belt HB.out (bel1 hw5 (by simp))⟩
        · have hv : Hid (goodP b d ps = false) := HN.out (fun ⟨hh, _⟩ => h1 hh)
          have e1 : (x1 != nxtI (idsP ps) x0) = true := by simpa using h1
          clear h1
          generalize nxtI (idsP ps) x0 = nx at CN e1
          go_wp2
          have z0 : ∀ p : Kin (wr.heap.size + 1) (wr.alloc (.cells #[.int .i64 x0, .int .i64 x1, .int .i64 x2, .slice ab nb cb] 101)), p.v.cell? ⟨wr.heap.size, 0, none⟩ = some (.int .i64 x0) := kin_cell (by omega) (by go_simp)
          have z1 : ∀ p : Kin (wr.heap.size + 1) (wr.alloc (.cells #[.int .i64 x0, .int .i64 x1, .int .i64 x2, .slice ab nb cb] 101)), p.v.cell? ⟨wr.heap.size, 1, none⟩ = some (.int .i64 x1) := kin_cell (by omega) (by go_simp)
          have z2 : ∀ p : Kin (wr.heap.size + 1) (wr.alloc (.cells #[.int .i64 x0, .int .i64 x1, .int .i64 x2, .slice ab nb cb] 101)), p.v.cell? ⟨wr.heap.size, 2, none⟩ = some (.int .i64 x2) := kin_cell (by omega) (by go_simp)
          have z3 : ∀ p : Kin (wr.heap.size + 1) (wr.alloc (.cells #[.int .i64 x0, .int .i64 x1, .int .i64 x2, .slice ab nb cb] 101)), p.v.cell? ⟨wr.heap.size, 3, none⟩ = some (.slice ab nb cb) := kin_cell (by omega) (by go_simp)
          have y0 : ∀ p : Kin (wr.heap.size + 1) (wr.alloc (.cells #[.int .i64 x0, .int .i64 x1, .int .i64 x2, .slice ab nb cb] 101)), p.v.cell? ⟨w.heap.size, 0, none⟩ = some (.int .i64 b) := kin_cell (by omega) ((cell_alloc_old' _ qlt trivial).trans q0)
          have y1 : ∀ p : Kin (wr.heap.size + 1) (wr.alloc (.cells #[.int .i64 x0, .int .i64 x1, .int .i64 x2, .slice ab nb cb] 101)), p.v.cell? ⟨w.heap.size, 1, none⟩ = some (.int .i64 d) := kin_cell (by omega) ((cell_alloc_old' _ qlt trivial).trans q1)
          refine region_kin (wr.heap.size + 1) (by kernel_rfl) (by kernel_rfl) (fun hne => ?_)
          repeat (go_big_quiet_step (first | (go_at_call 99; exact kin_of (by simp) (CN _ (Kin.bel _))) | (go_at_call 93; exact kin_same (CH _ (Kin.bel _)))))
          refine wpQuiet_nil ?_
          intro w5 hw'
          obtain ⟨⟨w6, hw5⟩, hw''⟩ := hw'
          obtain rfl : w5 = w6 := hw''
          clear z0 z1 z2 z3 y0 y1 hne
          go_wp2
          go_ret
          exact ⟨ret_bool hv.out.symm, belt HB.out (bel1 hw5 (by simp))⟩
      · have hv : Hid (goodP b d ps = true) := goodP_yes hg (fun i hi => HS.out i (by omega))
        go_wp2
        go_ret
        exact ⟨ret_bool hv.out.symm, BX.out.bel⟩
end Go.Proofs.Ytejajlloipkkhaa
