/- The specification's good peers. A list of peers that grows by append. Peers under way: a box with a list that grows; the mathematics of ideal peers. Peers under way: one peer's box is written meanwhile. The specification's ideal peers. The specification's sameness of peers. The specification's IsIdeal. The specification's copy of peers. What the laws over peers share: the specification's GoodPeers; two boxes read. Peers of one's own: a pointer is set; backs are set. A struct and a bool are answered; one number of a peer is written; the specification's IdealPeers. The program's good peers. GoodPeers, in the program. MembersOf, on both sides; what the laws over peers keep when peers are marked. What the walks of exact laws share: boxes, marks, lists and peers of one's own that may be empty. Messages and replies as elements of slices: what reads as them, what owns them, what their marks are; slices of one's own, generally. -/
import Derived.Deep.RegionHeld
import Derived.Deep.DeepCutAuto
import Derived.Laws.AppendOwnNone
import Derived.Test.YtdceimnapbblnaaGreatZ0
import Derived.Test.YtdceimnapbblnaaGreatZ1
namespace Go.Proofs.YtdceimnapbblnaaGreat
open Go.RowKit
set_option linter.unusedVariables false
theorem own_rowAt {w : World} {B : Nat} {v : Value} {l : List Int} (h : w.ownsRow B 3 1 v l.length (l.map (Value.int .i64))) : ∃ a cap, v = .slice a l.length cap ∧ l.length ≤ cap ∧ RowAt w a l := by
  by_cases h0 : 0 < l.length
  · obtain ⟨g, cap, rfl⟩ := Joins.ownsRow_form h h0
    obtain ⟨os, _, hc⟩ := OwnS.of_owns h
    exact ⟨_, cap, rfl, hc, os.rowAt⟩
  · have hl : l = [] := List.eq_nil_of_length_eq_zero (by omega)
    subst hl
    rcases Joins.ownsRow_forms h with ⟨h1, _⟩ | ⟨g, cap, h1⟩
    · exact ⟨none, 0, h1, Nat.zero_le _, .inl rfl⟩
    · exact ⟨_, cap, h1, Nat.zero_le _, .inl rfl⟩
/-- the box of peers that came in -/
structure BxP (w wr : World) (b d : Int) (v : Value) : Prop where
  bel : Below w.heap.size w wr
  lt : w.heap.size < wr.heap.size
  c0 : wr.cell? ⟨w.heap.size, 0, none⟩ = some (.int .i64 b)
  c1 : wr.cell? ⟨w.heap.size, 1, none⟩ = some (.int .i64 d)
  c2 : wr.cell? ⟨w.heap.size, 2, none⟩ = some v
theorem BxP.keep {w wr w1 : World} {b d : Int} {v : Value} (h : BxP w wr b d v) (hb : Below wr.heap.size wr w1) : BxP w w1 b d v :=
  ⟨belt h.bel hb, Nat.lt_of_lt_of_le h.lt hb.size, (hb.cell h.lt).trans h.c0, (hb.cell h.lt).trans h.c1, (hb.cell h.lt).trans h.c2⟩
theorem bxP1 {w w1 : World} {b d : Int} {v : Value} {T : TypeId} {N : Nat} (hb : Below N (w.alloc (.cells #[.int .i64 b, .int .i64 d, v] T)) w1) (hN : w.heap.size + 1 ≤ N) : BxP w w1 b d v := by
  have h0 : BxP w (w.alloc (.cells #[.int .i64 b, .int .i64 d, v] T)) b d v := ⟨(Below.refl _ _).alloc (Nat.le_refl _) _, by simp, by go_simp, by go_simp, by go_simp⟩
  exact h0.keep (hb.mono (by simp; omega))
def prB (zs : List Int) (p : Pr) : Bool := decide (p.succ = nxtI zs p.id) && hasB zs p.point && decide (p.backs.length ≤ 3) && decide (∀ i, i < p.backs.length → hasB zs (p.backs.getD i 0) = true)
def goodP (b d : Int) (ps : List Pr) : Bool := ringB b d (idsP ps) && decide (∀ i, i < ps.length → prB (idsP ps) (ps.getD i pr0) = true)
theorem prB_parts {zs : List Int} {p : Pr} : prB zs p = true ↔ p.succ = nxtI zs p.id ∧ hasB zs p.point = true ∧ p.backs.length ≤ 3 ∧ ∀ i, i < p.backs.length → hasB zs (p.backs.getD i 0) = true := by
  unfold prB
  simp only [Bool.and_eq_true, decide_eq_true_eq]
  constructor
  · rintro ⟨⟨⟨h1, h2⟩, h3⟩, h4⟩; exact ⟨h1, h2, h3, h4⟩
  · rintro ⟨h1, h2, h3, h4⟩; exact ⟨⟨⟨h1, h2⟩, h3⟩, h4⟩
theorem goodP_no {b d : Int} {ps : List Pr} {k : Nat} (hk : k < ps.length) (h : ¬ prB (idsP ps) (ps.getD k pr0) = true) : goodP b d ps = false := by
  unfold goodP
  rw [decide_eq_false (fun hh => h (hh k hk)), Bool.and_false]
theorem goodP_yes {b d : Int} {ps : List Pr} (hg : ringB b d (idsP ps) = true) (h : ∀ i, i < ps.length → prB (idsP ps) (ps.getD i pr0) = true) : goodP b d ps = true := by
  unfold goodP
  rw [hg, decide_eq_true h]; rfl
theorem cell_alloc_old' {w : World} {b i : Nat} (o : Obj) (h : b < w.heap.size) : True → (w.alloc o).cell? ⟨b, i, none⟩ = w.cell? ⟨b, i, none⟩ := fun _ => ((Below.refl w.heap.size w).alloc (Nat.le_refl _) o).cell (p := ⟨b, i, none⟩) h
set_option maxHeartbeats 6400000 in
theorem lgood_any (b d : Int) (a : Option Addr) (cap : Nat) (ps : List Pr) (w : World) (hm : ps.length ≤ 1048576) (hr : PeersAt w a ps) :
    Calls Tryz.prog 101 #[.agg #[.int .i64 b, .int .i64 d, .slice a ps.length cap]] w fun e w' => e = .returned (.bool (goodP b d ps)) ∧ Below w.heap.size w w' := by
  have hr1 := hr.alloc (.cells #[.int .i64 b, .int .i64 d, .slice a ps.length cap] 28)
  have hil := idsP_len ps
  have HR : Hid (PeersAt w a ps) := hr
  clear hr
  cases hg : ringB b d (idsP ps)
  · have hv : Hid (goodP b d ps = false) := by unfold Hid goodP; rw [hg]; rfl
    go_enter Tryz.func101, Tryz.ntmps101
    go_wp2_with fail
    refine (lmembers_any b d a cap ps _ hm hr1).mono ?_
    rintro e w1 ⟨v1, rfl, hown1, hw1⟩
    obtain ⟨a1, cap1, rfl, hc1, hrow1⟩ := own_rowAt hown1
    rw [hil] at hc1
    have CR := lring_any b d a1 cap1 (idsP ps) w1 (by unfold maxLen; omega) hrow1
    rw [hg, hil] at CR
    obtain ⟨bel1', _, q0, q1, q2⟩ := bxP1 hw1 (by simp)
    go_wp2_with fail
    refine CR.mono ?_
    rintro e w2 ⟨rfl, hw2⟩
    go_wp2
    go_ret
    exact ⟨ret_bool hv.out.symm, belt bel1' hw2⟩
  · have R := ringB_true hg
    have l2 := R.l2
    rw [hil] at l2
    go_enter Tryz.func101, Tryz.ntmps101
    go_wp2_with fail
    refine (lmembers_any b d a cap ps _ hm hr1).mono ?_
    rintro e w1 ⟨v1, rfl, hown1, hw1⟩
    obtain ⟨a1, cap1, rfl, hc1, hrow1⟩ := own_rowAt hown1
    rw [hil] at hc1
    have CR := lring_any b d a1 cap1 (idsP ps) w1 (by unfold maxLen; omega) hrow1
    rw [hg, hil] at CR
    have BX1 : Hid (BxP w w1 b d (.slice a ps.length cap)) := bxP1 hw1 (by simp)
    have HI1 : Hid (RowAt w1 a1 (idsP ps)) := hrow1
    clear hown1 hrow1 hr1 hw1
    obtain ⟨_, _, q0, q1, _⟩ := BX1.out
    go_wp2_with fail
    refine CR.mono ?_
    rintro e w2 ⟨rfl, hw2⟩
    clear CR
    have BX2 : Hid (BxP w w2 b d (.slice a ps.length cap)) := BX1.out.keep hw2
    have HI2 : Hid (RowAt w2 a1 (idsP ps)) := HI1.out.keep hw2
    have RR : Hid (Ring b d (idsP ps)) := R
    clear BX1 HI1 hw2 q0 q1 R
    obtain ⟨_, _, _, _, q2⟩ := BX2.out
    have q2' : Hid (w2.cell? ⟨w.heap.size, 2, none⟩ = some (.slice a ps.length cap)) := q2
    go_wp2_with fail
    go_loopw [18] (fun vi wr => ∃ (k : Nat), k ≤ ps.length ∧ vi = .int .i64 k ∧ Hid (BxP w wr b d (.slice a ps.length cap)) ∧ Hid (RowAt wr a1 (idsP ps)) ∧ Hid (∀ i, i < k → prB (idsP ps) (ps.getD i pr0) = true)) (fun vi _ => ps.length - (intOf vi).toNat)
    case atStart => exact ⟨0, Nat.zero_le _, rfl, BX2, HI2, fun i hi => by omega⟩
    case round =>
      obtain ⟨k, hk, rfl, BX, HI, HS⟩ := hrel
      clear BX2 HI2 q2 q2'
      by_cases hlt : k < ps.length
      · obtain ⟨bk, off, rfl⟩ := peersAt_form HR.out (by omega)
        have HB : Hid (Below w.heap.size w wr) := BX.out.bel
        obtain ⟨_, qlt, q0, q1, _⟩ := BX.out
        obtain ⟨c0, c1, c2, ab, cb, c3, hrb, hn, _⟩ := (peersAt_cell (HR.out.keep HB.out) (by omega)).2 k hlt
        have hid := idsP_get ps k
        obtain ⟨x01, x02⟩ := RR.out.rng k (by omega)
        rw [hid] at x01 x02
        have HN : Hid (¬ prB (idsP ps) (ps.getD k pr0) = true → goodP b d ps = false) := goodP_no hlt
        have HY : Hid (prB (idsP ps) (ps.getD k pr0) = true → ∀ i, i < k + 1 → prB (idsP ps) (ps.getD i pr0) = true) := fun hp i hi => by
          by_cases he : i = k
          · subst he; exact hp
          · exact HS.out i (by omega)
        unfold Hid at HN HY
        rw [prB_parts] at HN HY
        have HN : Hid _ := HN
        have HY : Hid _ := HY
        clear hid
        have HRB : Hid (RowAt wr ab (ps.getD k pr0).backs) := hrb
        clear hrb
        obtain ⟨bs, hbs⟩ : ∃ bs, bs = (ps.getD k pr0).backs := ⟨_, rfl⟩
        rw [← hbs] at c3 hn HN HY HRB
        clear hbs
        obtain ⟨nb, hnb⟩ : ∃ nb, nb = bs.length := ⟨_, rfl⟩
        rw [← hnb] at c3 hn HN HY
        have HNB : Hid (nb = bs.length) := hnb
        clear hnb
        generalize (ps.getD k pr0).id = x0 at c0 x01 x02 HN HY
        generalize (ps.getD k pr0).succ = x1 at c1 HN HY
        generalize (ps.getD k pr0).point = x2 at c2 HN HY
        have CN : ∀ w6, Below (wr.heap.size + 1) (wr.alloc (.cells #[.int .i64 x0, .int .i64 x1, .int .i64 x2, .slice ab nb cb] 130)) w6 → Calls Tryz.prog 160 #[.agg #[.int .i64 b, .int .i64 d], .slice a1 ps.length cap1, .int .i64 x0] w6 fun e w' => e = .returned (.int .i64 (nxtI (idsP ps) x0)) ∧ Below w6.heap.size w6 w' := fun w6 h6 => by
          have := lnext_any b d a1 cap1 (idsP ps) x0 w6 RR.out ((HI.out.alloc _).keepB h6 (by simp)) x01 x02
          rwa [hil] at this
        have CH : ∀ w6, Below (wr.heap.size + 1) (wr.alloc (.cells #[.int .i64 x0, .int .i64 x1, .int .i64 x2, .slice ab nb cb] 130)) w6 → Calls Tryz.prog 87 #[.slice a1 ps.length cap1, .int .i64 x2] w6 fun e w' => e = .returned (.bool (hasB (idsP ps) x2)) ∧ w' = w6 := fun w6 h6 => by
          have := lhas_any a1 cap1 (idsP ps) x2 w6 (by unfold maxLen; omega) ((HI.out.alloc _).keepB h6 (by simp))
          rwa [hil] at this
        unfold maxLen at hn
        by_cases h1 : x1 = nxtI (idsP ps) x0
        · have e1 : (x1 != nxtI (idsP ps) x0) = false := by rw [h1]; simp
          cases h2 : hasB (idsP ps) x2
          · rw [h2] at CH
            have hv : Hid (goodP b d ps = false) := HN.out (fun ⟨_, hh, _⟩ => by rw [h2] at hh; cases hh)
            clear h1 h2
            generalize nxtI (idsP ps) x0 = nx at CN e1
            go_wp2
            have z0 : ∀ p : Kin (wr.heap.size + 1) (wr.alloc (.cells #[.int .i64 x0, .int .i64 x1, .int .i64 x2, .slice ab nb cb] 130)), p.v.cell? ⟨wr.heap.size, 0, none⟩ = some (.int .i64 x0) := kin_cell (by omega) (by go_simp)
            have z1 : ∀ p : Kin (wr.heap.size + 1) (wr.alloc (.cells #[.int .i64 x0, .int .i64 x1, .int .i64 x2, .slice ab nb cb] 130)), p.v.cell? ⟨wr.heap.size, 1, none⟩ = some (.int .i64 x1) := kin_cell (by omega) (by go_simp)
            have z2 : ∀ p : Kin (wr.heap.size + 1) (wr.alloc (.cells #[.int .i64 x0, .int .i64 x1, .int .i64 x2, .slice ab nb cb] 130)), p.v.cell? ⟨wr.heap.size, 2, none⟩ = some (.int .i64 x2) := kin_cell (by omega) (by go_simp)
            have z3 : ∀ p : Kin (wr.heap.size + 1) (wr.alloc (.cells #[.int .i64 x0, .int .i64 x1, .int .i64 x2, .slice ab nb cb] 130)), p.v.cell? ⟨wr.heap.size, 3, none⟩ = some (.slice ab nb cb) := kin_cell (by omega) (by go_simp)
            have y0 : ∀ p : Kin (wr.heap.size + 1) (wr.alloc (.cells #[.int .i64 x0, .int .i64 x1, .int .i64 x2, .slice ab nb cb] 130)), p.v.cell? ⟨w.heap.size, 0, none⟩ = some (.int .i64 b) := kin_cell (by omega) ((cell_alloc_old' _ qlt trivial).trans q0)
            have y1 : ∀ p : Kin (wr.heap.size + 1) (wr.alloc (.cells #[.int .i64 x0, .int .i64 x1, .int .i64 x2, .slice ab nb cb] 130)), p.v.cell? ⟨w.heap.size, 1, none⟩ = some (.int .i64 d) := kin_cell (by omega) ((cell_alloc_old' _ qlt trivial).trans q1)
            refine region_kin (wr.heap.size + 1) (by kernel_rfl) (by kernel_rfl) (fun hne => ?_)
            repeat (go_big_quiet_step (first | (go_at_call 160; exact kin_of (by simp) (CN _ (Kin.bel _))) | (go_at_call 87; exact kin_same (CH _ (Kin.bel _)))))
            refine wpQuiet_nil ?_
            intro w5 hw'
            obtain ⟨⟨w6, hw5⟩, hw''⟩ := hw'
            obtain rfl : w5 = w6 := hw''
            clear z0 z1 z2 z3 y0 y1 hne
            go_wp2
            go_ret
            exact ⟨ret_bool hv.out.symm, belt HB.out (bel1 hw5 (by simp))⟩
          · rw [h2] at CH
            by_cases h3 : nb ≤ 3
            · have HY2 : Hid ((∀ i, i < nb → hasB (idsP ps) (bs.getD i 0) = true) → ∀ i, i < k + 1 → prB (idsP ps) (ps.getD i pr0) = true) := fun h => HY.out ⟨h1, h2, h3, h⟩
              have HN2 : Hid (∀ i, i < nb → hasB (idsP ps) (bs.getD i 0) = false → goodP b d ps = false) := fun i hi hh => HN.out (fun ⟨_, _, _, h4⟩ => by rw [h4 i hi] at hh; cases hh)
              clear h1 h2 HN HY HS
              generalize nxtI (idsP ps) x0 = nx at CN e1
              go_wp2
              have z0 : ∀ p : Kin (wr.heap.size + 1) (wr.alloc (.cells #[.int .i64 x0, .int .i64 x1, .int .i64 x2, .slice ab nb cb] 130)), p.v.cell? ⟨wr.heap.size, 0, none⟩ = some (.int .i64 x0) := kin_cell (by omega) (by go_simp)
              have z1 : ∀ p : Kin (wr.heap.size + 1) (wr.alloc (.cells #[.int .i64 x0, .int .i64 x1, .int .i64 x2, .slice ab nb cb] 130)), p.v.cell? ⟨wr.heap.size, 1, none⟩ = some (.int .i64 x1) := kin_cell (by omega) (by go_simp)
              have z2 : ∀ p : Kin (wr.heap.size + 1) (wr.alloc (.cells #[.int .i64 x0, .int .i64 x1, .int .i64 x2, .slice ab nb cb] 130)), p.v.cell? ⟨wr.heap.size, 2, none⟩ = some (.int .i64 x2) := kin_cell (by omega) (by go_simp)
              have z3 : ∀ p : Kin (wr.heap.size + 1) (wr.alloc (.cells #[.int .i64 x0, .int .i64 x1, .int .i64 x2, .slice ab nb cb] 130)), p.v.cell? ⟨wr.heap.size, 3, none⟩ = some (.slice ab nb cb) := kin_cell (by omega) (by go_simp)
              have y0 : ∀ p : Kin (wr.heap.size + 1) (wr.alloc (.cells #[.int .i64 x0, .int .i64 x1, .int .i64 x2, .slice ab nb cb] 130)), p.v.cell? ⟨w.heap.size, 0, none⟩ = some (.int .i64 b) := kin_cell (by omega) ((cell_alloc_old' _ qlt trivial).trans q0)
              have y1 : ∀ p : Kin (wr.heap.size + 1) (wr.alloc (.cells #[.int .i64 x0, .int .i64 x1, .int .i64 x2, .slice ab nb cb] 130)), p.v.cell? ⟨w.heap.size, 1, none⟩ = some (.int .i64 d) := kin_cell (by omega) ((cell_alloc_old' _ qlt trivial).trans q1)
              refine region_kin (wr.heap.size + 1) (by kernel_rfl) (by kernel_rfl) (fun hne => ?_)
              repeat (go_big_quiet_step (first | (go_at_call 160; exact kin_of (by simp) (CN _ (Kin.bel _))) | (go_at_call 87; exact kin_same (CH _ (Kin.bel _)))))
              refine wpQuiet_nil ?_
              intro w5 hw'
              obtain ⟨⟨w6, hw5⟩, hw''⟩ := hw'
              obtain rfl : w5 = w6 := hw''
              have HB5 : Hid (Below wr.heap.size wr w5) := bel1 hw5 (by simp)
              have HI5 : Hid (RowAt w5 a1 (idsP ps)) := HI.out.keep HB5.out
              have HRB5 : Hid (RowAt w5 ab bs) := HRB.out.keep HB5.out
              have BX5 : Hid (BxP w w5 b d (.slice (some ⟨bk, off, none⟩) ps.length cap)) := BX.out.keep HB5.out
              have z35 := z3 ⟨w5, hw5⟩
              clear z0 z1 z2 z3 y0 y1 hne CN CH HI HRB
              go_wp2_with fail
              go_loop [47] (fun v => ∃ j : Nat, j ≤ nb ∧ v = .int .i64 j ∧ Hid (∀ i, i < j → hasB (idsP ps) (bs.getD i 0) = true)) (fun v => nb - (intOf v).toNat)
              case atStart => exact ⟨0, Nat.zero_le _, rfl, fun i hi => by omega⟩
              case round =>
                obtain ⟨j, hj, rfl, HT⟩ := hrel
                by_cases hjl : j < nb
                · obtain ⟨bb, ob, rfl⟩ := rowAt_form HRB5.out (by have := HNB.out; omega)
                  have hcb := (rowAt_cell HRB5.out (by have := HNB.out; omega)).2 j (by have := HNB.out; omega)
                  have CB := lhas_any a1 cap1 (idsP ps) (bs.getD j 0) w5 (by unfold maxLen; omega) HI5.out
                  rw [hil] at CB
                  cases h5 : hasB (idsP ps) (bs.getD j 0)
                  · rw [h5] at CB
                    have hv : Hid (goodP b d ps = false) := HN2.out j hjl h5
                    clear h5
                    generalize bs.getD j 0 = z at hcb CB
                    go_wp2_with fail
                    refine CB.mono ?_
                    rintro e w7 ⟨rfl, hw7⟩
                    subst hw7
                    go_wp2
                    go_ret
                    exact ⟨ret_bool hv.out.symm, BX5.out.bel⟩
                  · rw [h5] at CB
                    have HT2 : Hid (∀ i, i < j + 1 → hasB (idsP ps) (bs.getD i 0) = true) := fun i hi => by
                      by_cases he : i = j
                      · subst he; exact h5
                      · exact HT.out i (by omega)
                    clear h5
                    generalize bs.getD j 0 = z at hcb CB
                    go_wp2_with fail
                    refine CB.mono ?_
                    rintro e w7 ⟨rfl, hw7⟩
                    subst hw7
                    go_wp2_with fail
                    go_round
                    case rel => exact ⟨j + 1, by omega, by go_num, HT2⟩
                    case measure => simp [intOf]; omega
                · have HS2 : Hid (∀ i, i < k + 1 → prB (idsP ps) (ps.getD i pr0) = true) := HY2.out (fun i hi => HT.out i (by omega))
                  go_wp2_with fail
                  go_roundw
                  case rel => exact ⟨k + 1, by omega, by go_num, BX5, HI5, HS2⟩
                  case measure => simp [intOf]; omega
            · have hv : Hid (goodP b d ps = false) := HN.out (fun ⟨_, _, hh, _⟩ => h3 hh)
              clear h1 h2
              generalize nxtI (idsP ps) x0 = nx at CN e1
              go_wp2
              have z0 : ∀ p : Kin (wr.heap.size + 1) (wr.alloc (.cells #[.int .i64 x0, .int .i64 x1, .int .i64 x2, .slice ab nb cb] 130)), p.v.cell? ⟨wr.heap.size, 0, none⟩ = some (.int .i64 x0) := kin_cell (by omega) (by go_simp)
              have z1 : ∀ p : Kin (wr.heap.size + 1) (wr.alloc (.cells #[.int .i64 x0, .int .i64 x1, .int .i64 x2, .slice ab nb cb] 130)), p.v.cell? ⟨wr.heap.size, 1, none⟩ = some (.int .i64 x1) := kin_cell (by omega) (by go_simp)
              have z2 : ∀ p : Kin (wr.heap.size + 1) (wr.alloc (.cells #[.int .i64 x0, .int .i64 x1, .int .i64 x2, .slice ab nb cb] 130)), p.v.cell? ⟨wr.heap.size, 2, none⟩ = some (.int .i64 x2) := kin_cell (by omega) (by go_simp)
              have z3 : ∀ p : Kin (wr.heap.size + 1) (wr.alloc (.cells #[.int .i64 x0, .int .i64 x1, .int .i64 x2, .slice ab nb cb] 130)), p.v.cell? ⟨wr.heap.size, 3, none⟩ = some (.slice ab nb cb) := kin_cell (by omega) (by go_simp)
              have y0 : ∀ p : Kin (wr.heap.size + 1) (wr.alloc (.cells #[.int .i64 x0, .int .i64 x1, .int .i64 x2, .slice ab nb cb] 130)), p.v.cell? ⟨w.heap.size, 0, none⟩ = some (.int .i64 b) := kin_cell (by omega) ((cell_alloc_old' _ qlt trivial).trans q0)
              have y1 : ∀ p : Kin (wr.heap.size + 1) (wr.alloc (.cells #[.int .i64 x0, .int .i64 x1, .int .i64 x2, .slice ab nb cb] 130)), p.v.cell? ⟨w.heap.size, 1, none⟩ = some (.int .i64 d) := kin_cell (by omega) ((cell_alloc_old' _ qlt trivial).trans q1)
              refine region_kin (wr.heap.size + 1) (by kernel_rfl) (by kernel_rfl) (fun hne => ?_)
              repeat (go_big_quiet_step (first | (go_at_call 160; exact kin_of (by simp) (CN _ (Kin.bel _))) | (go_at_call 87; exact kin_same (CH _ (Kin.bel _)))))
              refine wpQuiet_nil ?_
              intro w5 hw'
              obtain ⟨⟨w6, hw5⟩, hw''⟩ := hw'
              obtain rfl : w5 = w6 := hw''
              clear z0 z1 z2 z3 y0 y1 hne
              go_wp2
              go_ret
              exact ⟨ret_bool hv.out.symm, belt HB.out (bel1 hw5 (by simp))⟩
        · have hv : Hid (goodP b d ps = false) := HN.out (fun ⟨hh, _⟩ => h1 hh)
          have e1 : (x1 != nxtI (idsP ps) x0) = true := by simpa using h1
          clear h1
          generalize nxtI (idsP ps) x0 = nx at CN e1
          go_wp2
          have z0 : ∀ p : Kin (wr.heap.size + 1) (wr.alloc (.cells #[.int .i64 x0, .int .i64 x1, .int .i64 x2, .slice ab nb cb] 130)), p.v.cell? ⟨wr.heap.size, 0, none⟩ = some (.int .i64 x0) := kin_cell (by omega) (by go_simp)
          have z1 : ∀ p : Kin (wr.heap.size + 1) (wr.alloc (.cells #[.int .i64 x0, .int .i64 x1, .int .i64 x2, .slice ab nb cb] 130)), p.v.cell? ⟨wr.heap.size, 1, none⟩ = some (.int .i64 x1) := kin_cell (by omega) (by go_simp)
          have z2 : ∀ p : Kin (wr.heap.size + 1) (wr.alloc (.cells #[.int .i64 x0, .int .i64 x1, .int .i64 x2, .slice ab nb cb] 130)), p.v.cell? ⟨wr.heap.size, 2, none⟩ = some (.int .i64 x2) := kin_cell (by omega) (by go_simp)
          have z3 : ∀ p : Kin (wr.heap.size + 1) (wr.alloc (.cells #[.int .i64 x0, .int .i64 x1, .int .i64 x2, .slice ab nb cb] 130)), p.v.cell? ⟨wr.heap.size, 3, none⟩ = some (.slice ab nb cb) := kin_cell (by omega) (by go_simp)
          have y0 : ∀ p : Kin (wr.heap.size + 1) (wr.alloc (.cells #[.int .i64 x0, .int .i64 x1, .int .i64 x2, .slice ab nb cb] 130)), p.v.cell? ⟨w.heap.size, 0, none⟩ = some (.int .i64 b) := kin_cell (by omega) ((cell_alloc_old' _ qlt trivial).trans q0)
          have y1 : ∀ p : Kin (wr.heap.size + 1) (wr.alloc (.cells #[.int .i64 x0, .int .i64 x1, .int .i64 x2, .slice ab nb cb] 130)), p.v.cell? ⟨w.heap.size, 1, none⟩ = some (.int .i64 d) := kin_cell (by omega) ((cell_alloc_old' _ qlt trivial).trans q1)
          refine region_kin (wr.heap.size + 1) (by kernel_rfl) (by kernel_rfl) (fun hne => ?_)
          repeat (go_big_quiet_step (first | (go_at_call 160; exact kin_of (by simp) (CN _ (Kin.bel _))) | (go_at_call 87; exact kin_same (CH _ (Kin.bel _)))))
          refine wpQuiet_nil ?_
          intro w5 hw'
          obtain ⟨⟨w6, hw5⟩, hw''⟩ := hw'
          obtain rfl : w5 = w6 := hw''
          clear z0 z1 z2 z3 y0 y1 hne
          go_wp2
          go_ret
          exact ⟨ret_bool hv.out.symm, belt HB.out (bel1 hw5 (by simp))⟩
      · have hv : Hid (goodP b d ps = true) := goodP_yes hg (fun i hi => HS.out i (by omega))
        go_wp2
        go_ret
        exact ⟨ret_bool hv.out.symm, BX.out.bel⟩
end Go.Proofs.YtdceimnapbblnaaGreat
namespace Go.Proofs.YtdceimnapbblnaaGreat
open Go.RowKit
set_option linter.unusedVariables false

def flatP : List (Pr × Value) → List Value
  | [] => []
  | e :: L => .int .i64 e.1.id :: .int .i64 e.1.succ :: .int .i64 e.1.point :: e.2 :: flatP L
theorem flatP_len : ∀ L : List (Pr × Value), (flatP L).length = L.length * 4
  | [] => rfl
  | e :: L => by simp [flatP, flatP_len L]; omega
theorem flatP_snoc (e : Pr × Value) : ∀ L : List (Pr × Value), flatP (L ++ [e]) = flatP L ++ [.int .i64 e.1.id, .int .i64 e.1.succ, .int .i64 e.1.point, e.2]
  | [] => rfl
  | f :: L => by simp [flatP, flatP_snoc e L]
theorem flatP_get : ∀ (L : List (Pr × Value)) (i : Nat), i < L.length → (flatP L)[i * 4]? = some (.int .i64 (L.getD i d0).1.id) ∧ (flatP L)[i * 4 + 1]? = some (.int .i64 (L.getD i d0).1.succ) ∧ (flatP L)[i * 4 + 2]? = some (.int .i64 (L.getD i d0).1.point) ∧ (flatP L)[i * 4 + 3]? = some (L.getD i d0).2
  | [], i, h => by simp at h
  | e :: L, 0, h => by simp [flatP]
  | e :: L, i + 1, h => by
    have := flatP_get L i (by simpa using h)
    have e0 : (i + 1) * 4 = i * 4 + 4 := by omega
    rw [e0]
    simp only [flatP, List.getD_cons_succ]
    exact ⟨by simpa using this.1, by simpa using this.2.1, by simpa using this.2.2.1, by simpa using this.2.2.2⟩
/-- a list of peers of one's own, in memory from B on: each one's backs too, no two of which are the same -/
structure ListP (B : Nat) (w : World) (vl : Value) (L : List (Pr × Value)) : Prop where
  own : w.ownsRow B 130 4 vl L.length (flatP L)
  val : ∀ i, i < L.length → ValOk B w.heap.size w (L.getD i d0)
  sep : ∀ i j, i < j → j < L.length → ¬ (L.getD i d0).1.backs = [] → ¬ (L.getD j d0).1.backs = [] → ¬ (L.getD i d0).2.ownBlock = (L.getD j d0).2.ownBlock
theorem ListP.nil (B : Nat) (w : World) : ListP B w (.slice none 0 0) [] :=
  ⟨World.ownsRow_nil _ _ _ _, fun i hi => by simp at hi, fun i j _ hj => by simp at hj⟩
theorem own_blocks {w w1 : World} {B size n : Nat} {e : TypeId} {v : Value} {xs : List Value} (h : w.ownsRow B e size v n xs) (hb : ∀ k, v.ownBlock = some k → w1.heap[k]? = w.heap[k]?) : w1.ownsRow B e size v n xs := by
  refine ⟨h.1, ?_⟩
  rcases h.2 with hn | ⟨g, cap, cur, rfl, hlo, hgg, rest⟩
  · exact .inl hn
  · exact .inr ⟨g, cap, cur, rfl, hlo, (hb g rfl).trans hgg, rest⟩
theorem ListP.blocks {B : Nat} {w w1 : World} {vl : Value} {L : List (Pr × Value)} (h : ListP B w vl L) (hs : w.heap.size ≤ w1.heap.size) (hb : ∀ k, B ≤ k → k < w.heap.size → w1.heap[k]? = w.heap[k]?) : ListP B w1 vl L :=
  ⟨own_blocks h.own (fun k hk => hb k (h.own.lt k hk).1 (h.own.lt k hk).2), fun i hi => ((h.val i hi).blocks (fun k h1 h2 h3 => hb k h1 h3)).wide hs, h.sep⟩
theorem ListP.keep {B : Nat} {w w1 : World} {vl : Value} {L : List (Pr × Value)} (h : ListP B w vl L) (hb : Below w.heap.size w w1) : ListP B w1 vl L := h.blocks hb.size (fun k _ hk => hb.block k hk)
theorem ListP.form {B : Nat} {w : World} {vl : Value} {L : List (Pr × Value)} (h : ListP B w vl L) : ∃ a cap, vl = .slice a L.length cap ∧ L.length ≤ cap := by
  rcases h.own.2 with ⟨rfl, hn⟩ | ⟨g, cap, cur, rfl, _, _, hc, _⟩
  · exact ⟨none, 0, by rw [hn], by omega⟩
  · exact ⟨_, cap, rfl, hc⟩
theorem ListP.ownP {B : Nat} {w : World} {g n cap : Nat} {L : List (Pr × Value)} (h : ListP B w (.slice (some ⟨g, 0, none⟩) n cap) L) : OwnP B w.heap.size w g L := by
  rcases h.own.2 with ⟨hn, _⟩ | ⟨g', cap', cur, hv, hlo, hg, _, _, hs, ht⟩
  · cases hn
  · simp at hv
    obtain ⟨rfl, _, rfl⟩ := hv
    have get : ∀ j v, (flatP L)[j]? = some v → w.cell? ⟨g, j, none⟩ = some v := fun j v hj => by
      rw [cell_of_row w _ _ _ _ _ hg]
      rw [← ht, List.getElem?_take] at hj
      split at hj
      · simpa using hj
      · cases hj
    refine ⟨hlo, (Array.getElem?_eq_some_iff.1 hg).1, ⟨cur, hg⟩, fun i hi => ?_, h.val, h.sep⟩
    obtain ⟨f0, f1, f2, f3⟩ := flatP_get L i hi
    exact ⟨get _ _ f0, get _ _ f1, get _ _ f2, get _ _ f3⟩
theorem ListP.peersAt {B : Nat} {w : World} {a : Option Addr} {n cap : Nat} {L : List (Pr × Value)} (h : ListP B w (.slice a n cap) L) : PeersAt w a (L.map (·.1)) := by
  by_cases h0 : L.length = 0
  · have : L = [] := List.eq_nil_of_length_eq_zero h0
    subst this
    exact .inl rfl
  · obtain ⟨g, cap', hv⟩ := Joins.ownsRow_form h.own (by omega)
    simp at hv
    obtain ⟨rfl, rfl, rfl⟩ := hv
    exact h.ownP.peersAt
theorem ListP.grow {B : Nat} {w w1 : World} {vl v1 : Value} {L : List (Pr × Value)} {e : Pr × Value} (h : ListP B w vl L) (hg : w.grownBy w1 vl.ownBlock)
    (ho : w1.ownsRow B 130 4 v1 (L.length + 1) (flatP L ++ [.int .i64 e.1.id, .int .i64 e.1.succ, .int .i64 e.1.point, e.2])) (hv : ValOk B w.heap.size w e)
    (hs : ∀ i, i < L.length → ¬ (L.getD i d0).1.backs = [] → ¬ e.1.backs = [] → ¬ (L.getD i d0).2.ownBlock = e.2.ownBlock) : ListP B w1 v1 (L ++ [e]) := by
  have low : ∀ i, i < L.length → (L ++ [e]).getD i d0 = L.getD i d0 := fun i hi => by simp [List.getD_eq_getElem?_getD, List.getElem?_append_left hi]
  have top : (L ++ [e]).getD L.length d0 = e := by simp [List.getD_eq_getElem?_getD]
  have kept : ∀ f : Pr × Value, ValOk B w.heap.size w f → ValOk B w1.heap.size w1 f := fun f hf => by
    obtain ⟨ab, cb, hv, hc, hm, ho'⟩ := hf
    refine ⟨ab, cb, hv, hc, hm, ?_⟩
    rcases ho' with ho' | ⟨gb, ha, hl, os⟩
    · exact .inl ho'
    · refine .inr ⟨gb, ha, Nat.lt_of_lt_of_le hl hg.size, os.of_block (hg.block gb hl (fun he => ?_))⟩
      obtain ⟨cj, hcj, _⟩ := os.row
      rcases h.own.2 with ⟨rfl, _⟩ | ⟨g, cap, cur, rfl, _, hgg, _⟩
      · simp [Value.ownBlock] at he
      · simp [Value.ownBlock] at he
        subst he
        rw [hgg] at hcj
        simp at hcj
  refine ⟨by rw [flatP_snoc, List.length_append]; exact ho, fun i hi => ?_, fun i j hij hj => ?_⟩
  · rw [List.length_append] at hi
    by_cases he : i = L.length
    · subst he; rw [top]; exact kept _ hv
    · rw [low i (by simp at hi; omega)]; exact kept _ (h.val i (by simp at hi; omega))
  · rw [List.length_append] at hj
    simp at hj
    rw [low i (by omega)]
    by_cases he : j = L.length
    · subst he; rw [top]; exact hs i hij
    · rw [low j (by omega)]; exact h.sep i j hij (by omega)
end Go.Proofs.YtdceimnapbblnaaGreat
namespace Go.Proofs.YtdceimnapbblnaaGreat
open Go.RowKit
set_option linter.unusedVariables false

def prvN (zs : List Int) (p : Int) : Nat → Int
  | 0 => p
  | k + 1 => prvI zs (prvN zs p k)
def bckL (zs : List Int) (p : Int) (k : Nat) : List Int := (List.range k).map (fun i => prvN zs p (i + 1))
theorem bckL_len (zs : List Int) (p : Int) (k : Nat) : (bckL zs p k).length = k := by simp [bckL]
theorem bckL_succ (zs : List Int) (p : Int) (k : Nat) : bckL zs p (k + 1) = bckL zs p k ++ [prvN zs p (k + 1)] := by
  unfold bckL; rw [List.range_succ, List.map_append]; rfl
theorem prvN_rng {b d : Int} {zs : List Int} (R : Ring b d zs) {p : Int} (p1 : 0 ≤ p) (p2 : p < sz b) : ∀ k, 0 ≤ prvN zs p k ∧ prvN zs p k < sz b
  | 0 => ⟨p1, p2⟩
  | k + 1 => prv_rng R _
def idlP (b d : Int) (zs : List Int) (n : Nat) (x : Int) : Pr := ⟨x, nxtI zs x, pntI b d zs x, bckL zs (pntI b d zs x) n⟩
def idealL (b d : Int) (zs : List Int) (n : Nat) : List Pr := zs.map (idlP b d zs n)

theorem cell_four_new (w : World) (x0 x1 x2 x3 : Value) (t : TypeId) : ∀ j u, [x0, x1, x2, x3][j]? = some u → (w.alloc (.cells #[x0, x1, x2, x3] t)).cell? ((⟨w.heap.size, 0, none⟩ : Addr).add j) = some u := by
  intro j u hj
  rw [add_none', Nat.zero_add, cell_of_row _ _ _ _ _ _ (heap_alloc_new w (.cells #[x0, x1, x2, x3] t))]
  simpa using hj

/-- the argument's box, the answer's box, and the box of peers whose list grows -/
structure IdSt (w wr : World) (S0 : Array Value) (T0 : TypeId) (b d : Int) (vl : Value) (L : List (Pr × Value)) : Prop where
  bel : Below w.heap.size w wr
  lt : w.heap.size + 2 < wr.heap.size
  s : wr.heap[w.heap.size]? = some (.cells S0 T0 (0, 0))
  r : wr.heap[w.heap.size + 1]? = some (.cells #[.int .i64 0, .int .i64 0, .slice none 0 0] 28 (0, 0))
  p : wr.heap[w.heap.size + 1 + 1]? = some (.cells #[.int .i64 b, .int .i64 d, vl] 28 (0, 0))
  l : ListP (w.heap.size + 3) wr vl L
theorem IdSt.keep {w wr w1 : World} {S0 : Array Value} {T0 : TypeId} {b d : Int} {vl : Value} {L : List (Pr × Value)} (h : IdSt w wr S0 T0 b d vl L) (hb : Below wr.heap.size wr w1) : IdSt w w1 S0 T0 b d vl L :=
  have := h.lt
  ⟨belt h.bel hb, Nat.lt_of_lt_of_le h.lt hb.size, (hb.block _ (by omega)).trans h.s, (hb.block _ (by omega)).trans h.r, (hb.block _ (by omega)).trans h.p, h.l.keep hb⟩
theorem idSt0 (w : World) (S0 : Array Value) (T0 : TypeId) (b d : Int) : IdSt w (((w.alloc (.cells S0 T0)).alloc (.cells #[.int .i64 0, .int .i64 0, .slice none 0 0] 28)).alloc (.cells #[.int .i64 b, .int .i64 d, .slice none 0 0] 28)) S0 T0 b d (.slice none 0 0) [] := by
  refine ⟨(((Below.refl _ _).alloc (Nat.le_refl _) _).alloc (by simp) _).alloc (by simp; try omega) _, by simp, ?_, ?_, ?_, ListP.nil _ _⟩
  · rw [heap_alloc_old _ _ (by simp; try omega), heap_alloc_old _ _ (by simp; try omega)]
    exact heap_alloc_new _ _
  · rw [heap_alloc_old _ _ (by simp)]
    have := heap_alloc_new (w.alloc (.cells S0 T0)) (.cells #[.int .i64 0, .int .i64 0, .slice none 0 0] 28)
    simpa using this
  · have := heap_alloc_new ((w.alloc (.cells S0 T0)).alloc (.cells #[.int .i64 0, .int .i64 0, .slice none 0 0] 28)) (.cells #[.int .i64 b, .int .i64 d, .slice none 0 0] 28)
    simpa using this
/-- one peer more, whose backs lie beyond X; the list's box written -/
theorem IdSt.grow {w wx w5 w6 : World} {S0 : Array Value} {T0 : TypeId} {b d : Int} {vl v6 : Value} {L : List (Pr × Value)} {e : Pr × Value} (h : IdSt w wx S0 T0 b d vl L) (hb : Below wx.heap.size wx w5) (hg : w5.grownBy w6 vl.ownBlock)
    (ho : w6.ownsRow (w.heap.size + 3) 130 4 v6 (L.length + 1) (flatP L ++ [.int .i64 e.1.id, .int .i64 e.1.succ, .int .i64 e.1.point, e.2])) (hv : ValOk wx.heap.size w5.heap.size w5 e) :
    IdSt w (w6.setCell ⟨w.heap.size + 1 + 1, 2, none⟩ v6) S0 T0 b d v6 (L ++ [e]) := by
  have hlt := h.lt
  have h5 := h.keep hb
  have hne : ∀ k, k ≤ w.heap.size + 2 → some k ≠ vl.ownBlock := fun k hk he => by
    have := (h5.l.own.lt k he.symm).1
    omega
  have hs5 := h5.lt
  have blk : ∀ k, k ≤ w.heap.size + 2 → w6.heap[k]? = w5.heap[k]? := fun k hk => hg.block k (by omega) (hne k hk)
  have hvB : ValOk (w.heap.size + 3) w5.heap.size w5 e := by
    obtain ⟨ab, cb, hv', hc, hm, ho'⟩ := hv
    refine ⟨ab, cb, hv', hc, hm, ?_⟩
    rcases ho' with ho' | ⟨gb, ha, hl, os⟩
    · exact .inl ho'
    · exact .inr ⟨gb, ha, hl, os.mono (by omega)⟩
  have l6 : ListP (w.heap.size + 3) w6 v6 (L ++ [e]) := h5.l.grow hg ho hvB (fun i hi hn he hq => by
    obtain ⟨ab, cb, hv', _, _, ho'⟩ := h.l.val i hi
    obtain ⟨ae, ce, hve, _, _, hoe⟩ := hv
    rcases ho' with ho' | ⟨gb, ha, hl, os⟩
    · exact hn ho'
    · rcases hoe with hoe | ⟨ge, hae, _, ose⟩
      · exact he hoe
      · rw [hv', ha, hve, hae] at hq
        simp [Value.ownBlock] at hq
        have := ose.lo
        omega)
  refine ⟨?_, ?_, ?_, ?_, ?_, l6.blocks (by simp [World.setCell]) (fun k hk _ => heap_setCell_other _ _ _ _ (by simp; omega))⟩
  · exact (h5.bel.grown hg (by have := h5.bel.size; omega) (fun k hk => by have := (h5.l.own.lt k hk).1; omega)).setCell (p := ⟨w.heap.size + 1 + 1, 2, none⟩) (by simp; omega) _
  · have := hg.size; simp [World.setCell]; omega
  · rw [heap_setCell_other _ _ _ _ (by simp; try omega), blk _ (by omega)]; exact h5.s
  · rw [heap_setCell_other _ _ _ _ (by simp), blk _ (by omega)]; exact h5.r
  · exact heap_setCell_same _ _ 2 _ _ _ ((blk _ (by omega)).trans h5.p)
theorem info_peer' : ∃ i1, Tryz.prog.info? 130 = some i1 ∧ i1.zero = some (.agg #[.int .i64 0, .int .i64 0, .int .i64 0, .slice none 0 0]) ∧ i1.size = 4 ∧ i1.bytes = 48 := by
  obtain ⟨i0, hi, hz0, hz1, hz2⟩ := info_parts info_peer
  exact ⟨i0, hi, hz0, hz1, hz2⟩
end Go.Proofs.YtdceimnapbblnaaGreat
namespace Go.Proofs.YtdceimnapbblnaaGreat
open Go.RowKit
set_option linter.unusedVariables false
/-- nothing is changed of what was there but block X -/
structure Away (X : Nat) (wc wi : World) : Prop where
  os : wi.os = wc.os
  tape : wi.tape = wc.tape
  output : wi.output = wc.output
  size : wc.heap.size ≤ wi.heap.size
  blk : ∀ k, k < wc.heap.size → ¬ k = X → wi.heap[k]? = wc.heap[k]?
theorem Away.refl (X : Nat) (w : World) : Away X w w := ⟨rfl, rfl, rfl, Nat.le_refl _, fun _ _ _ => rfl⟩
theorem Away.below {X n : Nat} {w wc wi : World} (h : Away X wc wi) (hb : Below n w wc) (hX : n ≤ X) (hn : n ≤ wc.heap.size) : Below n w wi :=
  ⟨h.os.trans hb.os, h.tape.trans hb.tape, h.output.trans hb.output, Nat.le_trans hb.size h.size, fun k hk => (h.blk k (by omega) (by omega)).trans (hb.block k hk)⟩
theorem Away.keep {X : Nat} {wc wi w1 : World} (h : Away X wc wi) (hb : Below wi.heap.size wi w1) : Away X wc w1 :=
  ⟨hb.os.trans h.os, hb.tape.trans h.tape, hb.output.trans h.output, Nat.le_trans h.size hb.size, fun k hk hx => (hb.block k (Nat.lt_of_lt_of_le hk h.size)).trans (h.blk k hk hx)⟩
theorem Away.grown {X : Nat} {wc wi w1 : World} {r : Option Nat} (h : Away X wc wi) (hg : wi.grownBy w1 r) (hr : ∀ k, r = some k → wc.heap.size ≤ k) : Away X wc w1 :=
  ⟨hg.os.trans h.os, hg.tape.trans h.tape, hg.output.trans h.output, Nat.le_trans h.size hg.size, fun k hk hx => (hg.block k (Nat.lt_of_lt_of_le hk h.size) (fun he => by have := hr k he.symm; omega)).trans (h.blk k hk hx)⟩
theorem Away.set {X : Nat} {wc wi : World} (h : Away X wc wi) (i : Nat) (v : Value) : Away X wc (wi.setCell ⟨X, i, none⟩ v) :=
  ⟨h.os, h.tape, h.output, by have := h.size; simp [World.setCell]; omega, fun k hk hx => (heap_setCell_other _ _ _ _ (by simpa using hx)).trans (h.blk k hk hx)⟩
theorem IdSt.away {w wc wi : World} {S0 : Array Value} {T0 : TypeId} {b d : Int} {vl : Value} {L : List (Pr × Value)} {X : Nat} (h : IdSt w wc S0 T0 b d vl L) (hA : Away X wc wi) (hX : w.heap.size + 3 ≤ X)
    (hx : ∃ cur, wc.heap[X]? = some (.cells cur 130 (0, 0))) (hne : ¬ vl.ownBlock = some X) : IdSt w wi S0 T0 b d vl L := by
  have hlt := h.lt
  obtain ⟨cx, hcx⟩ := hx
  have blk : ∀ k, k ≤ w.heap.size + 2 → wi.heap[k]? = wc.heap[k]? := fun k hk => hA.blk k (by omega) (by omega)
  refine ⟨hA.below h.bel (by omega) (by omega), Nat.lt_of_lt_of_le h.lt hA.size, (blk _ (by omega)).trans h.s, (blk _ (by omega)).trans h.r, (blk _ (by omega)).trans h.p, ?_, fun i hi => ?_, h.l.sep⟩
  · exact own_blocks h.l.own (fun k hk => hA.blk k (h.l.own.lt k hk).2 (fun he => hne (by rw [hk, he])))
  · obtain ⟨ab, cb, hv, hc, hm, ho⟩ := h.l.val i hi
    refine ⟨ab, cb, hv, hc, hm, ?_⟩
    rcases ho with ho | ⟨gb, ha, hl, os⟩
    · exact .inl ho
    · refine .inr ⟨gb, ha, Nat.lt_of_lt_of_le hl hA.size, os.of_block (hA.blk gb hl (fun he => ?_))⟩
      obtain ⟨cj, hcj, _⟩ := os.row
      rw [he, hcx] at hcj
      simp at hcj
theorem IdSt.grow2 {w wc w5 w6 : World} {S0 : Array Value} {T0 : TypeId} {b d : Int} {vl v6 : Value} {L : List (Pr × Value)} {e : Pr × Value} (h : IdSt w wc S0 T0 b d vl L) (h5 : IdSt w w5 S0 T0 b d vl L) (hg : w5.grownBy w6 vl.ownBlock)
    (ho : w6.ownsRow (w.heap.size + 3) 130 4 v6 (L.length + 1) (flatP L ++ [.int .i64 e.1.id, .int .i64 e.1.succ, .int .i64 e.1.point, e.2])) (hv : ValOk wc.heap.size w5.heap.size w5 e) :
    IdSt w (w6.setCell ⟨w.heap.size + 1 + 1, 2, none⟩ v6) S0 T0 b d v6 (L ++ [e]) := by
  have hlt := h.lt
  have hne : ∀ k, k ≤ w.heap.size + 2 → some k ≠ vl.ownBlock := fun k hk he => by
    have := (h5.l.own.lt k he.symm).1
    omega
  have hs5 := h5.lt
  have blk : ∀ k, k ≤ w.heap.size + 2 → w6.heap[k]? = w5.heap[k]? := fun k hk => hg.block k (by omega) (hne k hk)
  have hvB : ValOk (w.heap.size + 3) w5.heap.size w5 e := by
    obtain ⟨ab, cb, hv', hc, hm, ho'⟩ := hv
    refine ⟨ab, cb, hv', hc, hm, ?_⟩
    rcases ho' with ho' | ⟨gb, ha, hl, os⟩
    · exact .inl ho'
    · exact .inr ⟨gb, ha, hl, os.mono (by omega)⟩
  have l6 : ListP (w.heap.size + 3) w6 v6 (L ++ [e]) := h5.l.grow hg ho hvB (fun i hi hn he hq => by
    obtain ⟨ab, cb, hv', _, _, ho'⟩ := h.l.val i hi
    obtain ⟨ae, ce, hve, _, _, hoe⟩ := hv
    rcases ho' with ho' | ⟨gb, ha, hl, os⟩
    · exact hn ho'
    · rcases hoe with hoe | ⟨ge, hae, _, ose⟩
      · exact he hoe
      · rw [hv', ha, hve, hae] at hq
        simp [Value.ownBlock] at hq
        have := ose.lo
        omega)
  refine ⟨?_, ?_, ?_, ?_, ?_, l6.blocks (by simp [World.setCell]) (fun k hk _ => heap_setCell_other _ _ _ _ (by simp; omega))⟩
  · exact (h5.bel.grown hg (by have := h5.bel.size; omega) (fun k hk => by have := (h5.l.own.lt k hk).1; omega)).setCell (p := ⟨w.heap.size + 1 + 1, 2, none⟩) (by simp; omega) _
  · have := hg.size; simp [World.setCell]; omega
  · rw [heap_setCell_other _ _ _ _ (by simp; try omega), blk _ (by omega)]; exact h5.s
  · rw [heap_setCell_other _ _ _ _ (by simp), blk _ (by omega)]; exact h5.r
  · exact heap_setCell_same _ _ 2 _ _ _ ((blk _ (by omega)).trans h5.p)

theorem IdSt.q0 {w wr : World} {T0 : TypeId} {b d : Int} {vl : Value} {L : List (Pr × Value)} (h : IdSt w wr #[.int .i64 b, .int .i64 d] T0 b d vl L) : wr.cell? ⟨w.heap.size, 0, none⟩ = some (.int .i64 b) := (cell_of_row wr _ _ _ _ _ h.s).trans rfl
theorem IdSt.q1 {w wr : World} {T0 : TypeId} {b d : Int} {vl : Value} {L : List (Pr × Value)} (h : IdSt w wr #[.int .i64 b, .int .i64 d] T0 b d vl L) : wr.cell? ⟨w.heap.size, 1, none⟩ = some (.int .i64 d) := (cell_of_row wr _ _ _ _ _ h.s).trans rfl
theorem IdSt.qq {w wr : World} {T0 : TypeId} {b d : Int} {vl : Value} {L : List (Pr × Value)} (h : IdSt w wr #[.int .i64 b, .int .i64 d] T0 b d vl L) : wr.cell? ⟨w.heap.size, 0, none⟩ = some (.int .i64 b) ∧ wr.cell? ⟨w.heap.size, 1, none⟩ = some (.int .i64 d) := ⟨h.q0, h.q1⟩
theorem IdSt.qqA {w wr : World} {T0 : TypeId} {b d : Int} {vl : Value} {L : List (Pr × Value)} (h : IdSt w wr #[.int .i64 b, .int .i64 d] T0 b d vl L) (o : Obj) : (wr.alloc o).cell? ⟨w.heap.size, 0, none⟩ = some (.int .i64 b) ∧ (wr.alloc o).cell? ⟨w.heap.size, 1, none⟩ = some (.int .i64 d) :=
  (h.keep ((Below.refl _ _).alloc (Nat.le_refl _) _)).qq
theorem belA (w : World) (o : Obj) : Below w.heap.size w (w.alloc o) := (Below.refl _ _).alloc (Nat.le_refl _) _
theorem IdSt.qq4 {w wr : World} {T0 : TypeId} {b d : Int} {vl : Value} {L : List (Pr × Value)} (h : IdSt w wr #[.int .i64 b, .int .i64 d] T0 b d vl L) {X : Nat} (hX : w.heap.size < X) (v0 v1 v2 v3 : Value) :
    ((((wr.setCell ⟨X, 0, none⟩ v0).setCell ⟨X, 1, none⟩ v1).setCell ⟨X, 2, none⟩ v2).setCell ⟨X, 3, none⟩ v3).cell? ⟨w.heap.size, 0, none⟩ = some (.int .i64 b) ∧ ((((wr.setCell ⟨X, 0, none⟩ v0).setCell ⟨X, 1, none⟩ v1).setCell ⟨X, 2, none⟩ v2).setCell ⟨X, 3, none⟩ v3).cell? ⟨w.heap.size, 1, none⟩ = some (.int .i64 d) := by
  have e : (set4 wr X 0 v0 v1 v2 v3).heap[w.heap.size]? = wr.heap[w.heap.size]? := set4_block (by omega)
  exact ⟨(World.cell?_of_block (a := ⟨w.heap.size, 0, none⟩) e).trans h.q0, (World.cell?_of_block (a := ⟨w.heap.size, 1, none⟩) e).trans h.q1⟩
/-- a new peer's box lies at X -/
structure XSt (w wc : World) (S0 : Array Value) (T0 : TypeId) (b d : Int) (vl : Value) (L : List (Pr × Value)) (X : Nat) (x y z : Int) : Prop where
  st : IdSt w wc S0 T0 b d vl L
  lo : w.heap.size + 3 ≤ X
  hi : X < wc.heap.size
  blk : wc.heap[X]? = some (.cells #[.int .i64 x, .int .i64 y, .int .i64 z, .slice none 0 0] 130 (0, 0))
  ne : ¬ vl.ownBlock = some X
theorem xSt_new {w wr : World} {S0 : Array Value} {T0 : TypeId} {b d : Int} {vl : Value} {L : List (Pr × Value)} {x y z : Int} (h : IdSt w wr S0 T0 b d vl L) : XSt w (wr.alloc (.cells #[.int .i64 x, .int .i64 y, .int .i64 z, .slice none 0 0] 130)) S0 T0 b d vl L wr.heap.size x y z :=
  ⟨h.keep (belA _ _), by have := h.lt; omega, by simp, heap_alloc_new _ _, fun he => by have := (h.l.own.lt _ he).2; omega⟩
theorem XSt.keep {w wc w1 : World} {S0 : Array Value} {T0 : TypeId} {b d : Int} {vl : Value} {L : List (Pr × Value)} {X : Nat} {x y z : Int} (h : XSt w wc S0 T0 b d vl L X x y z) (hb : Below wc.heap.size wc w1) : XSt w w1 S0 T0 b d vl L X x y z :=
  ⟨h.st.keep hb, h.lo, Nat.lt_of_lt_of_le h.hi hb.size, (hb.block _ h.hi).trans h.blk, h.ne⟩
theorem XSt.put {w wc : World} {S0 : Array Value} {T0 : TypeId} {b d : Int} {vl : Value} {L : List (Pr × Value)} {X : Nat} {x y z : Int} (h : XSt w wc S0 T0 b d vl L X x y z) (x' y' z' : Int) : XSt w (set4 wc X 0 (.int .i64 x') (.int .i64 y') (.int .i64 z') (.slice none 0 0)) S0 T0 b d vl L X x' y' z' := by
  refine ⟨h.st.away (X := X) ((((Away.refl X wc).set 0 _).set 1 _).set 2 _ |>.set 3 _) h.lo ⟨_, h.blk⟩ h.ne, h.lo, by rw [set4_size]; exact h.hi, ?_, h.ne⟩
  exact heap_setCell_same _ _ 3 _ _ _ (heap_setCell_same _ _ 2 _ _ _ (heap_setCell_same _ _ 1 _ _ _ (heap_setCell_same _ _ 0 _ _ _ h.blk)))
theorem XSt.cells {w wc : World} {S0 : Array Value} {T0 : TypeId} {b d : Int} {vl : Value} {L : List (Pr × Value)} {X : Nat} {x y z : Int} (h : XSt w wc S0 T0 b d vl L X x y z) :
    wc.cell? ⟨X, 0, none⟩ = some (.int .i64 x) ∧ wc.cell? ⟨X, 1, none⟩ = some (.int .i64 y) ∧ wc.cell? ⟨X, 2, none⟩ = some (.int .i64 z) ∧ wc.cell? ⟨X, 3, none⟩ = some (.slice none 0 0) ∧ wc.frozen? ⟨X, 0, none⟩ = false ∧ wc.frozen? ⟨X, 1, none⟩ = false ∧ wc.frozen? ⟨X, 2, none⟩ = false ∧ wc.frozen? ⟨X, 3, none⟩ = false :=
  ⟨(cell_of_row wc _ _ _ _ _ h.blk).trans rfl, (cell_of_row wc _ _ _ _ _ h.blk).trans rfl, (cell_of_row wc _ _ _ _ _ h.blk).trans rfl, (cell_of_row wc _ _ _ _ _ h.blk).trans rfl, frozen_of_row wc _ _ _ _ h.blk, frozen_of_row wc _ _ _ _ h.blk, frozen_of_row wc _ _ _ _ h.blk, frozen_of_row wc _ _ _ _ h.blk⟩
end Go.Proofs.YtdceimnapbblnaaGreat
namespace Go.Proofs.YtdceimnapbblnaaGreat
open Go.RowKit
set_option linter.unusedVariables false
theorem ListP.lower {B B' : Nat} {w : World} {vl : Value} {L : List (Pr × Value)} (h : ListP B w vl L) (hb : B' ≤ B) : ListP B' w vl L :=
  ⟨Joins.ownsRow_le h.own hb, fun i hi => by
    obtain ⟨ab, cb, hv, hc, hm, ho⟩ := h.val i hi
    refine ⟨ab, cb, hv, hc, hm, ?_⟩
    rcases ho with ho | ⟨gb, ha, hl, os⟩
    · exact .inl ho
    · exact .inr ⟨gb, ha, hl, os.mono hb⟩, h.sep⟩
set_option maxHeartbeats 12800000 in
theorem lideal_any (b d : Int) (n : Nat) (a : Option Addr) (cap : Nat) (zs : List Int) (w : World) (R : Ring b d zs) (hr : RowAt w a zs) (hn : n ≤ 3) :
    Calls Tryz.prog 173 #[.agg #[.int .i64 b, .int .i64 d], .slice a zs.length cap, .int .i64 (n : Int)] w fun e w' => ∃ vl L, e = .returned (.agg #[.int .i64 b, .int .i64 d, vl]) ∧ L.map (·.1) = idealL b d zs n ∧ ListP w.heap.size w' vl L ∧ Below w.heap.size w w' := by
  obtain ⟨i0, hi, hz0, hz1, hz2⟩ := info_parts'
  obtain ⟨i1, hi1, hy0, hy1, hy2⟩ := info_peer'
  obtain ⟨hb1, hb2, hd1, hd2, _⟩ := gsB_true R.gs
  have l2 := R.l2
  have RR : Hid (Ring b d zs) := R
  have HR : Hid (RowAt w a zs) := hr
  clear R hr
  go_enter Tryz.func173, Tryz.ntmps173
  go_wp2_with fail
  go_loopw [17] (fun vi wr => ∃ (k : Nat) (vl : Value) (L : List (Pr × Value)), k ≤ zs.length ∧ vi = .int .i64 k ∧ Hid (IdSt w wr #[.int .i64 b, .int .i64 d] 25 b d vl L) ∧ Hid (L.map (·.1) = (zs.take k).map (idlP b d zs n))) (fun vi _ => zs.length - (intOf vi).toNat)
  case atStart => exact ⟨0, _, [], Nat.zero_le _, rfl, idSt0 w _ _ b d, by simp [Hid]⟩
  case round =>
    obtain ⟨k, vl, L, hk, rfl, ST, HL⟩ := hrel
    by_cases hlt : k < zs.length
    · obtain ⟨bk, off, rfl⟩ := rowAt_form HR.out (by omega)
      have hc1 := (rowAt_cell (HR.out.keep ST.out.bel) (by omega)).2 k hlt
      obtain ⟨x1, x2⟩ := RR.out.rng k hlt
      have HT : Hid ((zs.take (k + 1)).map (idlP b d zs n) = (zs.take k).map (idlP b d zs n) ++ [idlP b d zs n (zs.getD k 0)]) := by
        unfold Hid
        rw [List.take_succ_eq_append_getElem hlt, List.map_append]
        simp [List.getD_eq_getElem?_getD, hlt]
      generalize zs.getD k 0 = x at hc1 x1 x2 HT
      have HP : Hid (0 ≤ pntI b d zs x ∧ pntI b d zs x < sz b) := dwn_rng RR.out (shf_bd d x 0 hb1 hb2).1 (shf_bd d x 0 hb1 hb2).2
      go_upto_region 5 with (fail)
      go_cut [10] (fun v10 wc => ∃ X, v10 = .pointer (some ⟨X, 0, none⟩) ∧ Hid (XSt w wc #[.int .i64 b, .int .i64 d] 25 b d vl L X x (nxtI zs x) (pntI b d zs x)))
      case first =>
        have sta := ST.out.keep ((Below.refl _ _).drew)
        have xsa := (xSt_new (x := 0) (y := 0) (z := 0) ST.out).keep ((Below.refl _ _).drew)
        have staA := xsa.st
        have hsl := sta.lt
        go_region_held (fun w' => w'.cell? ⟨w.heap.size, 0, none⟩ = some (.int .i64 b) ∧ w'.cell? ⟨w.heap.size, 1, none⟩ = some (.int .i64 d)) (with_reducible (first | exact sta.qq | exact staA.qq | exact stb.qq | exact stb.qqA _ | exact stc.qq | exact stc.qqA _ | exact stc.qq4 (by omega) _ _ _ _)) (first
          | (go_at_call 160; refine (lnext_any b d _ cap zs x _ RR.out (HR.out.keep sta.bel) x1 x2).mono ?_; rintro e wa ⟨rfl, hwa⟩; have stb := sta.keep hwa; have hsb := stb.lt)
          | (go_at_call 160; refine (lnext_any b d _ cap zs x _ RR.out (HR.out.keep staA.bel) x1 x2).mono ?_; rintro e wa ⟨rfl, hwa⟩; have xsb := xsa.keep hwa; have stb := xsb.st; have hsb := stb.lt)
          | (go_at_call 228; have xsb' := xsb; refine (lpoint_any b d _ cap zs x _ RR.out (HR.out.keep stb.bel) x1 x2).mono ?_; rintro e wb ⟨rfl, hwb⟩; have xsc := xsb.keep hwb; have stc := xsc.st; obtain ⟨y0, y1, y2, y3, g0, g1, g2, g3⟩ := xsc.cells; have hlo := xsc.lo)
          | (go_at_call 228; refine (lpoint_any b d _ cap zs x _ RR.out (HR.out.keep stb.bel) x1 x2).mono ?_; rintro e wb ⟨rfl, hwb⟩; have stc := stb.keep hwb)
          | (go_at_call 228; refine (lpoint_any b d _ cap zs x _ RR.out (HR.out.keep (stb.keep (belA _ _)).bel) x1 x2).mono ?_; rintro e wb ⟨rfl, hwb⟩; have xsc := (xSt_new (x := 0) (y := 0) (z := 0) stb).keep hwb; have stc := xsc.st; obtain ⟨y0, y1, y2, y3, g0, g1, g2, g3⟩ := xsc.cells; have hlo := xsc.lo))
        all_goals (go_wp2_with fail; go_meet; first | exact ⟨_, rfl, xSt_new stc⟩ | exact ⟨_, rfl, xsc.put _ _ _⟩)
      case rest =>
        obtain ⟨X, rfl, XS⟩ := hcut
        obtain ⟨al, cl, rfl, hcl⟩ := XS.out.st.l.form
        obtain ⟨y0, y1, y2, y3, g0, g1, g2, g3⟩ := XS.out.cells
        have hX1 := XS.out.lo
        have hX2 := XS.out.hi
        have hLk : L.length = k := by have := congrArg List.length HL.out; simp at this; omega
        have HLK : Hid (L.length = k) := hLk
        clear ST hc1 hLk hcl
        go_wp2_with fail
        go_loopw [11, 12] (fun v11 v12 wi => ∃ (j : Nat) (ab : Option Addr) (cb : Nat), j ≤ n ∧ v12 = .int .i64 j ∧ v11 = .int .i64 (prvN zs (pntI b d zs x) j) ∧ Hid (Away X wc wi) ∧ Hid (wi.heap[X]? = some (.cells #[.int .i64 x, .int .i64 (nxtI zs x), .int .i64 (pntI b d zs x), .slice ab j cb] 130 (0, 0))) ∧ Hid (wi.ownsRow wc.heap.size 3 1 (.slice ab j cb) j ((bckL zs (pntI b d zs x) j).map (Value.int .i64)))) (fun _ v12 _ => n - (intOf v12).toNat)
        case atStart => exact ⟨0, none, 0, Nat.zero_le _, rfl, rfl, Away.refl _ _, XS.out.blk, World.ownsRow_nil _ _ _ _⟩
        case round =>
          obtain ⟨j, ab, cb, hj, rfl, rfl, HA, HX, HO⟩ := hrel
          clear y0 y1 y2 y3 g0 g1 g2 g3
          have HI : Hid (IdSt w wr #[.int .i64 b, .int .i64 d] 25 b d (.slice al L.length cl) L) := XS.out.st.away HA.out hX1 ⟨_, XS.out.blk⟩ XS.out.ne
          have hsz : wc.heap.size ≤ wr.heap.size := HA.out.size
          by_cases hjn : j < n
          · obtain ⟨q0, q1⟩ := HI.out.qq
            obtain ⟨p1, p2⟩ := prvN_rng RR.out HP.out.1 HP.out.2 j
            have HBS : Hid (bckL zs (pntI b d zs x) (j + 1) = bckL zs (pntI b d zs x) j ++ [prvI zs (prvN zs (pntI b d zs x) j)]) := bckL_succ _ _ _
            have HPS : Hid (prvI zs (prvN zs (pntI b d zs x) j) = prvN zs (pntI b d zs x) (j + 1)) := rfl
            have CP := lprev_any b d (some ⟨bk, off, none⟩) cap zs (prvN zs (pntI b d zs x) j) wr RR.out (HR.out.keep HI.out.bel) p1 p2
            go_wp2_with fail
            refine CP.mono ?_
            rintro e w2 ⟨rfl, hw2⟩
            have HA2 : Hid (Away X wc w2) := HA.out.keep hw2
            have HX2 : Hid (w2.heap[X]? = some (.cells #[.int .i64 x, .int .i64 (nxtI zs x), .int .i64 (pntI b d zs x), .slice ab j cb] 130 (0, 0))) := (hw2.block X (by omega)).trans HX.out
            have HO2 : Hid (w2.ownsRow wc.heap.size 3 1 (.slice ab j cb) j ((bckL zs (pntI b d zs x) j).map (Value.int .i64))) := own_blocks HO.out (fun k hk => hw2.block k (HO.out.lt k hk).2)
            have hs2 : wc.heap.size ≤ w2.heap.size := HA2.out.size
            have x3 : w2.cell? ⟨X, 3, none⟩ = some (.slice ab j cb) := (cell_of_row w2 _ _ _ _ _ HX2.out).trans rfl
            clear CP q0 q1 hw2 HI HA HX HO
            generalize prvI zs (prvN zs (pntI b d zs x) j) = pv at HBS HPS
            go_wp2_with (at_builtin; refine wpList_append_own _ rfl (.tmp 43) (.tmp 45) 30 rfl wc.heap.size 3 i0 (.int .i64 0) 1 8 Tryz.underlying30 hi hz0 hz1 hz2 rfl (by decide) _ _ _ rfl (HO2.out.alloc _) ⟨w2.heap.size, 0, none⟩ 1 1 [.int .i64 pv] rfl rfl (cell_one_new _ _ _) (by simp [Value.oneCell']) (by unfold maxLen; omega) (by omega) (by simp; omega) ?_; intro v5 w5 hown5 hgrow5 _; obtain ⟨g5, cp5, rfl⟩ := Joins.ownsRow_form hown5 (by omega); have HA5 : Hid (Away X wc w5) := (HA2.out.keep (belA _ _)).grown hgrow5 (fun k hk => (HO2.out.lt k hk).1); have HX5 : Hid (w5.heap[X]? = some (.cells #[.int .i64 x, .int .i64 (nxtI zs x), .int .i64 (pntI b d zs x), .slice ab j cb] 130 (0, 0))) := (hgrow5.block X (by simp; omega) (fun he => by have := (HO2.out.lt X he.symm).1; omega)).trans ((heap_alloc_old _ _ (by omega)).trans HX2.out); have x35 : w5.cell? ⟨X, 3, none⟩ = some (.slice ab j cb) := (cell_of_row w5 _ _ _ _ _ HX5.out).trans rfl; have f35 : w5.frozen? ⟨X, 3, none⟩ = false := frozen_of_row w5 _ _ _ _ HX5.out; have HO5 : Hid (w5.ownsRow wc.heap.size 3 1 (.slice (some ⟨g5, 0, none⟩) (j + 1) cp5) (j + 1) ((bckL zs (pntI b d zs x) (j + 1)).map (Value.int .i64))) := (by rw [HBS.out, List.map_append]; exact hown5); clear hown5 hgrow5)
            go_roundw
            case rel => exact ⟨j + 1, _, _, by omega, by go_num, by rw [HPS.out], HA5.out.set 3 _, heap_setCell_same _ _ 3 _ _ _ HX5.out, own_blocks HO5.out (fun k hk => heap_setCell_other _ _ _ _ (by have := (HO5.out.lt k hk).1; simp; omega))⟩
            case measure => simp [intOf]; omega
          · obtain rfl : j = n := by omega
            have x0 : wr.cell? ⟨X, 0, none⟩ = some (.int .i64 x) := (cell_of_row wr _ _ _ _ _ HX.out).trans rfl
            have x1' : wr.cell? ⟨X, 1, none⟩ = some (.int .i64 (nxtI zs x)) := (cell_of_row wr _ _ _ _ _ HX.out).trans rfl
            have x2' : wr.cell? ⟨X, 2, none⟩ = some (.int .i64 (pntI b d zs x)) := (cell_of_row wr _ _ _ _ _ HX.out).trans rfl
            have x3 : wr.cell? ⟨X, 3, none⟩ = some (.slice ab j cb) := (cell_of_row wr _ _ _ _ _ HX.out).trans rfl
            have p2 : wr.cell? ⟨w.heap.size + 1 + 1, 2, none⟩ = some (.slice al L.length cl) := (cell_of_row wr _ _ _ _ _ HI.out.p).trans rfl
            have hsw : w.heap.size + 3 ≤ wr.heap.size := HI.out.lt
            have hLl : L.length ≤ 16 := by have := HLK.out; omega
            have HV : Hid (ValOk wc.heap.size (wr.heap.size + 1) (wr.alloc (.cells #[.int .i64 x, .int .i64 (nxtI zs x), .int .i64 (pntI b d zs x), .slice ab j cb] 130)) (idlP b d zs j x, .slice ab j cb)) := by
              have hl := bckL_len zs (pntI b d zs x) j
              by_cases hj0 : j = 0
              · refine ⟨ab, cb, by show _ = Value.slice ab (bckL zs (pntI b d zs x) j).length cb; rw [hl], ⟨?_, ?_⟩, by show (bckL zs (pntI b d zs x) j).length ≤ _; omega, .inl (List.eq_nil_of_length_eq_zero (by show (bckL zs (pntI b d zs x) j).length = 0; omega))⟩
                · show (bckL zs (pntI b d zs x) j).length ≤ cb
                  omega
                · intro h
                  subst h
                  rcases Joins.ownsRow_forms HO.out with ⟨h1, _⟩ | ⟨g, c, h1⟩
                  · simp at h1; exact h1.2
                  · simp at h1
              · obtain ⟨gb, cb', hvv⟩ := Joins.ownsRow_form HO.out (by omega)
                simp at hvv
                obtain ⟨rfl, rfl⟩ := hvv
                obtain ⟨os, _, hcb⟩ := OwnS.of_owns HO.out
                refine ⟨_, cb, by show _ = Value.slice _ (bckL zs (pntI b d zs x) j).length cb; rw [hl], ⟨by show (bckL zs (pntI b d zs x) j).length ≤ cb; omega, fun h => by cases h⟩, by show (bckL zs (pntI b d zs x) j).length ≤ _; omega, .inr ⟨gb, rfl, by have := os.lt; omega, os.keep (belA _ _)⟩⟩
            have HOW : Hid ((wr.alloc (.cells #[.int .i64 x, .int .i64 (nxtI zs x), .int .i64 (pntI b d zs x), .slice ab j cb] 130)).ownsRow (w.heap.size + 3) 130 4 (.slice al L.length cl) L.length (flatP L)) := HI.out.l.own.alloc _
            go_wp2_with (at_builtin; refine wpList_append_own _ rfl (.tmp 49) (.tmp 51) 26 rfl (w.heap.size + 3) 130 i1 _ 4 48 Tryz.underlying26 hi1 hy0 hy1 hy2 rfl (by decide) _ _ _ rfl HOW.out ⟨wr.heap.size, 0, none⟩ 1 1 [.int .i64 x, .int .i64 (nxtI zs x), .int .i64 (pntI b d zs x), .slice ab j cb] rfl rfl (cell_four_new _ _ _ _ _ _) (by simp [Value.oneCell']) (by unfold maxLen; omega) (by omega) (by simp; omega) ?_; intro v6 w6 hown6 hgrow6 _; obtain ⟨g6, cp6, rfl⟩ := Joins.ownsRow_form hown6 (by omega); have ST6 : Hid (IdSt w (w6.setCell ⟨w.heap.size + 1 + 1, 2, none⟩ (.slice (some ⟨g6, 0, none⟩) (L.length + 1) cp6)) #[.int .i64 b, .int .i64 d] 25 b d (.slice (some ⟨g6, 0, none⟩) (L.length + 1) cp6) (L ++ [(idlP b d zs j x, .slice ab j cb)])) := IdSt.grow2 (e := (idlP b d zs j x, .slice ab j cb)) XS.out.st (HI.out.keep (belA _ _)) hgrow6 hown6 (HV.out.wide (by simp)); have HP6 : Hid (w6.heap[w.heap.size + 1 + 1]? = some (.cells #[.int .i64 b, .int .i64 d, .slice al L.length cl] 28 (0, 0))) := (hgrow6.block _ (by simp; omega) (fun he => by have := (HOW.out.lt _ he.symm).1; omega)).trans ((heap_alloc_old _ _ (by omega)).trans HI.out.p); have p26 : w6.cell? ⟨w.heap.size + 1 + 1, 2, none⟩ = some (.slice al L.length cl) := (cell_of_row w6 _ _ _ _ _ HP6.out).trans rfl; have f26 : w6.frozen? ⟨w.heap.size + 1 + 1, 2, none⟩ = false := frozen_of_row w6 _ _ _ _ HP6.out; clear hown6 hgrow6)
            go_roundw
            case rel => exact ⟨k + 1, _, _, by omega, by go_num, ST6, by unfold Hid; rw [List.map_append, HL.out, HT.out]; rfl⟩
            case measure => simp [intOf]; omega
    · obtain ⟨al, cl, rfl, _⟩ := ST.out.l.form
      have p0 : wr.cell? ⟨w.heap.size + 1 + 1, 0, none⟩ = some (.int .i64 b) := (cell_of_row wr _ _ _ _ _ ST.out.p).trans rfl
      have p1 : wr.cell? ⟨w.heap.size + 1 + 1, 1, none⟩ = some (.int .i64 d) := (cell_of_row wr _ _ _ _ _ ST.out.p).trans rfl
      have p2 : wr.cell? ⟨w.heap.size + 1 + 1, 2, none⟩ = some (.slice al L.length cl) := (cell_of_row wr _ _ _ _ _ ST.out.p).trans rfl
      have r0 : wr.cell? ⟨w.heap.size + 1, 0, none⟩ = some (.int .i64 0) := (cell_of_row wr _ _ _ _ _ ST.out.r).trans rfl
      have r1 : wr.cell? ⟨w.heap.size + 1, 1, none⟩ = some (.int .i64 0) := (cell_of_row wr _ _ _ _ _ ST.out.r).trans rfl
      have r2 : wr.cell? ⟨w.heap.size + 1, 2, none⟩ = some (.slice none 0 0) := (cell_of_row wr _ _ _ _ _ ST.out.r).trans rfl
      have q0 : wr.frozen? ⟨w.heap.size + 1, 0, none⟩ = false := frozen_of_row wr _ _ _ _ ST.out.r
      have q1 : wr.frozen? ⟨w.heap.size + 1, 1, none⟩ = false := frozen_of_row wr _ _ _ _ ST.out.r
      have q2 : wr.frozen? ⟨w.heap.size + 1, 2, none⟩ = false := frozen_of_row wr _ _ _ _ ST.out.r
      go_wp2
      have HE : ∀ v : Value, Hid ((((wr.setCell ⟨w.heap.size + 1, 0, none⟩ (.int .i64 b)).setCell ⟨w.heap.size + 1, 1, none⟩ (.int .i64 d)).setCell ⟨w.heap.size + 1, 2, none⟩ v).heap[w.heap.size + 1]? = some (.cells #[.int .i64 b, .int .i64 d, v] 28 (0, 0))) := fun v =>
        heap_setCell_same _ _ 2 _ _ _ (heap_setCell_same _ _ 1 _ _ _ (heap_setCell_same _ _ 0 _ _ _ ST.out.r))
      refine bodyPost_ret (results_cell_row Tryz.results173 _ _ (w.heap.size + 1) _ _ _ _ rfl (HE _).out Tryz.underlying28 rfl (by kernel_rfl)) rfl ⟨_, L, rfl, ?_, ?_, ?_⟩
      · have := HL.out
        rwa [List.take_of_length_le (by omega)] at this
      · refine (ListP.lower (B' := w.heap.size) (ST.out.l.blocks (w1 := (((wr.setCell ⟨w.heap.size + 1, 0, none⟩ (.int .i64 b)).setCell ⟨w.heap.size + 1, 1, none⟩ (.int .i64 d)).setCell ⟨w.heap.size + 1, 2, none⟩ (.slice al L.length cl))) (by simp [World.setCell]) (fun k hk _ => ?_)) (by omega))
        rw [heap_setCell_other _ _ _ _ (by simp; omega), heap_setCell_other _ _ _ _ (by simp; omega), heap_setCell_other _ _ _ _ (by simp; omega)]
      · exact ((ST.out.bel.setCell (p := ⟨w.heap.size + 1, 0, none⟩) (by simp) _).setCell (p := ⟨w.heap.size + 1, 1, none⟩) (by simp) _).setCell (p := ⟨w.heap.size + 1, 2, none⟩) (by simp) _
end Go.Proofs.YtdceimnapbblnaaGreat
namespace Go.Proofs.YtdceimnapbblnaaGreat
open Go.RowKit
set_option linter.unusedVariables false
def smP (p q : Pr) : Bool := decide (p.id = q.id ∧ p.succ = q.succ ∧ p.point = q.point) && sameB p.backs q.backs
def sameP (ps qs : List Pr) : Bool := decide (ps.length = qs.length) && decide (∀ i, i < ps.length → smP (ps.getD i pr0) (qs.getD i pr0) = true)
theorem smP_parts {p q : Pr} : smP p q = true ↔ p.id = q.id ∧ p.succ = q.succ ∧ p.point = q.point ∧ sameB p.backs q.backs = true := by
  unfold smP
  simp only [Bool.and_eq_true, decide_eq_true_eq, and_assoc]
theorem sameP_no {ps qs : List Pr} {k : Nat} (hk : k < ps.length) (h : ¬ smP (ps.getD k pr0) (qs.getD k pr0) = true) : sameP ps qs = false := by
  unfold sameP
  rw [decide_eq_false (p := ∀ i, i < ps.length → smP (ps.getD i pr0) (qs.getD i pr0) = true) (fun hh => h (hh k hk)), Bool.and_false]
theorem sameP_yes {ps qs : List Pr} (hl : ps.length = qs.length) (h : ∀ i, i < ps.length → smP (ps.getD i pr0) (qs.getD i pr0) = true) : sameP ps qs = true := by
  unfold sameP
  rw [decide_eq_true hl, decide_eq_true h]; rfl
end Go.Proofs.YtdceimnapbblnaaGreat
namespace Go.Proofs.YtdceimnapbblnaaGreat
open Go.RowKit
set_option linter.unusedVariables false
theorem goodP_true {b d : Int} {ps : List Pr} (h : goodP b d ps = true) : Ring b d (idsP ps) ∧ ∀ i, i < ps.length → prB (idsP ps) (ps.getD i pr0) = true := by
  unfold goodP at h
  rw [Bool.and_eq_true] at h
  exact ⟨ringB_true h.1, of_decide_eq_true h.2⟩
def idlB (b d : Int) (ps : List Pr) : Bool := goodP b d ps && sameP ps (idealL b d (idsP ps) (ps.getD 0 pr0).backs.length)
structure ISt (w wr : World) (b d : Int) (bk off n cap : Nat) (v : Value) : Prop where
  bx : BxP w wr b d (.slice (some ⟨bk, off, none⟩) n cap)
  lt : bk < wr.heap.size
  c3 : wr.cell? ⟨bk, off + 3, none⟩ = some v
theorem ISt.keep {w wr w1 : World} {b d : Int} {bk off n cap : Nat} {v : Value} (h : ISt w wr b d bk off n cap v) (hb : Below wr.heap.size wr w1) : ISt w w1 b d bk off n cap v :=
  ⟨h.bx.keep hb, Nat.lt_of_lt_of_le h.lt hb.size, (hb.cell (p := ⟨bk, off + 3, none⟩) h.lt).trans h.c3⟩
theorem ISt.qq {w wr : World} {b d : Int} {bk off n cap : Nat} {v : Value} (h : ISt w wr b d bk off n cap v) : wr.cell? ⟨w.heap.size, 0, none⟩ = some (.int .i64 b) ∧ wr.cell? ⟨w.heap.size, 1, none⟩ = some (.int .i64 d) ∧ wr.cell? ⟨w.heap.size, 2, none⟩ = some (.slice (some ⟨bk, off, none⟩) n cap) ∧ wr.cell? ⟨bk, off + 3, none⟩ = some v := ⟨h.bx.c0, h.bx.c1, h.bx.c2, h.c3⟩
end Go.Proofs.YtdceimnapbblnaaGreat
namespace Go.Proofs.YtdceimnapbblnaaGreat
open Go.RowKit
set_option linter.unusedVariables false
theorem rowAt_reads {w : World} {ad : Addr} {zs : List Int} (h : RowAt w (some ad) zs) : ∀ (j : Nat) (u : Value), (zs.map (Value.int .i64))[j]? = some u → w.cell? (ad.add j) = some u := by
  intro j u hj
  have hl : j < zs.length := by
    rcases Nat.lt_or_ge j zs.length with h' | h'
    · exact h'
    · rw [List.getElem?_eq_none (by simpa using h')] at hj; cases hj
  obtain ⟨bk, off, ha⟩ := rowAt_form h (by omega)
  simp at ha
  subst ha
  rw [add_none', (rowAt_cell h (by omega)).2 j hl]
  rw [List.getElem?_map, List.getElem?_eq_getElem hl] at hj
  simp at hj
  rw [← hj]
  simp [List.getD_eq_getElem?_getD, hl]
set_option maxHeartbeats 800000 in
theorem lownG_any (a : Option Addr) (cap : Nat) (zs : List Int) (w : World) (h2 : zs.length ≤ 1048576) (hr : RowAt w a zs) (hn : a = none → cap = 0) :
    Calls Tryz.prog 156 #[.slice a zs.length cap] w fun e w' => ∃ g cp, e = .returned (.slice (some ⟨g, 0, none⟩) zs.length cp) ∧ zs.length ≤ cp ∧ OwnS w.heap.size w' g zs ∧ Below w.heap.size w w' := by
  obtain ⟨i0, hi, hz0, hz1, hz2⟩ := info_parts'
  have own0 : Hid ((w.alloc (.cells #[] 3)).ownsRow w.heap.size 3 1 (.slice (some ⟨w.heap.size, 0, none⟩) 0 0) 0 []) := own_lit0 w
  cases a with
  | none =>
    have hc := hn rfl
    subst hc
    have hz : zs = [] := by
      rcases hr with h | ⟨_, _, h, _⟩
      · exact h
      · cases h
    subst hz
    go_enter Tryz.func156, Tryz.ntmps156
    go_wp2_with (at_builtin; refine wpList_append_own_none rfl (.tmp 3) (.tmp 4) 30 rfl w.heap.size 3 i0 1 Tryz.underlying30 hi _ _ _ rfl own0.out rfl ?_)
    go_ret
    have hos : OwnS w.heap.size (w.alloc (.cells #[] 3)) w.heap.size [] := ⟨Nat.le_refl _, #[], heap_alloc_new _ _, rfl⟩
    first | exact ⟨w.heap.size, 0, rfl, Nat.le_refl _, hos, belA _ _⟩ | exact ⟨w.heap.size, ⟨0, rfl⟩, hos, belA _ _⟩
  | some ad =>
    have s1 : Hid ((zs.map (Value.int .i64)).length = zs.length * 1) := by simp [Hid]
    have c1 : Hid (∀ (j : Nat) (u : Value), (zs.map (Value.int .i64))[j]? = some u → (w.alloc (.cells #[] 3)).cell? (ad.add j) = some u) := rowAt_reads (hr.alloc (.cells #[] 3))
    go_enter Tryz.func156, Tryz.ntmps156
    go_wp2_with (at_builtin; refine wpList_append_own _ rfl (.tmp 3) (.tmp 4) 30 rfl w.heap.size 3 i0 (.int .i64 0) 1 8 Tryz.underlying30 hi hz0 hz1 hz2 rfl (by decide) _ _ _ rfl own0.out ad _ _ (zs.map (Value.int .i64)) rfl s1.out c1.out (ints_oneCell _ _) (by unfold maxLen; omega) (by omega) (by simp) ?_; intro v6 w6 hown6 hgrow6 hnil6; rw [Nat.zero_add, List.nil_append] at hown6; obtain ⟨g6, cp6, rfl⟩ := own_form hown6 (fun he => by have := (hnil6.1 he).1; cases this); obtain ⟨os6, len6, hcp6⟩ := OwnS.of_owns hown6; have HB6 : Hid (Below w.heap.size w w6) := grown_bel ((Below.refl _ _).alloc (Nat.le_refl _) _) hgrow6 (by simp) (fun k hk => (own0.out.lt k hk).1); clear hown6 hgrow6 hnil6)
    go_ret
    exact ⟨g6, cp6, rfl, hcp6, os6, HB6.out⟩

set_option maxHeartbeats 6400000 in
theorem lownP_any (b d : Int) (a : Option Addr) (cap : Nat) (ps : List Pr) (w : World) (hm : ps.length ≤ 1048576) (h3 : ∀ i, i < ps.length → (ps.getD i pr0).backs.length ≤ 1048576) (hr : PeersAt w a ps) :
    Calls Tryz.prog 102 #[.agg #[.int .i64 b, .int .i64 d, .slice a ps.length cap]] w fun e w' => ∃ vl L, e = .returned (.agg #[.int .i64 b, .int .i64 d, vl]) ∧ L.map (·.1) = ps ∧ ListP w.heap.size w' vl L ∧ Below w.heap.size w w' := by
  obtain ⟨i1, hi1, hy0, hy1, hy2⟩ := info_peer'
  have HR : Hid (PeersAt w a ps) := hr
  have H3 : Hid (∀ i, i < ps.length → (ps.getD i pr0).backs.length ≤ 1048576) := h3
  clear hr h3
  go_enter Tryz.func102, Tryz.ntmps102
  go_wp2_with fail
  go_loopw [12] (fun vi wr => ∃ (k : Nat) (vl : Value) (L : List (Pr × Value)), k ≤ ps.length ∧ vi = .int .i64 k ∧ Hid (IdSt w wr #[.int .i64 b, .int .i64 d, .slice a ps.length cap] 28 b d vl L) ∧ Hid (L.map (·.1) = ps.take k)) (fun vi _ => ps.length - (intOf vi).toNat)
  case atStart => exact ⟨0, _, [], Nat.zero_le _, rfl, idSt0 w _ _ b d, by simp [Hid]⟩
  case round =>
    obtain ⟨k, vl, L, hk, rfl, ST, HL⟩ := hrel
    obtain ⟨al, cl, rfl, _⟩ := ST.out.l.form
    by_cases hlt : k < ps.length
    · obtain ⟨bk, off, rfl⟩ := peersAt_form HR.out (by omega)
      have hLk : L.length = k := by have := congrArg List.length HL.out; simp at this; omega
      have HLK : Hid (L.length = k) := hLk
      clear hLk
      obtain ⟨c0, c1, c2, ab, cb, c3, hrb, _, _, hnil⟩ := (peersAt_cell (HR.out.keep ST.out.bel) (by omega)).2 k hlt
      have HT : Hid (ps.take (k + 1) = ps.take k ++ [ps.getD k pr0]) := by
        unfold Hid
        rw [List.take_succ_eq_append_getElem hlt]
        simp [List.getD_eq_getElem?_getD, hlt]
      have hn := H3.out k hlt
      generalize ps.getD k pr0 = p at c0 c1 c2 c3 hrb HT hn
      obtain ⟨x0, x1, x2, bs⟩ := p
      simp only at c0 c1 c2 c3 hrb hn
      have hsw : w.heap.size + 3 ≤ wr.heap.size := ST.out.lt
      have CO := lownG_any ab cb bs (wr.alloc (.cells #[.int .i64 x0, .int .i64 x1, .int .i64 x2, .slice ab bs.length cb] 130)) hn (hrb.alloc _) hnil
      go_wp2_with fail
      refine CO.mono ?_
      rintro e w2 ⟨g, cp, rfl, hcp, os, hw2⟩
      have HST : Hid (IdSt w (wr.alloc (.cells #[.int .i64 x0, .int .i64 x1, .int .i64 x2, .slice ab bs.length cb] 130)) #[.int .i64 b, .int .i64 d, .slice (some ⟨bk, off, none⟩) ps.length cap] 28 b d (.slice al L.length cl) L) := ST.out.keep (belA _ _)
      have hs2 : wr.heap.size < w2.heap.size := by have := hw2.size; simp at this; omega
      have HX2 : Hid (w2.heap[wr.heap.size]? = some (.cells #[.int .i64 x0, .int .i64 x1, .int .i64 x2, .slice ab bs.length cb] 130 (0, 0))) := (hw2.block _ (by simp)).trans (heap_alloc_new _ _)
      have hg := os.lo
      simp only [World.size_alloc] at hg
      have HA : ∀ v : Value, Hid (Away wr.heap.size (wr.alloc (.cells #[.int .i64 x0, .int .i64 x1, .int .i64 x2, .slice ab bs.length cb] 130)) (w2.setCell ⟨wr.heap.size, 3, none⟩ v)) := fun v => ((Away.refl _ _).keep hw2).set 3 v
      have x3 : w2.cell? ⟨wr.heap.size, 3, none⟩ = some (.slice ab bs.length cb) := (cell_of_row w2 _ _ _ _ _ HX2.out).trans rfl
      have f3 : w2.frozen? ⟨wr.heap.size, 3, none⟩ = false := frozen_of_row w2 _ _ _ _ HX2.out
      have HOS : Hid (OwnS (wr.heap.size + 1) w2 g bs) := by unfold Hid; simpa using os
      clear CO hw2 os c0 c1 c2 c3 hrb
      have HX3 : Hid ((w2.setCell ⟨wr.heap.size, 3, none⟩ (.slice (some ⟨g, 0, none⟩) bs.length cp)).heap[wr.heap.size]? = some (.cells #[.int .i64 x0, .int .i64 x1, .int .i64 x2, .slice (some ⟨g, 0, none⟩) bs.length cp] 130 (0, 0))) := heap_setCell_same _ _ 3 _ _ _ HX2.out
      have HI : Hid (IdSt w (w2.setCell ⟨wr.heap.size, 3, none⟩ (.slice (some ⟨g, 0, none⟩) bs.length cp)) #[.int .i64 b, .int .i64 d, .slice (some ⟨bk, off, none⟩) ps.length cap] 28 b d (.slice al L.length cl) L) := HST.out.away (HA _).out hsw ⟨_, heap_alloc_new _ _⟩ (fun he => by have := (ST.out.l.own.lt _ he).2; omega)
      have HO3 : Hid (OwnS (wr.heap.size + 1) (w2.setCell ⟨wr.heap.size, 3, none⟩ (.slice (some ⟨g, 0, none⟩) bs.length cp)) g bs) := HOS.out.of_block (heap_setCell_other _ _ _ _ (by simp; omega))
      have hs3 : (w2.setCell ⟨wr.heap.size, 3, none⟩ (.slice (some ⟨g, 0, none⟩) bs.length cp)).heap.size = w2.heap.size := by simp [World.setCell]
      have HS3 : Hid ((w2.setCell ⟨wr.heap.size, 3, none⟩ (.slice (some ⟨g, 0, none⟩) bs.length cp)).heap.size = w2.heap.size) := hs3
      clear hs3
      have z0 : w2.cell? ⟨wr.heap.size, 0, none⟩ = some (.int .i64 x0) := (cell_of_row w2 _ _ _ _ _ HX2.out).trans rfl
      have z1 : w2.cell? ⟨wr.heap.size, 1, none⟩ = some (.int .i64 x1) := (cell_of_row w2 _ _ _ _ _ HX2.out).trans rfl
      have z2 : w2.cell? ⟨wr.heap.size, 2, none⟩ = some (.int .i64 x2) := (cell_of_row w2 _ _ _ _ _ HX2.out).trans rfl
      have p2 : (w2.setCell ⟨wr.heap.size, 3, none⟩ (.slice (some ⟨g, 0, none⟩) bs.length cp)).cell? ⟨w.heap.size + 1 + 1, 2, none⟩ = some (.slice al L.length cl) := (cell_of_row (w2.setCell ⟨wr.heap.size, 3, none⟩ (.slice (some ⟨g, 0, none⟩) bs.length cp)) _ _ _ _ _ HI.out.p).trans rfl
      have p2' : w2.cell? ⟨w.heap.size + 1 + 1, 2, none⟩ = some (.slice al L.length cl) := by
        have h0 : ¬ w.heap.size + 1 + 1 = wr.heap.size := by omega
        rw [cell_far h0] at p2
        exact p2
      clear p2
      have hLl : L.length ≤ 1048576 := by have := HLK.out; omega
      have HV : Hid (ValOk (wr.alloc (.cells #[.int .i64 x0, .int .i64 x1, .int .i64 x2, .slice ab bs.length cb] 130)).heap.size ((w2.setCell ⟨wr.heap.size, 3, none⟩ (.slice (some ⟨g, 0, none⟩) bs.length cp)).alloc (.cells #[.int .i64 x0, .int .i64 x1, .int .i64 x2, .slice (some ⟨g, 0, none⟩) bs.length cp] 130)).heap.size ((w2.setCell ⟨wr.heap.size, 3, none⟩ (.slice (some ⟨g, 0, none⟩) bs.length cp)).alloc (.cells #[.int .i64 x0, .int .i64 x1, .int .i64 x2, .slice (some ⟨g, 0, none⟩) bs.length cp] 130)) (⟨x0, x1, x2, bs⟩, .slice (some ⟨g, 0, none⟩) bs.length cp)) :=
        ⟨_, cp, rfl, ⟨hcp, fun h => by cases h⟩, hn, .inr ⟨g, rfl, by have := HO3.out.lt; simp only [World.size_alloc]; omega, by have := HO3.out.keep (belA _ (.cells #[.int .i64 x0, .int .i64 x1, .int .i64 x2, .slice (some ⟨g, 0, none⟩) bs.length cp] 130)); simpa only [World.size_alloc] using this⟩⟩
      have HOW : Hid (((w2.setCell ⟨wr.heap.size, 3, none⟩ (.slice (some ⟨g, 0, none⟩) bs.length cp)).alloc (.cells #[.int .i64 x0, .int .i64 x1, .int .i64 x2, .slice (some ⟨g, 0, none⟩) bs.length cp] 130)).ownsRow (w.heap.size + 3) 130 4 (.slice al L.length cl) L.length (flatP L)) := HI.out.l.own.alloc _
      have HPP : Hid ((w2.setCell ⟨wr.heap.size, 3, none⟩ (.slice (some ⟨g, 0, none⟩) bs.length cp)).heap[w.heap.size + 1 + 1]? = some (.cells #[.int .i64 b, .int .i64 d, .slice al L.length cl] 28 (0, 0))) := HI.out.p
      have HZ : Hid (w.heap.size + 3 ≤ (w2.setCell ⟨wr.heap.size, 3, none⟩ (.slice (some ⟨g, 0, none⟩) bs.length cp)).heap.size ∧ w.heap.size + 3 ≤ ((w2.setCell ⟨wr.heap.size, 3, none⟩ (.slice (some ⟨g, 0, none⟩) bs.length cp)).alloc (.cells #[.int .i64 x0, .int .i64 x1, .int .i64 x2, .slice (some ⟨g, 0, none⟩) bs.length cp] 130)).heap.size ∧ w.heap.size + 1 + 1 < ((w2.setCell ⟨wr.heap.size, 3, none⟩ (.slice (some ⟨g, 0, none⟩) bs.length cp)).alloc (.cells #[.int .i64 x0, .int .i64 x1, .int .i64 x2, .slice (some ⟨g, 0, none⟩) bs.length cp] 130)).heap.size) := by
        have := HS3.out
        refine ⟨by omega, ?_, ?_⟩ <;> (simp only [World.size_alloc]; omega)
      have HNW : Hid (∀ (j : Nat) (u : Value), [Value.int .i64 x0, .int .i64 x1, .int .i64 x2, .slice (some ⟨g, 0, none⟩) bs.length cp][j]? = some u → ((w2.setCell ⟨wr.heap.size, 3, none⟩ (.slice (some ⟨g, 0, none⟩) bs.length cp)).alloc (.cells #[.int .i64 x0, .int .i64 x1, .int .i64 x2, .slice (some ⟨g, 0, none⟩) bs.length cp] 130)).cell? ((⟨w2.heap.size, 0, none⟩ : Addr).add j) = some u) := by
        have := cell_four_new (w2.setCell ⟨wr.heap.size, 3, none⟩ (.slice (some ⟨g, 0, none⟩) bs.length cp)) (.int .i64 x0) (.int .i64 x1) (.int .i64 x2) (.slice (some ⟨g, 0, none⟩) bs.length cp) 130
        rw [HS3.out] at this
        exact this
      clear HA
      go_wp2_with (at_builtin; refine wpList_append_own _ rfl (.tmp 21) (.tmp 23) 26 rfl (w.heap.size + 3) 130 i1 _ 4 48 Tryz.underlying26 hi1 hy0 hy1 hy2 rfl (by decide) _ _ _ rfl HOW.out ⟨w2.heap.size, 0, none⟩ 1 1 [.int .i64 x0, .int .i64 x1, .int .i64 x2, .slice (some ⟨g, 0, none⟩) bs.length cp] rfl rfl HNW.out (by simp [Value.oneCell']) (by unfold maxLen; omega) (by omega) HZ.out.2.1 ?_; intro v6 w6 hown6 hgrow6 _; obtain ⟨g6, cp6, rfl⟩ := Joins.ownsRow_form hown6 (by omega); have ST6 : Hid (IdSt w (w6.setCell ⟨w.heap.size + 1 + 1, 2, none⟩ (.slice (some ⟨g6, 0, none⟩) (L.length + 1) cp6)) #[.int .i64 b, .int .i64 d, .slice (some ⟨bk, off, none⟩) ps.length cap] 28 b d (.slice (some ⟨g6, 0, none⟩) (L.length + 1) cp6) (L ++ [(⟨x0, x1, x2, bs⟩, .slice (some ⟨g, 0, none⟩) bs.length cp)])) := IdSt.grow2 (e := (⟨x0, x1, x2, bs⟩, .slice (some ⟨g, 0, none⟩) bs.length cp)) HST.out (HI.out.keep (belA _ _)) hgrow6 hown6 HV.out; have HP6 : Hid (w6.heap[w.heap.size + 1 + 1]? = some (.cells #[.int .i64 b, .int .i64 d, .slice al L.length cl] 28 (0, 0))) := (hgrow6.block _ HZ.out.2.2 (fun he => by have := (HOW.out.lt _ he.symm).1; omega)).trans ((heap_alloc_old _ _ (by have := HZ.out.1; omega)).trans HPP.out); have p26 : w6.cell? ⟨w.heap.size + 1 + 1, 2, none⟩ = some (.slice al L.length cl) := (cell_of_row w6 _ _ _ _ _ HP6.out).trans rfl; have f26 : w6.frozen? ⟨w.heap.size + 1 + 1, 2, none⟩ = false := frozen_of_row w6 _ _ _ _ HP6.out; clear hown6 hgrow6)
      go_roundw
      case rel => exact ⟨k + 1, _, _, by omega, by go_num, ST6, by unfold Hid; rw [List.map_append, HL.out, HT.out]; rfl⟩
      case measure => simp [intOf]; omega
    · have p0 : wr.cell? ⟨w.heap.size + 1 + 1, 0, none⟩ = some (.int .i64 b) := (cell_of_row wr _ _ _ _ _ ST.out.p).trans rfl
      have p1 : wr.cell? ⟨w.heap.size + 1 + 1, 1, none⟩ = some (.int .i64 d) := (cell_of_row wr _ _ _ _ _ ST.out.p).trans rfl
      have p2 : wr.cell? ⟨w.heap.size + 1 + 1, 2, none⟩ = some (.slice al L.length cl) := (cell_of_row wr _ _ _ _ _ ST.out.p).trans rfl
      have r0 : wr.cell? ⟨w.heap.size + 1, 0, none⟩ = some (.int .i64 0) := (cell_of_row wr _ _ _ _ _ ST.out.r).trans rfl
      have r1 : wr.cell? ⟨w.heap.size + 1, 1, none⟩ = some (.int .i64 0) := (cell_of_row wr _ _ _ _ _ ST.out.r).trans rfl
      have r2 : wr.cell? ⟨w.heap.size + 1, 2, none⟩ = some (.slice none 0 0) := (cell_of_row wr _ _ _ _ _ ST.out.r).trans rfl
      have q0 : wr.frozen? ⟨w.heap.size + 1, 0, none⟩ = false := frozen_of_row wr _ _ _ _ ST.out.r
      have q1 : wr.frozen? ⟨w.heap.size + 1, 1, none⟩ = false := frozen_of_row wr _ _ _ _ ST.out.r
      have q2 : wr.frozen? ⟨w.heap.size + 1, 2, none⟩ = false := frozen_of_row wr _ _ _ _ ST.out.r
      go_wp2
      have HE : ∀ v : Value, Hid ((((wr.setCell ⟨w.heap.size + 1, 0, none⟩ (.int .i64 b)).setCell ⟨w.heap.size + 1, 1, none⟩ (.int .i64 d)).setCell ⟨w.heap.size + 1, 2, none⟩ v).heap[w.heap.size + 1]? = some (.cells #[.int .i64 b, .int .i64 d, v] 28 (0, 0))) := fun v =>
        heap_setCell_same _ _ 2 _ _ _ (heap_setCell_same _ _ 1 _ _ _ (heap_setCell_same _ _ 0 _ _ _ ST.out.r))
      refine bodyPost_ret (results_cell_row Tryz.results102 _ _ (w.heap.size + 1) _ _ _ _ rfl (HE _).out Tryz.underlying28 rfl (by kernel_rfl)) rfl ⟨_, L, rfl, ?_, ?_, ?_⟩
      · have := HL.out
        rwa [List.take_of_length_le (by omega)] at this
      · refine (ListP.lower (B' := w.heap.size) (ST.out.l.blocks (w1 := (((wr.setCell ⟨w.heap.size + 1, 0, none⟩ (.int .i64 b)).setCell ⟨w.heap.size + 1, 1, none⟩ (.int .i64 d)).setCell ⟨w.heap.size + 1, 2, none⟩ (.slice al L.length cl))) (by simp [World.setCell]) (fun k hk _ => ?_)) (by omega))
        rw [heap_setCell_other _ _ _ _ (by simp; omega), heap_setCell_other _ _ _ _ (by simp; omega), heap_setCell_other _ _ _ _ (by simp; omega)]
      · exact ((ST.out.bel.setCell (p := ⟨w.heap.size + 1, 0, none⟩) (by simp) _).setCell (p := ⟨w.heap.size + 1, 1, none⟩) (by simp) _).setCell (p := ⟨w.heap.size + 1, 2, none⟩) (by simp) _
end Go.Proofs.YtdceimnapbblnaaGreat
namespace Go.Proofs.YtdceimnapbblnaaGreat
open Go.RowKit
set_option linter.unusedVariables false
theorem qq6 {w w4 wr : World} {b d b' d' : Int} {v v' : Value} (h : BxP w wr b d v) (x : BxP w4 wr b' d' v') : wr.cell? ⟨w.heap.size, 0, none⟩ = some (.int .i64 b) ∧ wr.cell? ⟨w.heap.size, 1, none⟩ = some (.int .i64 d) ∧ wr.cell? ⟨w.heap.size, 2, none⟩ = some v ∧ wr.cell? ⟨w4.heap.size, 0, none⟩ = some (.int .i64 b') ∧ wr.cell? ⟨w4.heap.size, 1, none⟩ = some (.int .i64 d') ∧ wr.cell? ⟨w4.heap.size, 2, none⟩ = some v' := ⟨h.c0, h.c1, h.c2, x.c0, x.c1, x.c2⟩
end Go.Proofs.YtdceimnapbblnaaGreat
namespace Go.Proofs.YtdceimnapbblnaaGreat
open Go.RowKit
set_option linter.unusedVariables false
theorem OwnP.point {B T : Nat} {w : World} {g : Nat} {L : List (Pr × Value)} (h : OwnP B T w g L) {i : Nat} (hi : i < L.length) (z : Int) :
    OwnP B T (w.setCell ⟨g, i * 4 + 2, none⟩ (.int .i64 z)) g (L.set i (⟨(L.getD i d0).1.id, (L.getD i d0).1.succ, z, (L.getD i d0).1.backs⟩, (L.getD i d0).2)) := by
  obtain ⟨cur, hc⟩ := h.blk
  have hb4 : ∀ k, ¬ k = g → (w.setCell ⟨g, i * 4 + 2, none⟩ (.int .i64 z)).heap[k]? = w.heap[k]? := fun k hk => heap_setCell_other _ _ _ _ (by simpa using hk)
  have hcell : ∀ j u, w.cell? ⟨g, j, none⟩ = some u → (w.setCell ⟨g, i * 4 + 2, none⟩ (.int .i64 z)).cell? ⟨g, j, none⟩ = some (if j = i * 4 + 2 then .int .i64 z else u) := fun j u hu => cell_set hu
  refine ⟨h.lo, h.hi, ⟨_, heap_setCell_same _ _ _ _ _ _ hc⟩, fun j hj => ?_, fun j hj => ?_, fun j k hjk hk => ?_⟩
  · rw [List.length_set] at hj
    rw [getD_set hj]
    have hcj := h.cel j hj
    have k0 := hcell _ _ hcj.c0
    have k1 := hcell _ _ hcj.c1
    have k2 := hcell _ _ hcj.c2
    have k3 := hcell _ _ hcj.c3
    rw [if_neg (by omega)] at k0 k1 k3
    by_cases hij : i = j
    · subst hij
      rw [if_pos rfl] at k2 ⊢
      exact ⟨k0, k1, k2, k3⟩
    · rw [if_neg (by omega)] at k2
      rw [if_neg hij]
      exact ⟨k0, k1, k2, k3⟩
  · rw [List.length_set] at hj
    rw [getD_set hj]
    have old : ∀ q, q < L.length → ValOk B T (w.setCell ⟨g, i * 4 + 2, none⟩ (.int .i64 z)) (L.getD q d0) := fun q hq => by
      obtain ⟨ab, cb, hv, hcb, hm, ho⟩ := h.val q hq
      refine ⟨ab, cb, hv, hcb, hm, ?_⟩
      rcases ho with ho | ⟨gb, ha, ht, os⟩
      · exact .inl ho
      · exact .inr ⟨gb, ha, ht, os.of_block (hb4 gb (os.ne_peer hc))⟩
    by_cases hij : i = j
    · rw [if_pos hij]; exact old i hi
    · rw [if_neg hij]; exact old j hj
  · rw [List.length_set] at hk
    rw [getD_set (by omega), getD_set hk]
    by_cases hij : i = j
    · rw [if_pos hij, if_neg (by omega)]
      subst hij
      exact h.sep i k hjk hk
    · rw [if_neg hij]
      by_cases hik : i = k
      · rw [if_pos hik]
        subst hik
        exact h.sep j i hjk hk
      · rw [if_neg hik]
        exact h.sep j k hjk hk
theorem OwnP.backs {B T : Nat} {w w1 : World} {g : Nat} {L : List (Pr × Value)} (h : OwnP B T w g L) (hT : T = w.heap.size) (hb : Below w.heap.size w w1) {i : Nat} (hi : i < L.length) {bs : List Int} {gb cb : Nat} (hm : bs.length ≤ 1048576) (hcb : bs.length ≤ cb) (os : OwnS w.heap.size w1 gb bs) :
    OwnP B w1.heap.size (w1.setCell ⟨g, i * 4 + 3, none⟩ (.slice (some ⟨gb, 0, none⟩) bs.length cb)) g (L.set i (⟨(L.getD i d0).1.id, (L.getD i d0).1.succ, (L.getD i d0).1.point, bs⟩, .slice (some ⟨gb, 0, none⟩) bs.length cb)) := by
  have hlt := h.lt
  have hslo := os.lo
  have h1 := (h.keep hb).wide (T' := w1.heap.size) (by have := hb.size; omega)
  obtain ⟨cur, hc⟩ := h1.blk
  have hBw : B ≤ w.heap.size := by have := h.lo; omega
  have hb4 : ∀ k, ¬ k = g → (w1.setCell ⟨g, i * 4 + 3, none⟩ (.slice (some ⟨gb, 0, none⟩) bs.length cb)).heap[k]? = w1.heap[k]? := fun k hk => heap_setCell_other _ _ _ _ (by simpa using hk)
  have hcell : ∀ j u, w1.cell? ⟨g, j, none⟩ = some u → (w1.setCell ⟨g, i * 4 + 3, none⟩ (.slice (some ⟨gb, 0, none⟩) bs.length cb)).cell? ⟨g, j, none⟩ = some (if j = i * 4 + 3 then .slice (some ⟨gb, 0, none⟩) bs.length cb else u) := fun j u hu => cell_set hu
  refine ⟨h.lo, h1.hi, ⟨_, heap_setCell_same _ _ _ _ _ _ hc⟩, fun j hj => ?_, fun j hj => ?_, fun j k hjk hk => ?_⟩
  · rw [List.length_set] at hj
    rw [getD_set hj]
    have hcj := h1.cel j hj
    have k0 := hcell _ _ hcj.c0
    have k1 := hcell _ _ hcj.c1
    have k2 := hcell _ _ hcj.c2
    have k3 := hcell _ _ hcj.c3
    rw [if_neg (by omega)] at k0 k1 k2
    by_cases hij : i = j
    · subst hij
      rw [if_pos rfl] at k3 ⊢
      exact ⟨k0, k1, k2, k3⟩
    · rw [if_neg (by omega)] at k3
      rw [if_neg hij]
      exact ⟨k0, k1, k2, k3⟩
  · rw [List.length_set] at hj
    rw [getD_set hj]
    by_cases hij : i = j
    · rw [if_pos hij]
      exact ⟨_, cb, rfl, ⟨hcb, fun h => by cases h⟩, hm, .inr ⟨gb, rfl, os.lt, (os.mono hBw).of_block (hb4 gb (by omega))⟩⟩
    · rw [if_neg hij]
      obtain ⟨ab, cb', hv, hc', hm', ho⟩ := h1.val j hj
      refine ⟨ab, cb', hv, hc', hm', ?_⟩
      rcases ho with ho | ⟨gj, ha, ht, osj⟩
      · exact .inl ho
      · exact .inr ⟨gj, ha, ht, osj.of_block (hb4 gj (osj.ne_peer hc))⟩
  · rw [List.length_set] at hk
    rw [getD_set (by omega), getD_set hk]
    have old : ∀ q, q < L.length → ¬ (L.getD q d0).1.backs = [] → ¬ (L.getD q d0).2.ownBlock = some gb := fun q hq hn he => by
      obtain ⟨ab, cb', hv, _, _, ho⟩ := h.val q hq
      rcases ho with ho | ⟨gq, ha, ht, _⟩
      · exact hn ho
      · rw [hv, ha] at he
        simp [Value.ownBlock] at he
        omega
    by_cases hij : i = j
    · rw [if_pos hij, if_neg (by omega)]
      intro _ hn he
      exact old k hk hn (by rw [← he]; rfl)
    · rw [if_neg hij]
      by_cases hik : i = k
      · rw [if_pos hik]
        intro hn _ he
        exact old j (by omega) hn (by rw [he]; rfl)
      · rw [if_neg hik]
        exact h.sep j k hjk hk
end Go.Proofs.YtdceimnapbblnaaGreat
namespace Go.Proofs.YtdceimnapbblnaaGreat
open Go.RowKit
set_option linter.unusedVariables false
def isRowD (d : TypeDesc) : Bool := match d with | .struct _ | .array _ _ => true | _ => false
theorem results_cell_tmp {fn : Func} {p q : Tmp} {ty : TypeId} (h : fn.results = #[.cell p ty, .tmp q]) (tmps : Array Value) (w : World) (g : Nat) (t : TypeId) (cs : Array Value) (fr : Nat × Nat) (d : TypeDesc) (u : Value)
    (hp : tmps.getD p undef = .pointer (some ⟨g, 0, none⟩)) (hq : tmps.getD q undef = u) (hg : w.heap[g]? = some (.cells cs t fr))
    (hu : Tryz.prog.underlying ty = some d) (hd : isRowD d = true) (hi : (Tryz.prog.info? ty).map (·.size) = some cs.size) :
    (results fn tmps).run Tryz.prog w = .ok (.tuple #[.agg cs, u]) w := by
  have hp' : tmps[p]?.getD undef = .pointer (some ⟨g, 0, none⟩) := by simpa using hp
  have hq' : tmps[q]?.getD undef = u := by simpa using hq
  have hl := run_loadVar_row w g t ty cs fr d hg hu (by cases d <;> first | rfl | (simp [isRowD] at hd)) hi
  simp [results, h, hp', hq', asAddr, hl]
def setF (f : Nat) (p : Pr) (z : Int) : Pr := if f = 0 then ⟨z, p.succ, p.point, p.backs⟩ else if f = 1 then ⟨p.id, z, p.point, p.backs⟩ else ⟨p.id, p.succ, z, p.backs⟩
theorem setF_backs (f : Nat) (p : Pr) (z : Int) : (setF f p z).backs = p.backs := by unfold setF; split <;> (try split) <;> rfl
/-- one number of a peer of one's own is written -/
theorem OwnP.num {B T : Nat} {w : World} {g : Nat} {L : List (Pr × Value)} (h : OwnP B T w g L) {i : Nat} (hi : i < L.length) (f : Nat) (hf : f < 3) (z : Int) :
    OwnP B T (w.setCell ⟨g, i * 4 + f, none⟩ (.int .i64 z)) g (L.set i (setF f (L.getD i d0).1 z, (L.getD i d0).2)) := by
  obtain ⟨cur, hc⟩ := h.blk
  have hb4 : ∀ k, ¬ k = g → (w.setCell ⟨g, i * 4 + f, none⟩ (.int .i64 z)).heap[k]? = w.heap[k]? := fun k hk => heap_setCell_other _ _ _ _ (by simpa using hk)
  have hcell : ∀ j u, w.cell? ⟨g, j, none⟩ = some u → (w.setCell ⟨g, i * 4 + f, none⟩ (.int .i64 z)).cell? ⟨g, j, none⟩ = some (if j = i * 4 + f then .int .i64 z else u) := fun j u hu => cell_set hu
  refine ⟨h.lo, h.hi, ⟨_, heap_setCell_same _ _ _ _ _ _ hc⟩, fun j hj => ?_, fun j hj => ?_, fun j k hjk hk => ?_⟩
  · rw [List.length_set] at hj
    rw [getD_set hj]
    have hcj := h.cel j hj
    have k0 := hcell _ _ hcj.c0
    have k1 := hcell _ _ hcj.c1
    have k2 := hcell _ _ hcj.c2
    have k3 := hcell _ _ hcj.c3
    rw [if_neg (by omega)] at k3
    by_cases hij : i = j
    · subst hij
      rw [if_pos rfl]
      unfold setF
      by_cases f0 : f = 0
      · subst f0
        rw [if_pos (by omega)] at k0
        rw [if_neg (by omega)] at k1 k2
        exact ⟨k0, k1, k2, k3⟩
      · by_cases f1 : f = 1
        · subst f1
          rw [if_pos (by omega)] at k1
          rw [if_neg (by omega)] at k0 k2
          exact ⟨k0, k1, k2, k3⟩
        · have f2 : f = 2 := by omega
          subst f2
          rw [if_pos (by omega)] at k2
          rw [if_neg (by omega)] at k0 k1
          exact ⟨k0, k1, k2, k3⟩
    · rw [if_neg hij]
      rw [if_neg (by omega)] at k0 k1 k2
      exact ⟨k0, k1, k2, k3⟩
  · rw [List.length_set] at hj
    rw [getD_set hj]
    have old : ∀ q, q < L.length → ValOk B T (w.setCell ⟨g, i * 4 + f, none⟩ (.int .i64 z)) (L.getD q d0) := fun q hq => by
      obtain ⟨ab, cb, hv, hcb, hm, ho⟩ := h.val q hq
      refine ⟨ab, cb, hv, hcb, hm, ?_⟩
      rcases ho with ho | ⟨gb, ha, ht, os⟩
      · exact .inl ho
      · exact .inr ⟨gb, ha, ht, os.of_block (hb4 gb (os.ne_peer hc))⟩
    by_cases hij : i = j
    · rw [if_pos hij]
      have := old i hi
      unfold ValOk at this ⊢
      simp only [setF_backs]
      exact this
    · rw [if_neg hij]; exact old j hj
  · rw [List.length_set] at hk
    rw [getD_set (by omega), getD_set hk]
    by_cases hij : i = j
    · rw [if_pos hij, if_neg (by omega)]
      subst hij
      simp only [setF_backs]
      exact h.sep i k hjk hk
    · rw [if_neg hij]
      by_cases hik : i = k
      · rw [if_pos hik]
        subst hik
        simp only [setF_backs]
        exact h.sep j i hjk hk
      · rw [if_neg hik]
        exact h.sep j k hjk hk
theorem getD_same {L : List (Pr × Value)} {k : Nat} {e : Pr × Value} (hk : k < L.length) : (L.set k e).getD k d0 = e := by rw [getD_set hk, if_pos rfl]
/-- three cells of a struct are written -/
def set3 (w : World) (g : Nat) (x y v : Value) : World := ((w.setCell ⟨g, 0, none⟩ x).setCell ⟨g, 1, none⟩ y).setCell ⟨g, 2, none⟩ v
theorem set3_row {w : World} {g : Nat} {a b c x y v : Value} {t : TypeId} (h : w.heap[g]? = some (.cells #[a, b, c] t (0, 0))) : (set3 w g x y v).heap[g]? = some (.cells #[x, y, v] t (0, 0)) :=
  heap_setCell_same _ _ 2 _ _ _ (heap_setCell_same _ _ 1 _ _ _ (heap_setCell_same _ _ 0 _ _ _ h))
theorem set3_block {w : World} {g k : Nat} {x y v : Value} (h : ¬ k = g) : (set3 w g x y v).heap[k]? = w.heap[k]? := by
  unfold set3
  rw [heap_setCell_other _ _ _ _ (by simpa using h), heap_setCell_other _ _ _ _ (by simpa using h), heap_setCell_other _ _ _ _ (by simpa using h)]
theorem set3_size {w : World} {g : Nat} {x y v : Value} : (set3 w g x y v).heap.size = w.heap.size := by simp [set3, World.setCell]
theorem set3_below {n : Nat} {w0 w : World} {g : Nat} {x y v : Value} (h : Below n w0 w) (hg : n ≤ g) : Below n w0 (set3 w g x y v) :=
  ((h.setCell (p := ⟨g, 0, none⟩) hg _).setCell (p := ⟨g, 1, none⟩) hg _).setCell (p := ⟨g, 2, none⟩) hg _
/-- the argument's box and the answer's box, of peers -/
structure RB (w wr : World) (S0 : Array Value) (T0 : TypeId) : Prop where
  bel : Below w.heap.size w wr
  lt : w.heap.size + 1 < wr.heap.size
  s : wr.heap[w.heap.size]? = some (.cells S0 T0 (0, 0))
  r : wr.heap[w.heap.size + 1]? = some (.cells #[.int .i64 0, .int .i64 0, .slice none 0 0] 28 (0, 0))
theorem RB.blocks {w wr w1 : World} {S0 : Array Value} {T0 : TypeId} (h : RB w wr S0 T0) (hb : Below w.heap.size w w1) (hs : wr.heap.size ≤ w1.heap.size) (hk : ∀ k, k ≤ w.heap.size + 1 → w1.heap[k]? = wr.heap[k]?) : RB w w1 S0 T0 :=
  ⟨hb, Nat.lt_of_lt_of_le h.lt hs, (hk _ (by omega)).trans h.s, (hk _ (by omega)).trans h.r⟩
theorem RB.keep {w wr w1 : World} {S0 : Array Value} {T0 : TypeId} (h : RB w wr S0 T0) (hb : Below wr.heap.size wr w1) : RB w w1 S0 T0 :=
  h.blocks (belt h.bel hb) hb.size (fun k hk => hb.block k (by have := h.lt; omega))
theorem rb0 (w : World) (S0 : Array Value) (T0 : TypeId) : RB w ((w.alloc (.cells S0 T0)).alloc (.cells #[.int .i64 0, .int .i64 0, .slice none 0 0] 28)) S0 T0 := by
  refine ⟨((Below.refl _ _).alloc (Nat.le_refl _) _).alloc (by simp) _, by simp, ?_, ?_⟩
  · rw [heap_alloc_old _ _ (by simp)]
    exact heap_alloc_new _ _
  · have := heap_alloc_new (w.alloc (.cells S0 T0)) (.cells #[.int .i64 0, .int .i64 0, .slice none 0 0] 28)
    simpa using this
theorem RB.cells {w wr : World} {S0 : Array Value} {T0 : TypeId} (h : RB w wr S0 T0) : wr.cell? ⟨w.heap.size + 1, 0, none⟩ = some (.int .i64 0) ∧ wr.cell? ⟨w.heap.size + 1, 1, none⟩ = some (.int .i64 0) ∧ wr.cell? ⟨w.heap.size + 1, 2, none⟩ = some (.slice none 0 0) ∧
    wr.frozen? ⟨w.heap.size + 1, 0, none⟩ = false ∧ wr.frozen? ⟨w.heap.size + 1, 1, none⟩ = false ∧ wr.frozen? ⟨w.heap.size + 1, 2, none⟩ = false :=
  ⟨(cell_of_row wr _ _ _ _ _ h.r).trans rfl, (cell_of_row wr _ _ _ _ _ h.r).trans rfl, (cell_of_row wr _ _ _ _ _ h.r).trans rfl, frozen_of_row wr _ _ _ _ h.r, frozen_of_row wr _ _ _ _ h.r, frozen_of_row wr _ _ _ _ h.r⟩
theorem RB.arg2 {w wr : World} {x y : Value} {T0 : TypeId} (h : RB w wr #[x, y] T0) : wr.cell? ⟨w.heap.size, 0, none⟩ = some x ∧ wr.cell? ⟨w.heap.size, 1, none⟩ = some y :=
  ⟨(cell_of_row wr _ _ _ _ _ h.s).trans rfl, (cell_of_row wr _ _ _ _ _ h.s).trans rfl⟩
theorem RB.arg3 {w wr : World} {x y z : Value} {T0 : TypeId} (h : RB w wr #[x, y, z] T0) : wr.cell? ⟨w.heap.size, 0, none⟩ = some x ∧ wr.cell? ⟨w.heap.size, 1, none⟩ = some y ∧ wr.cell? ⟨w.heap.size, 2, none⟩ = some z :=
  ⟨(cell_of_row wr _ _ _ _ _ h.s).trans rfl, (cell_of_row wr _ _ _ _ _ h.s).trans rfl, (cell_of_row wr _ _ _ _ _ h.s).trans rfl⟩

def idlOk (b d : Int) (zs : List Int) (n : Int) : Bool := ringB b d zs && inB n 0 3
theorem idealL_len (b d : Int) (zs : List Int) (n : Nat) : (idealL b d zs n).length = zs.length := by simp [idealL]
set_option maxHeartbeats 1600000 in
theorem lIdealPeers_any (b d n : Int) (a : Option Addr) (cap : Nat) (zs : List Int) (w : World) (hm : zs.length ≤ maxLen) (hr : RowAt w a zs) :
    Calls Tryz.prog 122 #[.agg #[.int .i64 b, .int .i64 d], .slice a zs.length cap, .int .i64 n] w fun e w' => ∃ v, e = .returned v ∧ Below w.heap.size w w' ∧
      ((idlOk b d zs n = false ∧ v = .tuple #[.agg #[.int .i64 0, .int .i64 0, .slice none 0 0], .bool false]) ∨ (idlOk b d zs n = true ∧ ∃ a0 cp, v = .tuple #[.agg #[.int .i64 b, .int .i64 d, .slice a0 zs.length cp], .bool true] ∧ PeersAt w' a0 (idealL b d zs n.toNat))) := by
  have rb := rb0 w #[.int .i64 b, .int .i64 d] 25
  have CR := lring_any b d a cap zs _ hm (hr.keep rb.bel)
  have HR : Hid (RowAt w a zs) := hr
  have RB0 : Hid _ := rb
  clear hr rb
  cases hg : ringB b d zs
  · have hv : Hid (idlOk b d zs n = false) := by unfold Hid idlOk; rw [hg]; rfl
    rw [hg] at CR
    go_enter Tryz.func122, Tryz.ntmps122
    go_wp2_with fail
    refine CR.mono ?_
    rintro e w1 ⟨rfl, hw1⟩
    have RB1 : Hid (RB w w1 #[.int .i64 b, .int .i64 d] 25) := RB0.out.keep hw1
    obtain ⟨r0, r1, r2, q0, q1, q2⟩ := RB1.out.cells
    clear CR hw1
    go_wp2
    refine bodyPost_ret (results_cell_tmp Tryz.results122 _ _ (w.heap.size + 1) _ _ _ _ _ rfl rfl (set3_row RB1.out.r) Tryz.underlying28 rfl (by kernel_rfl)) rfl ⟨_, rfl, set3_below RB1.out.bel (by omega), .inl ⟨hv.out, rfl⟩⟩
  · rw [hg] at CR
    cases hn : inB n 0 3
    · have hv : Hid (idlOk b d zs n = false) := by unfold Hid idlOk; rw [hg, hn]; rfl
      have CN : ∀ w1, Calls Tryz.prog 93 #[.int .i64 n, .int .i64 0, .int .i64 3] w1 fun e w' => e = .returned (.bool false) ∧ w' = w1 := fun w1 => by have := lin_any n 0 3 w1; rwa [hn] at this
      clear hg hn
      go_enter Tryz.func122, Tryz.ntmps122
      go_wp2_with fail
      refine CR.mono ?_
      rintro e w1 ⟨rfl, hw1⟩
      have RB1 : Hid (RB w w1 #[.int .i64 b, .int .i64 d] 25) := RB0.out.keep hw1
      obtain ⟨r0, r1, r2, q0, q1, q2⟩ := RB1.out.cells
      clear CR hw1
      go_wp2_with fail
      refine (CN _).mono ?_
      rintro e w2 ⟨rfl, he2⟩
      subst he2
      go_wp2
      refine bodyPost_ret (results_cell_tmp Tryz.results122 _ _ (w.heap.size + 1) _ _ _ _ _ rfl rfl (set3_row RB1.out.r) Tryz.underlying28 rfl (by kernel_rfl)) rfl ⟨_, rfl, set3_below RB1.out.bel (by omega), .inl ⟨hv.out, rfl⟩⟩
    · have hv : Hid (idlOk b d zs n = true) := by unfold Hid idlOk; rw [hg, hn]; rfl
      have CN : ∀ w1, Calls Tryz.prog 93 #[.int .i64 n, .int .i64 0, .int .i64 3] w1 fun e w' => e = .returned (.bool true) ∧ w' = w1 := fun w1 => by have := lin_any n 0 3 w1; rwa [hn] at this
      obtain ⟨n1, n2⟩ := inB_true hn
      obtain ⟨m, rfl⟩ : ∃ m : Nat, n = (m : Int) := ⟨n.toNat, by omega⟩
      have R := ringB_true hg
      have RR : Hid (Ring b d zs) := R
      clear hg hn n1 R
      go_enter Tryz.func122, Tryz.ntmps122
      go_wp2_with fail
      refine CR.mono ?_
      rintro e w1 ⟨rfl, hw1⟩
      have RB1 : Hid (RB w w1 #[.int .i64 b, .int .i64 d] 25) := RB0.out.keep hw1
      obtain ⟨s0, s1⟩ := RB1.out.arg2
      clear CR hw1
      go_wp2_with fail
      refine (CN _).mono ?_
      rintro e w2 ⟨rfl, he2⟩
      subst he2
      go_wp2_with fail
      refine (lideal_any b d m a cap zs _ RR.out (HR.out.keep RB1.out.bel) (by omega)).mono ?_
      rintro e w3 ⟨vl, L, rfl, hL, lp, hw3⟩
      have RB3 : Hid (RB w w3 #[.int .i64 b, .int .i64 d] 25) := RB1.out.keep hw3
      obtain ⟨r0, r1, r2, q0, q1, q2⟩ := RB3.out.cells
      obtain ⟨al, cl, rfl, hcl⟩ := lp.form
      have hLl : L.length = zs.length := by rw [← List.length_map (f := (·.1)), hL, idealL_len]
      rw [hLl] at lp ⊢
      have lp2 := lp.blocks (w1 := set3 w3 (w.heap.size + 1) (.int .i64 b) (.int .i64 d) (.slice al zs.length cl)) (by rw [set3_size]; exact Nat.le_refl _) (fun k hk _ => set3_block (by have := RB1.out.lt; omega))
      have hp := lp2.peersAt
      rw [hL] at hp
      have HP : Hid _ := hp
      clear hp lp2 lp hw3 hcl
      go_wp2
      refine bodyPost_ret (results_cell_tmp Tryz.results122 _ _ (w.heap.size + 1) _ _ _ _ _ rfl rfl (set3_row RB3.out.r) Tryz.underlying28 rfl (by kernel_rfl)) rfl ⟨_, rfl, set3_below RB3.out.bel (by omega), .inr ⟨hv.out, _, _, rfl, HP.out⟩⟩
end Go.Proofs.YtdceimnapbblnaaGreat
namespace Go.Proofs.YtdceimnapbblnaaGreat
open Go.RowKit
set_option linter.unusedVariables false

set_option maxHeartbeats 1600000 in
theorem idsOf_any (q : Nat) (a : Option Addr) (cap : Nat) (ps : List Pr) (w : World) (hm : ps.length ≤ 1048576) (hq : q < w.heap.size) (c2 : w.cell? ⟨q, 2, none⟩ = some (.slice a ps.length cap)) (hr : PeersAt w a ps) :
    Calls Tryz.prog 71 #[.pointer (some ⟨q, 0, none⟩)] w fun e w' => e = .returned (.slice (some ⟨w.heap.size, 0, none⟩) ps.length ps.length) ∧ OwnZ w w' w.heap.size (idsP ps) := by
  have hmk := make_ints ps.length hm
  have hil := idsP_len ps
  have HR : Hid (PeersAt w a ps) := hr
  clear hr
  have hc20 : (w.alloc (.cells (zv (List.replicate ps.length 0)) 3)).cell? ⟨q, 2, none⟩ = some (.slice a ps.length cap) := (cell_alloc_old' _ hq trivial).trans c2
  go_enter Tryz.func71, Tryz.ntmps71
  go_wp2_with fail
  clear hmk
  have st0 : OwnZ w (w.alloc (.cells (zv (List.replicate ps.length 0)) 3)) w.heap.size (cop (idsP ps) 0) :=
    ⟨(Below.refl _ _).alloc (Nat.le_refl _) _, Nat.le_refl _, by rw [cop_none, hil]; exact heap_alloc_new _ _⟩
  go_loopw [16] (fun vi wr => ∃ k : Nat, k ≤ ps.length ∧ vi = .int .i64 k ∧ OwnZ w wr w.heap.size (cop (idsP ps) k)) (fun vi _ => ps.length - (intOf vi).toNat)
  case atStart => exact ⟨0, Nat.zero_le _, rfl, st0⟩
  case round =>
    obtain ⟨k, hk, rfl, st⟩ := hrel
    clear st0 hc20
    have hc2 : wr.cell? ⟨q, 2, none⟩ = some (.slice a ps.length cap) := (st.bel.cell (p := ⟨q, 2, none⟩) hq).trans c2
    by_cases hlt : k < ps.length
    · obtain ⟨bk, off, rfl⟩ := peersAt_form HR.out (by omega)
      obtain ⟨c0, _, _, _⟩ := (peersAt_cell (HR.out.keep st.bel) (by omega)).2 k hlt
      obtain ⟨r0, r1⟩ := st.at k (by rw [cop_len (by omega)]; omega)
      have st2 := st.put k ((idsP ps).getD k 0)
      rw [cop_set (by omega)] at st2
      rw [← idsP_get] at c0
      clear st
      generalize (idsP ps).getD k 0 = x0 at c0 st2
      generalize (cop (idsP ps) k).getD k 0 = y at r0
      go_wp2
      go_roundw
      case rel => exact ⟨k + 1, by omega, by go_num, st2⟩
      case measure => simp [intOf]; omega
    · have hkl : k = (idsP ps).length := by omega
      rw [hkl, cop_all] at st
      go_wp2
      go_ret
      exact ⟨rfl, st⟩

def bokB (zs bs : List Int) : Bool := decide (bs.length ≤ 3) && decide (∀ i, i < bs.length → memI zs (bs.getD i 0) = true)
theorem bokB_yes {zs bs : List Int} (h3 : bs.length ≤ 3) (h : ∀ i, i < bs.length → memI zs (bs.getD i 0) = true) : bokB zs bs = true := by
  unfold bokB; rw [decide_eq_true h3, decide_eq_true h]; rfl
theorem bokB_no {zs bs : List Int} {k : Nat} (hk : k < bs.length) (h : memI zs (bs.getD k 0) = false) : bokB zs bs = false := by
  unfold bokB
  rw [decide_eq_false (p := ∀ i, i < bs.length → memI zs (bs.getD i 0) = true) (fun g => by rw [g k hk] at h; cases h), Bool.and_false]
set_option maxHeartbeats 1600000 in
theorem areBacks_any (a ab : Option Addr) (cap cb : Nat) (zs bs : List Int) (w : World) (hm : zs.length ≤ maxLen) (hmb : bs.length ≤ maxLen) (hr : RowAt w a zs) (hrb : RowAt w ab bs) :
    Calls Tryz.prog 195 #[.slice a zs.length cap, .slice ab bs.length cb] w fun e w' => e = .returned (.bool (bokB zs bs)) ∧ w' = w := by
  have HR : Hid (RowAt w a zs) := hr
  have HRB : Hid (RowAt w ab bs) := hrb
  have HM : Hid (zs.length ≤ maxLen) := hm
  clear hr hrb hm
  unfold maxLen at hmb
  by_cases h3 : bs.length ≤ 3
  · go_enter Tryz.func195, Tryz.ntmps195
    go_wp2_with fail
    go_loop [12] (fun v => ∃ j : Nat, j ≤ bs.length ∧ v = .int .i64 j ∧ Hid (∀ i, i < j → memI zs (bs.getD i 0) = true)) (fun v => bs.length - (intOf v).toNat)
    case atStart => exact ⟨0, Nat.zero_le _, rfl, fun i hi => by omega⟩
    case round =>
      obtain ⟨j, hj, rfl, HT⟩ := hrel
      by_cases hjl : j < bs.length
      · obtain ⟨bb, ob, rfl⟩ := rowAt_form HRB.out (by omega)
        have hcb := (rowAt_cell HRB.out (by omega)).2 j hjl
        have CB := isMember_any a cap zs (bs.getD j 0) w HM.out HR.out
        cases h5 : memI zs (bs.getD j 0)
        · rw [h5] at CB
          have hv : Hid (bokB zs bs = false) := bokB_no hjl h5
          clear h5
          generalize bs.getD j 0 = z at hcb CB
          go_wp2_with fail
          refine CB.mono ?_
          rintro e w7 ⟨rfl, hw7⟩
          subst hw7
          go_wp2
          go_ret
          exact ⟨ret_bool hv.out.symm, rfl⟩
        · rw [h5] at CB
          have HT2 : Hid (∀ i, i < j + 1 → memI zs (bs.getD i 0) = true) := fun i hi => by
            by_cases he : i = j
            · subst he; exact h5
            · exact HT.out i (by omega)
          clear h5
          generalize bs.getD j 0 = z at hcb CB
          go_wp2_with fail
          refine CB.mono ?_
          rintro e w7 ⟨rfl, hw7⟩
          subst hw7
          go_wp2
          go_round
          case rel => exact ⟨j + 1, by omega, by go_num, HT2⟩
          case measure => simp [intOf]; omega
      · have hv : Hid (bokB zs bs = true) := bokB_yes h3 (fun i hi => HT.out i (by omega))
        go_wp2
        go_ret
        exact ⟨ret_bool hv.out.symm, rfl⟩
  · have hv : bokB zs bs = false := by unfold bokB; rw [decide_eq_false h3]; rfl
    rw [hv]
    go_enter Tryz.func195, Tryz.ntmps195
    go_wp2
    go_ret
    exact ⟨rfl, rfl⟩

def prI (zs : List Int) (p : Pr) : Bool := decide (p.succ = nxtI zs p.id) && memI zs p.point && bokB zs p.backs
theorem prI_eq {b d : Int} {zs : List Int} (R : Ring b d zs) (p : Pr) : prI zs p = prB zs p := by
  unfold prI prB bokB
  rw [mem_has R, Bool.and_assoc, Bool.and_assoc, Bool.and_assoc]
  have e : decide (∀ i, i < p.backs.length → memI zs (p.backs.getD i 0) = true) = decide (∀ i, i < p.backs.length → hasB zs (p.backs.getD i 0) = true) := by
    congr 1
    simp only [mem_has R]
  rw [e]

set_option maxHeartbeats 3200000 in
theorem isPeer_any (a : Option Addr) (cap : Nat) (zs : List Int) (q o : Nat) (p : Pr) (w : World) (l1 : 1 ≤ zs.length) (l2 : zs.length ≤ 16) (hr : RowAt w a zs) (hq : q < w.heap.size) (hp : PeerAt w q o p) :
    Calls Tryz.prog 131 #[.slice a zs.length cap, .pointer (some ⟨q, o, none⟩)] w fun e w' => e = .returned (.bool (prI zs p)) ∧ Below w.heap.size w w' := by
  obtain ⟨c0, c1, c2, ab, cb, c3, hrb, hmb, _⟩ := hp
  have hmx : zs.length ≤ maxLen := by unfold maxLen; omega
  obtain ⟨x0, x1, x2, bs⟩ := p
  have z0 : ∀ k : Kin w.heap.size w, k.v.cell? ⟨q, o, none⟩ = some (.int .i64 x0) := kin_cell hq c0
  have z1 : ∀ k : Kin w.heap.size w, k.v.cell? ⟨q, o + 1, none⟩ = some (.int .i64 x1) := kin_cell hq c1
  have z2 : ∀ k : Kin w.heap.size w, k.v.cell? ⟨q, o + 2, none⟩ = some (.int .i64 x2) := kin_cell hq c2
  have z3 : ∀ k : Kin w.heap.size w, k.v.cell? ⟨q, o + 3, none⟩ = some (.slice ab bs.length cb) := kin_cell hq c3
  have CN : ∀ w1, Below w.heap.size w w1 → Calls Tryz.prog 194 #[.slice a zs.length cap, .int .i64 x0] w1 fun e w' => e = .returned (.int .i64 (nxtI zs x0)) ∧ w' = w1 := fun w1 h => nextIn_any a cap zs x0 w1 l1 l2 (hr.keep h)
  have CH : ∀ w1, Below w.heap.size w w1 → Calls Tryz.prog 138 #[.slice a zs.length cap, .int .i64 x2] w1 fun e w' => e = .returned (.bool (memI zs x2)) ∧ w' = w1 := fun w1 h => isMember_any a cap zs x2 w1 hmx (hr.keep h)
  have CB : ∀ w1, Below w.heap.size w w1 → Calls Tryz.prog 195 #[.slice a zs.length cap, .slice ab bs.length cb] w1 fun e w' => e = .returned (.bool (bokB zs bs)) ∧ w' = w1 := fun w1 h => areBacks_any a ab cap cb zs bs w1 hmx hmb (hr.keep h) (hrb.keep h)
  have hv : prI zs ⟨x0, x1, x2, bs⟩ = (decide (x1 = nxtI zs x0) && memI zs x2 && bokB zs bs) := rfl
  rw [hv]
  clear hv c0 c1 c2 c3 hrb hmb hr hmx
  generalize nxtI zs x0 = nx at *
  generalize memI zs x2 = mx at *
  generalize bokB zs bs = bx at *
  by_cases h1 : x1 = nx
  · have e1 : (x1 == nx) = true := beq_iff_eq.2 h1
    rw [decide_eq_true h1]
    clear h1
    cases mx
    · go_enter Tryz.func131, Tryz.ntmps131
      go_wp2
      refine region_kin w.heap.size (by kernel_rfl) (by kernel_rfl) (fun hne => ?_)
      repeat (go_big_quiet_step (first | (go_at_call 194; exact kin_same (CN _ (Kin.bel _))) | (go_at_call 138; exact kin_same (CH _ (Kin.bel _))) | (go_at_call 195; exact kin_same (CB _ (Kin.bel _)))))
      refine wpQuiet_nil ?_
      intro w5 hw'
      obtain ⟨⟨w6, hw5⟩, hw''⟩ := hw'
      obtain rfl : w5 = w6 := hw''
      clear z0 z1 z2 z3 hne
      go_wp2
      go_ret
      exact ⟨rfl, hw5⟩
    · go_enter Tryz.func131, Tryz.ntmps131
      go_wp2
      refine region_kin w.heap.size (by kernel_rfl) (by kernel_rfl) (fun hne => ?_)
      repeat (go_big_quiet_step (first | (go_at_call 194; exact kin_same (CN _ (Kin.bel _))) | (go_at_call 138; exact kin_same (CH _ (Kin.bel _))) | (go_at_call 195; exact kin_same (CB _ (Kin.bel _)))))
      refine wpQuiet_nil ?_
      intro w5 hw'
      obtain ⟨⟨w6, hw5⟩, hw''⟩ := hw'
      obtain rfl : w5 = w6 := hw''
      clear z0 z1 z2 z3 hne
      go_wp2
      go_ret
      exact ⟨ret_bool (by simp), hw5⟩
  · have e1 : (x1 == nx) = false := by simp only [beq_eq_false_iff_ne, ne_eq]; exact h1
    rw [decide_eq_false h1]
    clear h1
    go_enter Tryz.func131, Tryz.ntmps131
    go_wp2
    refine region_kin w.heap.size (by kernel_rfl) (by kernel_rfl) (fun hne => ?_)
    repeat (go_big_quiet_step (first | (go_at_call 194; exact kin_same (CN _ (Kin.bel _))) | (go_at_call 138; exact kin_same (CH _ (Kin.bel _))) | (go_at_call 195; exact kin_same (CB _ (Kin.bel _)))))
    refine wpQuiet_nil ?_
    intro w5 hw'
    obtain ⟨⟨w6, hw5⟩, hw''⟩ := hw'
    obtain rfl : w5 = w6 := hw''
    clear z0 z1 z2 z3 hne
    go_wp2
    go_ret
    exact ⟨ret_bool (by simp), hw5⟩
end Go.Proofs.YtdceimnapbblnaaGreat
namespace Go.Proofs.YtdceimnapbblnaaGreat
open Go.RowKit
set_option linter.unusedVariables false

set_option maxHeartbeats 3200000 in
theorem GoodPeers_any (b d : Int) (a : Option Addr) (cap : Nat) (ps : List Pr) (w : World) (hm : ps.length ≤ 1048576) (hr : PeersAt w a ps) :
    Calls Tryz.prog 70 #[.agg #[.int .i64 b, .int .i64 d, .slice a ps.length cap]] w fun e w' => e = .returned (.bool (goodP b d ps)) ∧ Below w.heap.size w w' := by
  have hil := idsP_len ps
  have hr1 := hr.alloc (.cells #[.int .i64 b, .int .i64 d, .slice a ps.length cap] 28)
  by_cases hbig : 16 < ps.length
  · have hv : goodP b d ps = false := by unfold goodP; rw [ringB_len (by omega)]; rfl
    rw [hv]
    go_enter Tryz.func70, Tryz.ntmps70
    go_wp2
    go_ret
    exact ⟨rfl, (Below.refl _ _).alloc (Nat.le_refl _) _⟩
  · have l16 : ps.length ≤ 16 := by omega
    have CI := idsOf_any w.heap.size a cap ps (w.alloc (.cells #[.int .i64 b, .int .i64 d, .slice a ps.length cap] 28)) hm (by simp) (by go_simp) hr1
    have HR : Hid (PeersAt w a ps) := hr
    clear hr hr1
    cases hg : ringB b d (idsP ps)
    · have hv : Hid (goodP b d ps = false) := by unfold Hid goodP; rw [hg]; rfl
      go_enter Tryz.func70, Tryz.ntmps70
      go_wp2_with fail
      refine CI.mono ?_
      rintro e w1 ⟨rfl, ow1⟩
      clear CI
      have BX1 : Hid (BxP w w1 b d (.slice a ps.length cap)) := bxP1 ow1.bel (by simp)
      have HI1 : Hid (RowAt w1 (some ⟨w.heap.size + 1, 0, none⟩) (idsP ps)) := by have := rowAt_of_row ow1.row; simp only [World.size_alloc] at this; exact this
      have CR := GoodRing_any b d (some ⟨w.heap.size + 1, 0, none⟩) ps.length (idsP ps) w1 (by unfold maxLen; omega) HI1.out
      rw [hg, hil] at CR
      obtain ⟨_, _, q0, q1, q2⟩ := BX1.out
      clear ow1
      go_wp2_with fail
      refine CR.mono ?_
      rintro e w2 ⟨rfl, hw2⟩
      go_wp2
      go_ret
      exact ⟨ret_bool hv.out.symm, belt BX1.out.bel hw2⟩
    · have R := ringB_true hg
      have l1 := R.l1
      rw [hil] at l1
      have RR : Hid (Ring b d (idsP ps)) := R
      have HG : Hid (ringB b d (idsP ps) = true) := hg
      have hg1 := hg
      clear R hg
      go_enter Tryz.func70, Tryz.ntmps70
      go_wp2_with fail
      refine CI.mono ?_
      rintro e w1 ⟨rfl, ow1⟩
      clear CI
      have BX1 : Hid (BxP w w1 b d (.slice a ps.length cap)) := bxP1 ow1.bel (by simp)
      have HI1 : Hid (RowAt w1 (some ⟨w.heap.size + 1, 0, none⟩) (idsP ps)) := by have := rowAt_of_row ow1.row; simp only [World.size_alloc] at this; exact this
      have CR := GoodRing_any b d (some ⟨w.heap.size + 1, 0, none⟩) ps.length (idsP ps) w1 (by unfold maxLen; omega) HI1.out
      rw [hg1, hil] at CR
      obtain ⟨_, _, q0, q1, q2⟩ := BX1.out
      clear ow1 hg1
      go_wp2_with fail
      refine CR.mono ?_
      rintro e w2 ⟨rfl, hw2⟩
      clear CR q0 q1 q2
      have BX2 : Hid (BxP w w2 b d (.slice a ps.length cap)) := BX1.out.keep hw2
      have HI2 : Hid (RowAt w2 (some ⟨w.heap.size + 1, 0, none⟩) (idsP ps)) := HI1.out.keep hw2
      clear BX1 HI1 hw2
      obtain ⟨_, _, _, _, q2⟩ := BX2.out
      go_wp2_with fail
      go_loopw [18] (fun vi wr => ∃ (k : Nat), k ≤ ps.length ∧ vi = .int .i64 k ∧ Hid (BxP w wr b d (.slice a ps.length cap)) ∧ Hid (RowAt wr (some ⟨w.heap.size + 1, 0, none⟩) (idsP ps)) ∧ Hid (∀ i, i < k → prB (idsP ps) (ps.getD i pr0) = true)) (fun vi _ => ps.length - (intOf vi).toNat)
      case atStart => exact ⟨0, Nat.zero_le _, rfl, BX2, HI2, fun i hi => by omega⟩
      case round =>
        obtain ⟨k, hk, rfl, BX, HI, HS⟩ := hrel
        clear BX2 HI2 q2
        obtain ⟨_, qlt, _, _, q2⟩ := BX.out
        have HB : Hid (Below w.heap.size w wr) := BX.out.bel
        by_cases hlt : k < ps.length
        · obtain ⟨bk, off, rfl⟩ := peersAt_form HR.out (by omega)
          obtain ⟨hbk, hpk⟩ := peersAt_cell (HR.out.keep HB.out) (by omega)
          have C := isPeer_any (some ⟨w.heap.size + 1, 0, none⟩) ps.length (idsP ps) bk (off + k * 4) (ps.getD k pr0) wr (by omega) (by omega) HI.out hbk (hpk k hlt)
          rw [prI_eq RR.out, hil] at C
          clear hpk
          cases hp : prB (idsP ps) (ps.getD k pr0)
          · rw [hp] at C
            have hv : Hid (goodP b d ps = false) := goodP_no hlt (by rw [hp]; simp)
            clear hp
            go_wp2_with fail
            refine C.mono ?_
            rintro e w3 ⟨rfl, hw3⟩
            go_wp2
            go_ret
            exact ⟨ret_bool hv.out.symm, belt HB.out hw3⟩
          · rw [hp] at C
            have HS2 : Hid (∀ i, i < k + 1 → prB (idsP ps) (ps.getD i pr0) = true) := fun i hi => by
              by_cases he : i = k
              · subst he; exact hp
              · exact HS.out i (by omega)
            clear hp
            go_wp2_with fail
            refine C.mono ?_
            rintro e w3 ⟨rfl, hw3⟩
            have BX3 : Hid (BxP w w3 b d (.slice (some ⟨bk, off, none⟩) ps.length cap)) := BX.out.keep hw3
            have HI3 : Hid (RowAt w3 (some ⟨w.heap.size + 1, 0, none⟩) (idsP ps)) := HI.out.keep hw3
            go_wp2
            go_roundw
            case rel => exact ⟨k + 1, by omega, by go_num, BX3, HI3, HS2⟩
            case measure => simp [intOf]; omega
        · have hv : Hid (goodP b d ps = true) := goodP_yes HG.out (fun i hi => HS.out i (by omega))
          go_wp2
          go_ret
          exact ⟨ret_bool hv.out.symm, HB.out⟩
end Go.Proofs.YtdceimnapbblnaaGreat
namespace Go.Proofs.YtdceimnapbblnaaGreat
open Go.RowKit
set_option linter.unusedVariables false

set_option maxHeartbeats 1600000 in
theorem MembersOf_any (b d : Int) (a : Option Addr) (cap : Nat) (ps : List Pr) (w : World) (hm : ps.length ≤ 1048576) (hr : PeersAt w a ps) :
    Calls Tryz.prog 15 #[.agg #[.int .i64 b, .int .i64 d, .slice a ps.length cap]] w fun e w' => ∃ v, e = .returned v ∧ Below w.heap.size w w' ∧
      ((goodP b d ps = false ∧ v = .tuple #[.slice none 0 0, .bool false]) ∨ (goodP b d ps = true ∧ ∃ g, v = .tuple #[.slice (some ⟨g, 0, none⟩) ps.length ps.length, .bool true] ∧ OwnS w.heap.size w' g (idsP ps))) := by
  have hr1 := hr.alloc (.cells #[.int .i64 b, .int .i64 d, .slice a ps.length cap] 28)
  have HR : Hid (PeersAt w a ps) := hr
  clear hr
  have C := GoodPeers_any b d a cap ps _ hm hr1
  cases hg : goodP b d ps
  · rw [hg] at C
    go_enter Tryz.func15, Tryz.ntmps15
    go_wp2_with fail
    refine C.mono ?_
    rintro e w1 ⟨rfl, hw1⟩
    go_wp2
    go_ret2
    exact ⟨_, rfl, bel1 hw1 (by simp), .inl ⟨trivial, rfl⟩⟩
  · rw [hg] at C
    go_enter Tryz.func15, Tryz.ntmps15
    go_wp2_with fail
    refine C.mono ?_
    rintro e w1 ⟨rfl, hw1⟩
    have BX : Hid (BxP w w1 b d (.slice a ps.length cap)) := bxP1 hw1 (by simp)
    go_wp2_with fail
    refine (idsOf_any w.heap.size a cap ps w1 hm BX.out.lt BX.out.c2 (HR.out.keep BX.out.bel)).mono ?_
    rintro e w2 ⟨rfl, ow2⟩
    go_wp2
    go_ret2
    exact ⟨_, rfl, belt BX.out.bel ow2.bel, .inr ⟨trivial, _, rfl, ow2.owns.mono BX.out.bel.size⟩⟩

/-- the box of peers that came in, where blocks beyond it turn -/
theorem BxP.away {w wr w1 : World} {b d : Int} {v : Value} (h : BxP w wr b d v) (hb : Below w.heap.size w w1) (hs : wr.heap.size ≤ w1.heap.size) (hk : w1.heap[w.heap.size]? = wr.heap[w.heap.size]?) : BxP w w1 b d v :=
  ⟨hb, Nat.lt_of_lt_of_le h.lt hs, (World.cell?_of_block (a := ⟨w.heap.size, 0, none⟩) hk).trans h.c0, (World.cell?_of_block (a := ⟨w.heap.size, 1, none⟩) hk).trans h.c1, (World.cell?_of_block (a := ⟨w.heap.size, 2, none⟩) hk).trans h.c2⟩
theorem BxP.only {w wr w1 : World} {b d : Int} {v : Value} {g : Nat} (h : BxP w wr b d v) (ho : Only g wr w1) (hg : w.heap.size < g) : BxP w w1 b d v :=
  h.away (ho.below h.bel (by omega)) (by rw [ho.size]; exact Nat.le_refl _) (ho.block _ (by omega))
theorem map_len {L : List (Pr × Value)} {ps : List Pr} (h : L.map (·.1) = ps) : L.length = ps.length := by rw [← h, List.length_map]
end Go.Proofs.YtdceimnapbblnaaGreat
namespace Go.Proofs.YtdceimnapbblnaaGreat
open Go.RowKit
set_option linter.unusedVariables false
/-- a box that was laid in the world w is as it was -/
structure BxV (w wr : World) (cs : Array Value) (T : TypeId) : Prop where
  row : wr.heap[w.heap.size]? = some (.cells cs T (0, 0))
theorem BxV.lt {w wr : World} {cs : Array Value} {T : TypeId} (h : BxV w wr cs T) : w.heap.size < wr.heap.size := (Array.getElem?_eq_some_iff.1 h.row).1
theorem BxV.keep {w wr w1 : World} {cs : Array Value} {T : TypeId} (h : BxV w wr cs T) (hb : Below wr.heap.size wr w1) : BxV w w1 cs T :=
  ⟨(hb.block _ h.lt).trans h.row⟩
theorem bxV1 {w w1 : World} {cs : Array Value} {T : TypeId} (hb : Below (w.alloc (.cells cs T)).heap.size (w.alloc (.cells cs T)) w1) : BxV w w1 cs T := by
  have h0 : BxV w (w.alloc (.cells cs T)) cs T := ⟨heap_alloc_new _ _⟩
  exact h0.keep hb
theorem BxV.c2 {w wr : World} {x y : Value} {T : TypeId} (h : BxV w wr #[x, y] T) : wr.cell? ⟨w.heap.size, 0, none⟩ = some x ∧ wr.cell? ⟨w.heap.size, 1, none⟩ = some y :=
  ⟨(cell_of_row wr _ _ _ _ _ h.row).trans rfl, (cell_of_row wr _ _ _ _ _ h.row).trans rfl⟩
theorem BxV.c3 {w wr : World} {x y z : Value} {T : TypeId} (h : BxV w wr #[x, y, z] T) : wr.cell? ⟨w.heap.size, 0, none⟩ = some x ∧ wr.cell? ⟨w.heap.size, 1, none⟩ = some y ∧ wr.cell? ⟨w.heap.size, 2, none⟩ = some z :=
  ⟨(cell_of_row wr _ _ _ _ _ h.row).trans rfl, (cell_of_row wr _ _ _ _ _ h.row).trans rfl, (cell_of_row wr _ _ _ _ _ h.row).trans rfl⟩
theorem bxv6 {w w4 wr : World} {x y z x' y' z' : Value} {T T' : TypeId} (h : BxV w wr #[x, y, z] T) (k : BxV w4 wr #[x', y', z'] T') : wr.cell? ⟨w.heap.size, 0, none⟩ = some x ∧ wr.cell? ⟨w.heap.size, 1, none⟩ = some y ∧ wr.cell? ⟨w.heap.size, 2, none⟩ = some z ∧ wr.cell? ⟨w4.heap.size, 0, none⟩ = some x' ∧ wr.cell? ⟨w4.heap.size, 1, none⟩ = some y' ∧ wr.cell? ⟨w4.heap.size, 2, none⟩ = some z' :=
  ⟨h.c3.1, h.c3.2.1, h.c3.2.2, k.c3.1, k.c3.2.1, k.c3.2.2⟩
/-- nothing was changed but blocks from B to T; new ones may have come -/
structure Mk (B T : Nat) (w w' : World) : Prop where
  below : ∀ n w0, n ≤ B → Below n w0 w → Below n w0 w'
  block : ∀ k, k < w.heap.size → ¬ (B ≤ k ∧ k < T) → w'.heap[k]? = w.heap[k]?
  size : w.heap.size ≤ w'.heap.size
theorem Mk.refl (B T : Nat) (w : World) : Mk B T w w := ⟨fun _ _ _ h => h, fun _ _ _ => rfl, Nat.le_refl _⟩
theorem Mk.wide {B T B' T' : Nat} {w w' : World} (h : Mk B T w w') (hB : B' ≤ B) (hT : T ≤ T') : Mk B' T' w w' :=
  ⟨fun n w0 hn hb => h.below n w0 (by omega) hb, fun k hk hn => h.block k hk (by omega), h.size⟩
theorem mk_only {g : Nat} {w w' : World} (h : Only g w w') : Mk g (g + 1) w w' :=
  ⟨fun n w0 hn hb => hb.trans ⟨h.os, h.tape, h.output, by rw [h.size]; exact Nat.le_refl _, fun k hk => h.block k (by omega)⟩, fun k _ hk => h.block k (by omega), by rw [h.size]; exact Nat.le_refl _⟩
theorem BxV.mkd {w wr w1 : World} {cs : Array Value} {T0 : TypeId} {B T : Nat} (h : BxV w wr cs T0) (m : Mk B T wr w1) (hB : w.heap.size < B ∨ T ≤ w.heap.size) : BxV w w1 cs T0 :=
  ⟨(m.block _ h.lt (by omega)).trans h.row⟩
/-- a list of one's own among the blocks from B to T, or an empty one -/
def OwnLs (B T : Nat) (w : World) (a : Option Addr) (n : Nat) (l : List Int) : Prop := l.length = n ∧ (l = [] ∨ ∃ g, a = some ⟨g, 0, none⟩ ∧ g < T ∧ OwnS B w g l)
theorem OwnLs.rowAt {B T : Nat} {w : World} {a : Option Addr} {n : Nat} {l : List Int} (h : OwnLs B T w a n l) : RowAt w a l := by
  rcases h.2 with h | ⟨g, ha, _, os⟩
  · exact .inl h
  · rw [ha]; exact os.rowAt
theorem OwnLs.blocks {B T : Nat} {w w1 : World} {a : Option Addr} {n : Nat} {l : List Int} (h : OwnLs B T w a n l) (hb : ∀ k, B ≤ k → k < T → k < w.heap.size → w1.heap[k]? = w.heap[k]?) : OwnLs B T w1 a n l := by
  refine ⟨h.1, ?_⟩
  rcases h.2 with h | ⟨g, ha, ht, os⟩
  · exact .inl h
  · exact .inr ⟨g, ha, ht, os.of_block (hb g os.lo ht os.lt)⟩
theorem OwnLs.keep {B T : Nat} {w w1 : World} {a : Option Addr} {n : Nat} {l : List Int} (h : OwnLs B T w a n l) (hb : Below w.heap.size w w1) : OwnLs B T w1 a n l := h.blocks (fun k _ _ hk => hb.block k hk)
theorem OwnLs.mkd {B T B' T' : Nat} {w w1 : World} {a : Option Addr} {n : Nat} {l : List Int} (h : OwnLs B T w a n l) (m : Mk B' T' w w1) (hd : T ≤ B' ∨ T' ≤ B) : OwnLs B T w1 a n l := h.blocks (fun k h1 h2 hk => m.block k hk (by omega))
theorem toIntS_own (a : Option Addr) (cap : Nat) (zs : List Int) (w : World) (hm : zs.length ≤ 1048576) (hr : RowAt w a zs) :
    Calls Tryz.prog 47 #[.slice a zs.length cap] w fun e w' => ∃ a', e = .returned (.slice a' zs.length zs.length) ∧ OwnLs w.heap.size w'.heap.size w' a' zs.length zs ∧ Below w.heap.size w w' := by
  refine (toIntS_any a cap zs w hm hr).mono ?_
  rintro e w1 ⟨rfl, ow⟩
  exact ⟨_, rfl, ⟨rfl, .inr ⟨_, rfl, ow.lt, ow.owns⟩⟩, ow.bel⟩
theorem markIntS_own (B T cap : Nat) (a : Option Addr) (n : Nat) (zs : List Int) (k0 : Int) (w : World) (hm : n ≤ 1048576) (k1 : 0 ≤ k0) (k2 : k0 ≤ 1099511627776) (ho : OwnLs B T w a n zs) :
    Calls Tryz.prog 53 #[.slice a n cap, .int .i64 k0] w fun e w' => e = .returned (.int .i64 (k0 + (n : Int))) ∧ Mk B T w w' ∧ OwnLs B T w' a n (mrk k0 zs n) := by
  obtain ⟨rfl, ho⟩ := ho
  rcases ho with rfl | ⟨g, rfl, ht, os⟩
  · refine (markIntS_empty a cap k0 w).mono ?_
    rintro e w1 ⟨rfl, rfl⟩
    exact ⟨by simp, Mk.refl _ _ _, rfl, .inl rfl⟩
  · refine (markOwn_any B g cap zs k0 w hm k1 k2 os).mono ?_
    rintro e w1 ⟨rfl, os1, on⟩
    exact ⟨rfl, (mk_only on).wide os.lo (by omega), mrk_len (Nat.le_refl _), .inr ⟨g, rfl, ht, os1⟩⟩
theorem heldIntS_own (B T cap : Nat) (a : Option Addr) (n : Nat) (zs : List Int) (k0 : Int) (w : World) (hm : n ≤ 1048576) (hz : zs.length = n) (k1 : 0 ≤ k0) (k2 : k0 ≤ 1099511627776) (ho : OwnLs B T w a n (mrk k0 zs n)) :
    Calls Tryz.prog 54 #[.slice a n cap, .int .i64 k0] w fun e w' => e = .returned (.int .i64 (k0 + (n : Int))) ∧ Below w.heap.size w w' := by
  obtain ⟨h1, h2⟩ := mrk_at' (k0 := k0) hz
  have := heldIntS_any a cap (mrk k0 zs n) k0 w (by rw [h1]; exact hm) k1 k2 ho.rowAt h2
  rw [h1] at this
  refine this.mono ?_
  rintro e w1 ⟨rfl, rfl⟩
  exact ⟨rfl, Below.refl _ _⟩
theorem eqIntS_own (a a' : Option Addr) (cap cap' n : Nat) (l : List Int) (w : World) (hn : l.length = n) (hm : n ≤ 1048576) (hx : RowAt w a l) (hy : RowAt w a' l) :
    Calls Tryz.prog 50 #[.slice a n cap, .slice a' n cap'] w fun e w' => e = .returned (.bool true) ∧ Below w.heap.size w w' := by
  subst hn
  have := eqIntS_any a a' cap cap' l l w (by unfold maxLen; omega) hx hy
  have hs : sameB l l = true := decide_eq_true rfl
  rwa [hs] at this
/-- peers of one's own among the blocks from B to T, or none -/
def OwnPs (B T : Nat) (w : World) (a : Option Addr) (n : Nat) (ps : List Pr) : Prop := ps.length = n ∧ (ps = [] ∨ ∃ g L, a = some ⟨g, 0, none⟩ ∧ L.map (·.1) = ps ∧ OwnP B T w g L)
theorem OwnPs.peersAt {B T : Nat} {w : World} {a : Option Addr} {n : Nat} {ps : List Pr} (h : OwnPs B T w a n ps) : PeersAt w a ps := by
  rcases h.2 with h | ⟨g, L, ha, hL, os⟩
  · exact .inl h
  · rw [ha, ← hL]; exact os.peersAt
theorem OwnPs.blocks {B T : Nat} {w w1 : World} {a : Option Addr} {n : Nat} {ps : List Pr} (h : OwnPs B T w a n ps) (hb : ∀ k, B ≤ k → k < T → k < w.heap.size → w1.heap[k]? = w.heap[k]?) : OwnPs B T w1 a n ps := by
  refine ⟨h.1, ?_⟩
  rcases h.2 with h | ⟨g, L, ha, hL, os⟩
  · exact .inl h
  · exact .inr ⟨g, L, ha, hL, os.blocks hb⟩
theorem OwnPs.keep {B T : Nat} {w w1 : World} {a : Option Addr} {n : Nat} {ps : List Pr} (h : OwnPs B T w a n ps) (hb : Below w.heap.size w w1) : OwnPs B T w1 a n ps := h.blocks (fun k _ _ hk => hb.block k hk)
theorem OwnPs.mkd {B T B' T' : Nat} {w w1 : World} {a : Option Addr} {n : Nat} {ps : List Pr} (h : OwnPs B T w a n ps) (m : Mk B' T' w w1) (hd : T ≤ B' ∨ T' ≤ B) : OwnPs B T w1 a n ps := h.blocks (fun k h1 h2 hk => m.block k hk (by omega))
theorem toPeers_own (b d : Int) (a : Option Addr) (cap : Nat) (ps : List Pr) (w : World) (hb : ps.length + bsum ps ≤ 1048576) (hr : PeersAt w a ps) :
    Calls Tryz.prog 45 #[.agg #[.int .i64 b, .int .i64 d, .slice a ps.length cap]] w fun e w' => ∃ a', e = .returned (.agg #[.int .i64 b, .int .i64 d, .slice a' ps.length ps.length]) ∧ OwnPs w.heap.size w'.heap.size w' a' ps.length ps ∧ Below w.heap.size w w' := by
  refine (toPeers_any b d a cap ps w hb hr).mono ?_
  rintro e w1 ⟨g, rfl, ⟨L, hL, ow⟩, hw⟩
  exact ⟨_, rfl, ⟨rfl, .inr ⟨g, L, rfl, hL, ow⟩⟩, hw⟩
theorem markPeerS_empty (a : Option Addr) (cap : Nat) (k0 : Int) (w : World) :
    Calls Tryz.prog 120 #[.slice a 0 cap, .int .i64 k0] w fun e w' => e = .returned (.int .i64 k0) ∧ w' = w := by
  go_enter Tryz.func120, Tryz.ntmps120
  go_wp2
  go_loop [1, 5] (fun k i => i = .int .i64 0 ∧ k = .int .i64 k0) (fun _ i => 0)
  case atStart => exact ⟨rfl, rfl⟩
  case round =>
    obtain ⟨rfl, rfl⟩ := hrel
    go_wp2
    go_ret
    exact ⟨rfl, rfl⟩
theorem markPeers_empty (b d : Int) (a : Option Addr) (cap : Nat) (k0 : Int) (w : World) :
    Calls Tryz.prog 51 #[.agg #[.int .i64 b, .int .i64 d, .slice a 0 cap], .int .i64 k0] w fun e w' => e = .returned (.int .i64 k0) ∧ Below w.heap.size w w' := by
  go_enter Tryz.func51, Tryz.ntmps51
  go_wp2_with fail
  refine (markPeerS_empty a cap k0 _).mono ?_
  rintro e w1 ⟨rfl, rfl⟩
  go_wp2
  go_ret
  exact ⟨rfl, belA _ _⟩
theorem mk_below {B T : Nat} {w w' : World} (h : Below w.heap.size w w') (hB : B ≤ w.heap.size) : Mk B T w w' :=
  ⟨fun n w0 hn hb => hb.trans (h.mono (by omega)), fun k hk _ => h.block k hk, h.size⟩
theorem markPeers_own (b d : Int) (B T cap : Nat) (a : Option Addr) (n : Nat) (ps : List Pr) (k0 : Int) (w : World) (hb : ps.length + bsum ps ≤ 1048576) (k1 : 0 ≤ k0) (k2 : k0 ≤ 1000000000000) (hB : B ≤ w.heap.size) (hT : T ≤ w.heap.size) (h : OwnPs B T w a n ps) :
    Calls Tryz.prog 51 #[.agg #[.int .i64 b, .int .i64 d, .slice a n cap], .int .i64 k0] w fun e w' => e = .returned (.int .i64 (kAt k0 ps n)) ∧ Mk B T w w' ∧ OwnPs B T w' a n (mrkP k0 ps) := by
  obtain ⟨rfl, ho⟩ := h
  rcases ho with rfl | ⟨g, L, rfl, hL, os⟩
  · refine (markPeers_empty b d a cap k0 w).mono ?_
    rintro e w1 ⟨rfl, hw⟩
    exact ⟨by simp [kAt, bsum], mk_below hw hB, rfl, .inl rfl⟩
  · have hl : L.length = ps.length := map_len hL
    have C := markPeers_any b d B T g cap L k0 w (by rw [hL, hl]; exact hb) k1 k2 hT os
    rw [hL, hl] at C
    refine C.mono ?_
    rintro e w1 ⟨rfl, h1, h2, h3, L', hL', os'⟩
    exact ⟨rfl, ⟨h1, h2, h3⟩, mrkP_len _ _, .inr ⟨g, L', rfl, hL', os'⟩⟩
theorem heldPeers_own (b d : Int) (B T cap : Nat) (a : Option Addr) (n : Nat) (ps : List Pr) (k0 : Int) (w : World) (hb : ps.length + bsum ps ≤ 1048576) (hn : ps.length = n) (k1 : 0 ≤ k0) (k2 : k0 ≤ 1000000000000) (h : OwnPs B T w a n (mrkP k0 ps)) :
    Calls Tryz.prog 112 #[.agg #[.int .i64 b, .int .i64 d, .slice a n cap], .int .i64 k0] w fun e w' => e = .returned (.int .i64 (kAt k0 ps n)) ∧ Below w.heap.size w w' := by
  subst hn
  exact heldPeers_any b d a cap ps k0 w hb k1 k2 h.peersAt
theorem eqPeers_own (b d : Int) (a a' : Option Addr) (cap cap' n : Nat) (ps : List Pr) (w : World) (hn : ps.length = n) (hm : n ≤ 1048576) (hx : PeersAt w a ps) (hy : PeersAt w a' ps) :
    Calls Tryz.prog 48 #[.agg #[.int .i64 b, .int .i64 d, .slice a n cap], .agg #[.int .i64 b, .int .i64 d, .slice a' n cap']] w fun e w' => e = .returned (.bool true) ∧ Below w.heap.size w w' := by
  subst hn
  exact eqPeers_same b d a a' cap cap' ps w hm hx hy
theorem bne_self_bool (b : Bool) : (b != b) = false := by cases b <;> rfl
/-- a list that a call has answered in memory of its own -/
theorem ownLs_of {B T : Nat} {w : World} {g n : Nat} {l : List Int} (h : OwnS B w g l) (ht : w.heap.size ≤ T) (hn : l.length = n) : OwnLs B T w (some ⟨g, 0, none⟩) n l := ⟨hn, .inr ⟨g, rfl, Nat.lt_of_lt_of_le h.lt ht, h⟩⟩
theorem ownLs_nil (B T : Nat) (w : World) (a : Option Addr) : OwnLs B T w a 0 [] := ⟨rfl, .inl rfl⟩
theorem ownPs_nil (B T : Nat) (w : World) (a : Option Addr) : OwnPs B T w a 0 [] := ⟨rfl, .inl rfl⟩
end Go.Proofs.YtdceimnapbblnaaGreat
namespace Go.Proofs.YtdceimnapbblnaaGreat
open Go.RowKit
set_option linter.unusedVariables false
structure Mg where
  x0 : Int
  x1 : Int
  x2 : Int
  x3 : Int
  x4 : Int
  x5 : Int
  x6 : Int
  x7 : Int
  l : List Int
def mg0 : Mg := ⟨0, 0, 0, 0, 0, 0, 0, 0, []⟩
def mgV (m : Mg) (s : Value) : List Value := [.int .i64 m.x0, .int .i64 m.x1, .int .i64 m.x2, .int .i64 m.x3, .int .i64 m.x4, .int .i64 m.x5, .int .i64 m.x6, .int .i64 m.x7, s]
def mgK (k : Int) (m : Mg) : Mg := ⟨k, k + 1, k + 2, k + 3, k + 4, k + 5, k + 6, k + 7, mrk (k + 8) m.l m.l.length⟩
def tyMg : TyI where
  den := Mg
  wide := 9
  dflt := mg0
  rep := fun w cs m => ∃ a c, cs = mgV m (.slice a m.l.length c) ∧ RowAt w a m.l ∧ m.l.length ≤ maxLen ∧ m.l.length ≤ c ∧ (a = none → c = 0)
  own := fun B T w cs m F => ∃ a c, cs = mgV m (.slice a m.l.length c) ∧ m.l.length ≤ 1048576 ∧ m.l.length ≤ c ∧ (a = none → c = 0) ∧ ((m.l = [] ∧ F = []) ∨ ∃ g, a = some ⟨g, 0, none⟩ ∧ F = [g] ∧ g < T ∧ OwnS B w g m.l)
  mrk := fun k m => (mgK k m, k + 8 + (m.l.length : Int))
  cnt := fun m => 8 + m.l.length
  tot := fun m => m.l.length
  leaf := 8
  rep_len := fun h => by
    obtain ⟨a, c, rfl, _⟩ := h
    rfl
  rep_keep := fun h hb => by
    obtain ⟨a, c, e, hr, h2⟩ := h
    exact ⟨a, c, e, hr.keep hb, h2⟩
  own_len := fun h => by
    obtain ⟨a, c, rfl, _⟩ := h
    rfl
  own_blocks := fun h hb => by
    obtain ⟨a, c, e, h1, h2, h3, h4⟩ := h
    refine ⟨a, c, e, h1, h2, h3, ?_⟩
    rcases h4 with h4 | ⟨g, ha, hF, hT, os⟩
    · exact .inl h4
    · exact .inr ⟨g, ha, hF, hT, os.of_block (hb g (by rw [hF]; simp))⟩
  own_bd := fun h k hk => by
    obtain ⟨a, c, e, h1, h2, h3, h4⟩ := h
    rcases h4 with ⟨_, hF⟩ | ⟨g, ha, hF, hT, os⟩
    · rw [hF] at hk; simp at hk
    · rw [hF] at hk
      simp at hk
      subst hk
      exact ⟨os.lo, hT, os.lt⟩
  own_wide := fun h h1 h2 => by
    obtain ⟨a, c, e, k1, k2, k3, h4⟩ := h
    refine ⟨a, c, e, k1, k2, k3, ?_⟩
    rcases h4 with h4 | ⟨g, ha, hF, hT, os⟩
    · exact .inl h4
    · exact .inr ⟨g, ha, hF, by omega, os.mono h1⟩
  own_rep := fun h => by
    obtain ⟨a, c, e, h1, h2, h3, h4⟩ := h
    refine ⟨a, c, e, ?_, by unfold maxLen; omega, h2, h3⟩
    rcases h4 with ⟨h4, _⟩ | ⟨g, ha, hF, hT, os⟩
    · exact .inl h4
    · rw [ha]; exact os.rowAt
  mrk_end := fun k m => by
    show k + 8 + (m.l.length : Int) = k + ((8 + m.l.length : Nat) : Int)
    omega
  cnt_tot := fun m => by omega
structure Rp where
  x0 : Int
  x1 : Int
  x2 : Int
  x3 : Int
  b : Bool
def rp0 : Rp := ⟨0, 0, 0, 0, false⟩
def rpV (m : Rp) : List Value := [.int .i64 m.x0, .int .i64 m.x1, .int .i64 m.x2, .int .i64 m.x3, .bool m.b]
def rpK (k : Int) : Rp := ⟨k, k + 1, k + 2, k + 3, decide ((k + 4) % 3 = 0)⟩
def tyRp : TyI where
  den := Rp
  wide := 5
  dflt := rp0
  rep := fun _ cs m => cs = rpV m
  own := fun _ _ _ cs m F => cs = rpV m ∧ F = []
  mrk := fun k _ => (rpK k, k + 5)
  cnt := fun _ => 5
  tot := fun _ => 0
  leaf := 5
  rep_len := fun h => by rw [h]; rfl
  rep_keep := fun h _ => h
  own_len := fun h => by rw [h.1]; rfl
  own_blocks := fun h _ => h
  own_bd := fun h k hk => by rw [h.2] at hk; simp at hk
  own_wide := fun h _ _ => h
  own_rep := fun h => h.1
  mrk_end := fun _ _ => rfl
  cnt_tot := fun _ => by simp
/-- cells of one block that are written one behind the other -/
def setO (w : World) (g : Nat) : Nat → List Value → World
  | _, [] => w
  | o, v :: vs => setO (w.setCell ⟨g, o, none⟩ v) g (o + 1) vs
theorem setO_oth {g k : Nat} (hk : ¬ k = g) : ∀ (vs : List Value) (w : World) (o : Nat), (setO w g o vs).heap[k]? = w.heap[k]?
  | [], w, o => rfl
  | v :: vs, w, o => (setO_oth hk vs _ (o + 1)).trans (heap_setCell_other _ _ _ _ (by simpa using hk))
theorem setO_size {g : Nat} : ∀ (vs : List Value) (w : World) (o : Nat), (setO w g o vs).heap.size = w.heap.size
  | [], w, o => rfl
  | v :: vs, w, o => (setO_size vs _ (o + 1)).trans (by simp [World.setCell])
theorem setO_below {g n : Nat} {w0 : World} (hg : n ≤ g) : ∀ (vs : List Value) {w : World} (o : Nat), Below n w0 w → Below n w0 (setO w g o vs)
  | [], w, o, h => h
  | v :: vs, w, o, h => setO_below hg vs (o + 1) (h.setCell (p := ⟨g, o, none⟩) hg v)
theorem setO_row {g : Nat} {t : TypeId} : ∀ (vs : List Value) {w : World} (o : Nat), (∃ cur, w.heap[g]? = some (.cells cur t (0, 0))) → ∃ cur, (setO w g o vs).heap[g]? = some (.cells cur t (0, 0))
  | [], w, o, h => h
  | v :: vs, w, o, ⟨cur, h⟩ => setO_row vs (o + 1) ⟨_, heap_setCell_same _ _ _ _ _ _ h⟩
theorem setO_out {g j : Nat} {u : Value} : ∀ (vs : List Value) {w : World} (o : Nat), (j < o ∨ o + vs.length ≤ j) → w.cell? ⟨g, j, none⟩ = some u → (setO w g o vs).cell? ⟨g, j, none⟩ = some u
  | [], w, o, _, h => h
  | v :: vs, w, o, hj, h => by
    refine setO_out vs (o + 1) (by simp only [List.length_cons] at hj; omega) ?_
    rw [cell_set (j := o) (v := v) h, if_neg (by simp only [List.length_cons] at hj; omega)]
theorem setO_in {g : Nat} : ∀ (vs : List Value) {w : World} (o : Nat), (∀ j, j < vs.length → ∃ u, w.cell? ⟨g, o + j, none⟩ = some u) → CellsAt (setO w g o vs) g o vs
  | [], w, o, _ => fun j v h => by simp at h
  | v :: vs, w, o, hc => fun j u hj => by
    cases j with
    | zero =>
      simp at hj
      subst hj
      obtain ⟨u0, hu⟩ := hc 0 (by simp)
      have h1 := cell_set (j := o) (v := v) hu
      rw [Nat.add_zero, if_pos rfl] at h1
      exact setO_out vs (o + 1) (.inl (by omega)) h1
    | succ j =>
      have := setO_in vs (w := w.setCell ⟨g, o, none⟩ v) (o + 1) (fun q hq => by
        obtain ⟨u1, hu⟩ := hc (q + 1) (by simpa using hq)
        have h1 := cell_set (j := o) (v := v) hu
        rw [if_neg (by omega)] at h1
        exact ⟨u1, by rw [show o + 1 + q = o + (q + 1) from by omega]; exact h1⟩) j u (by simpa using hj)
      rw [show o + (j + 1) = o + 1 + j from by omega]
      exact this
/-- a slice of structs that reads as ms -/
def LsAt (e : TyI) (w : World) (a : Option Addr) (ms : List e.den) : Prop :=
  ms = [] ∨ ∃ bk off, a = some ⟨bk, off, none⟩ ∧ bk < w.heap.size ∧ ∀ i, i < ms.length → ∃ ci, CellsAt w bk (off + i * e.wide) ci ∧ e.rep w ci (ms.getD i e.dflt)
theorem LsAt.keep {e : TyI} {w w1 : World} {a : Option Addr} {ms : List e.den} (h : LsAt e w a ms) (hb : Below w.heap.size w w1) : LsAt e w1 a ms := by
  rcases h with h | ⟨bk, off, ha, hl, hc⟩
  · exact .inl h
  · refine .inr ⟨bk, off, ha, Nat.lt_of_lt_of_le hl hb.size, fun i hi => ?_⟩
    obtain ⟨ci, c1, c2⟩ := hc i hi
    exact ⟨ci, c1.block (hb.block bk hl), e.rep_keep c2 hb⟩
theorem LsAt.keepB {e : TyI} {w w1 : World} {a : Option Addr} {ms : List e.den} {B : Nat} (h : LsAt e w a ms) (hb : Below B w w1) (hB : w.heap.size ≤ B) : LsAt e w1 a ms := h.keep (hb.mono hB)
theorem lsAt_form {e : TyI} {w : World} {a : Option Addr} {ms : List e.den} (h : LsAt e w a ms) (hz : 0 < ms.length) : ∃ bk off, a = some ⟨bk, off, none⟩ := by
  rcases h with rfl | ⟨b', o', h, _⟩
  · simp at hz
  · exact ⟨b', o', h⟩
theorem lsAt_cell {e : TyI} {w : World} {bk off : Nat} {ms : List e.den} (h : LsAt e w (some ⟨bk, off, none⟩) ms) {i : Nat} (hi : i < ms.length) : bk < w.heap.size ∧ ∃ ci, CellsAt w bk (off + i * e.wide) ci ∧ e.rep w ci (ms.getD i e.dflt) := by
  rcases h with rfl | ⟨b', o', h, hl, hc⟩
  · simp at hi
  · simp at h; obtain ⟨rfl, rfl⟩ := h; exact ⟨hl, hc i hi⟩
/-- the nine cells of a message -/
theorem CellsAt.m9 {w : World} {b o : Nat} {m : Mg} {s : Value} (h : CellsAt w b o (mgV m s)) : w.cell? ⟨b, o, none⟩ = some (.int .i64 m.x0) ∧ w.cell? ⟨b, o + 1, none⟩ = some (.int .i64 m.x1) ∧ w.cell? ⟨b, o + 2, none⟩ = some (.int .i64 m.x2) ∧ w.cell? ⟨b, o + 3, none⟩ = some (.int .i64 m.x3) ∧ w.cell? ⟨b, o + 4, none⟩ = some (.int .i64 m.x4) ∧ w.cell? ⟨b, o + 5, none⟩ = some (.int .i64 m.x5) ∧ w.cell? ⟨b, o + 6, none⟩ = some (.int .i64 m.x6) ∧ w.cell? ⟨b, o + 7, none⟩ = some (.int .i64 m.x7) ∧ w.cell? ⟨b, o + 8, none⟩ = some s :=
  ⟨h 0 _ rfl, h 1 _ rfl, h 2 _ rfl, h 3 _ rfl, h 4 _ rfl, h 5 _ rfl, h 6 _ rfl, h 7 _ rfl, h 8 _ rfl⟩
theorem CellsAt.r5 {w : World} {b o : Nat} {m : Rp} (h : CellsAt w b o (rpV m)) : w.cell? ⟨b, o, none⟩ = some (.int .i64 m.x0) ∧ w.cell? ⟨b, o + 1, none⟩ = some (.int .i64 m.x1) ∧ w.cell? ⟨b, o + 2, none⟩ = some (.int .i64 m.x2) ∧ w.cell? ⟨b, o + 3, none⟩ = some (.int .i64 m.x3) ∧ w.cell? ⟨b, o + 4, none⟩ = some (.bool m.b) :=
  ⟨h 0 _ rfl, h 1 _ rfl, h 2 _ rfl, h 3 _ rfl, h 4 _ rfl⟩
/-- a slice of structs of one's own, or an empty one -/
def OwnEs (e : TyI) (t : TypeId) (B T : Nat) (w : World) (a : Option Addr) (n : Nat) (ms : List e.den) : Prop :=
  ms.length = n ∧ n ≤ 1048576 ∧ (ms = [] ∨ ∃ g F cap, a = some ⟨g, 0, none⟩ ∧ F.Nodup ∧ (tySlice t e).own B T w [.slice (some ⟨g, 0, none⟩) ms.length cap] ms F)
theorem OwnEs.at {e : TyI} {t : TypeId} {B T : Nat} {w : World} {a : Option Addr} {n : Nat} {ms : List e.den} (h : OwnEs e t B T w a n ms) : LsAt e w a ms := by
  obtain ⟨h1, h2, h3 | ⟨g, F, cap, ha, hn, ho⟩⟩ := h
  · exact .inl h3
  · obtain ⟨ad, cap', k0, k1, k2, k3, k4⟩ := (tySlice t e).own_rep ho
    simp at k0
    obtain ⟨rfl, rfl⟩ := k0
    rcases k4 with k4 | k4
    · exact .inl k4
    · rw [ha]; exact .inr k4
theorem OwnEs.blocks {e : TyI} {t : TypeId} {B T : Nat} {w w1 : World} {a : Option Addr} {n : Nat} {ms : List e.den} (h : OwnEs e t B T w a n ms) (hb : ∀ k, B ≤ k → k < T → k < w.heap.size → w1.heap[k]? = w.heap[k]?) : OwnEs e t B T w1 a n ms := by
  obtain ⟨h1, h2, h3 | ⟨g, F, cap, ha, hn, ho⟩⟩ := h
  · exact ⟨h1, h2, .inl h3⟩
  · exact ⟨h1, h2, .inr ⟨g, F, cap, ha, hn, (tySlice t e).own_blocks ho (fun k hk => by
      obtain ⟨q1, q2, q3⟩ := (tySlice t e).own_bd ho k hk
      exact hb k q1 q2 q3)⟩⟩
theorem OwnEs.keep {e : TyI} {t : TypeId} {B T : Nat} {w w1 : World} {a : Option Addr} {n : Nat} {ms : List e.den} (h : OwnEs e t B T w a n ms) (hb : Below w.heap.size w w1) : OwnEs e t B T w1 a n ms := h.blocks (fun k _ _ hk => hb.block k hk)
theorem OwnEs.mkd {e : TyI} {t : TypeId} {B T B' T' : Nat} {w w1 : World} {a : Option Addr} {n : Nat} {ms : List e.den} (h : OwnEs e t B T w a n ms) (m : Mk B' T' w w1) (hd : T ≤ B' ∨ T' ≤ B) : OwnEs e t B T w1 a n ms := h.blocks (fun k h1 h2 hk => m.block k hk (by omega))
theorem OwnEs.wide {e : TyI} {t : TypeId} {B T B' T' : Nat} {w : World} {a : Option Addr} {n : Nat} {ms : List e.den} (h : OwnEs e t B T w a n ms) (hB : B' ≤ B) (hT : T ≤ T') : OwnEs e t B' T' w a n ms := by
  obtain ⟨h1, h2, h3 | ⟨g, F, cap, ha, hn, ho⟩⟩ := h
  · exact ⟨h1, h2, .inl h3⟩
  · exact ⟨h1, h2, .inr ⟨g, F, cap, ha, hn, (tySlice t e).own_wide ho hB hT⟩⟩
theorem ownEs_nil (e : TyI) (t : TypeId) (B T : Nat) (w : World) (a : Option Addr) : OwnEs e t B T w a 0 [] := ⟨rfl, by omega, .inl rfl⟩
/-- one element is stored anew, with what it owns in blocks that are new -/
theorem own_put {t : TypeId} {e : TyI} {B : Nat} {w w1 : World} {g cap : Nat} {m : List e.den} {F : List Nat} (h : (tySlice t e).own B w.heap.size w [.slice (some ⟨g, 0, none⟩) m.length cap] m F) (hn : F.Nodup) (hb : Below w.heap.size w w1) {i : Nat} (hi : i < m.length)
    {c1 : List Value} {m1 : e.den} {F1 : List Nat} (ho : e.own w.heap.size w1.heap.size w1 c1 m1 F1) (hn1 : F1.Nodup) :
    ∃ F2, (tySlice t e).own B (setO w1 g (i * e.wide) c1).heap.size (setO w1 g (i * e.wide) c1) [.slice (some ⟨g, 0, none⟩) m.length cap] (List.set m i m1) F2 ∧ F2.Nodup := by
  have hk := (tySlice t e).own_keep h hb
  obtain ⟨ad, cap', h0, h1, h2, h3, h4⟩ := h
  simp at h0
  obtain ⟨rfl, rfl⟩ := h0
  rcases h4 with ⟨h4, _⟩ | ⟨g', cur, Fs, ha, hB, hT, hg, hl, hF, hc⟩
  · rw [h4] at hi; simp at hi
  · simp at ha
    subst ha
    subst hF
    have hiF : i < Fs.length := by omega
    have hnd := List.nodup_cons.1 hn
    have hpw := List.pairwise_flatten.1 hnd.2
    have hBT : B ≤ w.heap.size := by omega
    have hsz := hb.size
    have bd1 := fun k hk => e.own_bd ho k hk
    have hold : ∀ j, j < Fs.length → ∀ k ∈ Fs.getD j [], k < w.heap.size := fun j hj k hkj => by
      obtain ⟨cj, q1, q2⟩ := hc j (by omega)
      exact (e.own_bd q2 k hkj).2.1
    have hsl : (List.set m i m1).length = m.length := List.length_set
    have hgw1 : w1.heap[g]? = some (.cells cur t (0, 0)) := (hb.block g hT).trans hg
    obtain ⟨cur2, hcur2⟩ := setO_row c1 (i * e.wide) (w := w1) ⟨cur, hgw1⟩
    have hlen1 := e.own_len ho
    have exF : ∀ j, j < Fs.length → (Fs.set i F1).getD j [] = if i = j then F1 else Fs.getD j [] := fun j hj => by
      rw [List.getD_eq_getElem?_getD, List.getElem?_set]
      by_cases hij : i = j
      · subst hij; simp [hj]
      · rw [if_neg hij, if_neg hij, List.getD_eq_getElem?_getD]
    have exM : ∀ j, j < m.length → (List.set m i m1).getD j e.dflt = if i = j then m1 else m.getD j e.dflt := fun j hj => by
      rw [List.getD_eq_getElem?_getD, List.getElem?_set]
      by_cases hij : i = j
      · subst hij; simp [hj]
      · rw [if_neg hij, if_neg hij, List.getD_eq_getElem?_getD]
    have gE : ∀ j (hj : j < Fs.length), Fs.getD j [] = Fs[j] := fun j hj => by rw [List.getD_eq_getElem?_getD, List.getElem?_eq_getElem hj]; rfl
    have gS : ∀ j (hj : j < (Fs.set i F1).length), (Fs.set i F1)[j] = if i = j then F1 else Fs.getD j [] := fun j hj => by
      have := exF j (by simpa using hj)
      rw [List.getD_eq_getElem?_getD, List.getElem?_eq_getElem hj] at this
      exact this
    refine ⟨g :: (Fs.set i F1).flatten, ⟨_, cap, by rw [hsl], by rw [hsl]; exact h1, by rw [hsl]; exact h2, h3, .inr ⟨g, cur2, Fs.set i F1, rfl, hB, by rw [setO_size]; omega, hcur2, by rw [List.length_set, hsl]; exact hl, rfl, fun j hj => ?_⟩⟩, ?_⟩
    · rw [hsl] at hj
      rw [exF j (by omega), exM j hj]
      by_cases hij : i = j
      · subst hij
        rw [if_pos rfl, if_pos rfl]
        refine ⟨c1, setO_in c1 (i * e.wide) (fun q hq => ?_), ?_⟩
        · obtain ⟨ci, p1, p2⟩ := hc i hi
          have hci := e.own_len p2
          have hq2 : q < ci.length := by omega
          exact ⟨_, (World.cell?_of_block (w := w) (a := ⟨g, i * e.wide + q, none⟩) (hb.block g hT)).trans (p1 q ci[q] (List.getElem?_eq_getElem hq2))⟩
        · refine e.own_wide (e.own_blocks ho (fun k hk2 => setO_oth ?_ _ _ _)) hBT (by rw [setO_size]; exact Nat.le_refl _)
          have := (bd1 k hk2).1
          omega
      · rw [if_neg hij, if_neg hij]
        obtain ⟨cj, q1, q2⟩ := hc j hj
        have hlenj := e.own_len q2
        refine ⟨cj, fun r v hr => ?_, ?_⟩
        · have hrl : r < e.wide := by have := (List.getElem?_eq_some_iff.1 hr).1; omega
          refine setO_out c1 (i * e.wide) ?_ ((World.cell?_of_block (w := w) (a := ⟨g, j * e.wide + r, none⟩) (hb.block g hT)).trans (q1 r v hr))
          rw [hlen1]
          by_cases hlt : j < i
          · left
            have : (j + 1) * e.wide ≤ i * e.wide := Nat.mul_le_mul_right _ hlt
            rw [Nat.add_mul, Nat.one_mul] at this
            omega
          · right
            have : (i + 1) * e.wide ≤ j * e.wide := Nat.mul_le_mul_right _ (by omega)
            rw [Nat.add_mul, Nat.one_mul] at this
            omega
        · refine e.own_wide (e.own_blocks q2 (fun k hk2 => ?_)) (Nat.le_refl _) (by rw [setO_size]; exact hsz)
          have hkT := (e.own_bd q2 k hk2).2.1
          have hkg : ¬ k = g := fun he => hnd.1 (by rw [← he]; exact flat_mem (by omega) hk2)
          exact (setO_oth hkg _ _ _).trans (hb.block k hkT)
    · refine List.nodup_cons.2 ⟨fun hh => ?_, List.pairwise_flatten.2 ⟨fun l hl2 => ?_, List.pairwise_iff_getElem.2 (fun p q hp hq hpq x hx y hy hxy => ?_)⟩⟩
      · obtain ⟨l, hl1, hl2⟩ := List.mem_flatten.1 hh
        obtain ⟨j, hj, rfl⟩ := List.getElem_of_mem hl1
        rw [gS j hj] at hl2
        by_cases hij : i = j
        · rw [if_pos hij] at hl2
          have := (bd1 g hl2).1
          omega
        · rw [if_neg hij] at hl2
          exact hnd.1 (flat_mem (by simpa using hj) hl2)
      · obtain ⟨j, hj, rfl⟩ := List.getElem_of_mem hl2
        rw [gS j hj]
        by_cases hij : i = j
        · rw [if_pos hij]; exact hn1
        · rw [if_neg hij, gE j (by simpa using hj)]
          exact hpw.1 _ (List.getElem_mem (by simpa using hj))
      · subst hxy
        have hp' : p < Fs.length := by simpa using hp
        have hq' : q < Fs.length := by simpa using hq
        rw [gS p hp] at hx
        rw [gS q hq] at hy
        by_cases hip : i = p
        · rw [if_pos hip] at hx
          rw [if_neg (by omega)] at hy
          have := (bd1 x hx).1
          have := hold q hq' x hy
          omega
        · rw [if_neg hip] at hx
          by_cases hiq : i = q
          · rw [if_pos hiq] at hy
            have := (bd1 x hy).1
            have := hold p hp' x hx
            omega
          · rw [if_neg hiq] at hy
            rw [gE p hp'] at hx
            rw [gE q hq'] at hy
            exact List.pairwise_iff_getElem.1 hpw.2 p q hp' hq' hpq x hx x hy rfl
end Go.Proofs.YtdceimnapbblnaaGreat
