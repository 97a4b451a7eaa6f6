/- The contracts of the program's own functions on a ring: what each answers; nothing old has turned. -/
import Derived.Test.YtejajlloipkkhaaR0
import Derived.Test.YtejajlloipkkhaaL1
namespace Go.Proofs.Ytejajlloipkkhaa
open Go.RowKit
set_option linter.unusedVariables false

theorem RowAt.keepB {w w1 : World} {a : Option Addr} {zs : List Int} {B : Nat} (h : RowAt w a zs) (hb : Below B w w1) (hB : w.heap.size ≤ B) : RowAt w1 a zs := h.keep (hb.mono hB)
theorem RowAt.alloc {w : World} {a : Option Addr} {zs : List Int} (h : RowAt w a zs) (o : Obj) : RowAt (w.alloc o) a zs := h.keep ((Below.refl _ _).alloc (Nat.le_refl _) _)
theorem ret_nat {a b : Nat} (h : a = b) : Ending.returned (.int .i64 (a : Int)) = .returned (.int .i64 (b : Int)) := by rw [h]

set_option maxHeartbeats 800000 in
theorem below_any (a : Option Addr) (cap : Nat) (zs : List Int) (x : Int) (w : World) (hm : zs.length ≤ maxLen) (hr : RowAt w a zs) :
    Calls Try.prog 97 #[.slice a zs.length cap, .int .i64 x] w fun e w' => e = .returned (.int .i64 (blw zs x)) ∧ w' = w := by
  unfold maxLen at hm
  have HR : Hid (RowAt w a zs) := hr
  clear hr
  go_enter Try.func97, Try.ntmps97
  go_wp2_with fail
  go_loop [5] (fun v => ∃ k : Nat, k ≤ zs.length ∧ v = .int .i64 k ∧ Hid (∀ i, i < k → zs.getD i 0 < x)) (fun v => zs.length - (intOf v).toNat)
  case atStart => exact ⟨0, Nat.zero_le _, rfl, fun i hi => by omega⟩
  case round =>
    obtain ⟨k, hk, rfl, hs⟩ := hrel
    by_cases hlt : k < zs.length
    · obtain ⟨bk, off, rfl⟩ := rowAt_form HR.out (by omega)
      have hc1 := (rowAt_cell HR.out (by omega)).2 k hlt
      by_cases hx : zs.getD k 0 < x
      · have hn : Hid (∀ i, i < k + 1 → zs.getD i 0 < x) := fun i hi => by
          by_cases he : i = k
          · subst he; exact hx
          · exact hs.out i (by omega)
        generalize zs.getD k 0 = z at hc1 hx
        go_wp2
        go_round
        case rel => exact ⟨k + 1, by omega, by go_num, hn⟩
        case measure => simp [intOf]; omega
      · have hv : Hid (k = blw zs x) := (blw_eq (by omega) hs.out (fun _ => hx)).symm
        generalize zs.getD k 0 = z at hc1 hx
        go_wp2
        go_ret
        exact ⟨ret_nat hv.out, rfl⟩
    · have hv : Hid (k = blw zs x) := (blw_eq hk hs.out (fun h => absurd h hlt)).symm
      go_wp2
      go_ret
      exact ⟨ret_nat hv.out, rfl⟩

set_option maxHeartbeats 800000 in
theorem isMember_any (a : Option Addr) (cap : Nat) (zs : List Int) (x : Int) (w : World) (hm : zs.length ≤ maxLen) (hr : RowAt w a zs) :
    Calls Try.prog 107 #[.slice a zs.length cap, .int .i64 x] w fun e w' => e = .returned (.bool (memI zs x)) ∧ w' = w := by
  have C := below_any a cap zs x w hm hr
  have hle := blw_le x zs
  unfold maxLen at hm
  have HR : Hid (RowAt w a zs) := hr
  clear hr
  by_cases hlt : blw zs x < zs.length
  · obtain ⟨bk, off, rfl⟩ := rowAt_form HR.out (by omega)
    have hc1 := (rowAt_cell HR.out (by omega)).2 _ hlt
    by_cases he : zs.getD (blw zs x) 0 = x
    · have hv : memI zs x = true := decide_eq_true ⟨hlt, he⟩
      rw [hv]
      have he' : (zs.getD (blw zs x) 0 == x) = true := beq_iff_eq.2 he
      clear hv he
      generalize zs.getD (blw zs x) 0 = z at hc1 he'
      generalize blw zs x = p at *
      go_enter Try.func107, Try.ntmps107
      go_wp2_with (go_at_call 97; refine C.mono ?_; rintro e w1 ⟨rfl, rfl⟩)
      go_ret
      exact ⟨rfl, rfl⟩
    · have hv : memI zs x = false := decide_eq_false (fun g => he g.2)
      rw [hv]
      have he' : (zs.getD (blw zs x) 0 == x) = false := by simp only [beq_eq_false_iff_ne, ne_eq]; exact he
      clear hv he
      generalize zs.getD (blw zs x) 0 = z at hc1 he'
      generalize blw zs x = p at *
      go_enter Try.func107, Try.ntmps107
      go_wp2_with (go_at_call 97; refine C.mono ?_; rintro e w1 ⟨rfl, rfl⟩)
      go_ret
      exact ⟨rfl, rfl⟩
  · have hv : memI zs x = false := decide_eq_false (fun g => hlt g.1)
    rw [hv]
    clear hv
    generalize blw zs x = p at *
    go_enter Try.func107, Try.ntmps107
    go_wp2_with (go_at_call 97; refine C.mono ?_; rintro e w1 ⟨rfl, rfl⟩)
    go_ret
    exact ⟨rfl, rfl⟩

set_option maxHeartbeats 800000 in
theorem upTo_any (a : Option Addr) (cap : Nat) (zs : List Int) (x : Int) (w : World) (hm : zs.length ≤ maxLen) (hr : RowAt w a zs) :
    Calls Try.prog 129 #[.slice a zs.length cap, .int .i64 x] w fun e w' => e = .returned (.int .i64 (uptI zs x)) ∧ w' = w := by
  have C := below_any a cap zs x w hm hr
  have C2 := isMember_any a cap zs x w hm hr
  have hle := blw_le x zs
  unfold maxLen at hm
  clear hr
  cases hv : memI zs x
  · have hu : uptI zs x = blw zs x := by unfold uptI; rw [hv]; rfl
    rw [hu]
    rw [hv] at C2
    clear hv hu
    generalize blw zs x = p at *
    go_enter Try.func129, Try.ntmps129
    go_wp2_with (first | (go_at_call 97; refine C.mono ?_; rintro e w1 ⟨rfl, rfl⟩) | (go_at_call 107; refine C2.mono ?_; rintro e w1 ⟨rfl, rfl⟩))
    go_ret
    exact ⟨rfl, rfl⟩
  · have hu : uptI zs x = blw zs x + 1 := by unfold uptI; rw [hv]; rfl
    have hlt : blw zs x < zs.length := (of_decide_eq_true hv).1
    rw [hu]
    rw [hv] at C2
    clear hv hu
    generalize blw zs x = p at *
    go_enter Try.func129, Try.ntmps129
    go_wp2_with (first | (go_at_call 97; refine C.mono ?_; rintro e w1 ⟨rfl, rfl⟩) | (go_at_call 107; refine C2.mono ?_; rintro e w1 ⟨rfl, rfl⟩))
    go_ret
    exact ⟨by first | rfl | exact ret_int (by omega), rfl⟩

theorem natmod (u n : Nat) : ((u : Int) % (n : Int)) = ((u % n : Nat) : Int) := by simp
theorem nattmod (u n : Nat) : (u : Int).tmod (n : Int) = ((u % n : Nat) : Int) := by rw [Int.tmod_eq_emod_of_nonneg (by omega)]; simp

set_option maxHeartbeats 800000 in
theorem ownerIn_any (a : Option Addr) (cap : Nat) (zs : List Int) (x : Int) (w : World) (h1 : 1 ≤ zs.length) (h2 : zs.length ≤ 16) (hr : RowAt w a zs) :
    Calls Try.prog 60 #[.slice a zs.length cap, .int .i64 x] w fun e w' => e = .returned (.int .i64 (ownI zs x)) ∧ w' = w := by
  have C := below_any a cap zs x w (by unfold maxLen; omega) hr
  have hle := blw_le x zs
  obtain ⟨bk, off, rfl⟩ := rowAt_form hr (by omega)
  have hlt : blw zs x % zs.length < zs.length := Nat.mod_lt _ (by omega)
  have hc1 := (rowAt_cell hr (by omega)).2 _ hlt
  clear hr
  unfold ownI
  have hq := natmod (blw zs x) zs.length
  have hq' := nattmod (blw zs x) zs.length
  generalize zs.getD (blw zs x % zs.length) 0 = z at hc1
  generalize blw zs x % zs.length = q at *
  generalize blw zs x = p at *
  go_enter Try.func60, Try.ntmps60
  go_wp2_with (go_at_call 97; refine C.mono ?_; rintro e w1 ⟨rfl, rfl⟩)
  go_ret
  exact ⟨rfl, rfl⟩

set_option maxHeartbeats 800000 in
theorem nextIn_any (a : Option Addr) (cap : Nat) (zs : List Int) (x : Int) (w : World) (h1 : 1 ≤ zs.length) (h2 : zs.length ≤ 16) (hr : RowAt w a zs) :
    Calls Try.prog 120 #[.slice a zs.length cap, .int .i64 x] w fun e w' => e = .returned (.int .i64 (nxtI zs x)) ∧ w' = w := by
  have C := upTo_any a cap zs x w (by unfold maxLen; omega) hr
  have hle := upt_le zs x
  obtain ⟨bk, off, rfl⟩ := rowAt_form hr (by omega)
  have hlt : uptI zs x % zs.length < zs.length := Nat.mod_lt _ (by omega)
  have hc1 := (rowAt_cell hr (by omega)).2 _ hlt
  clear hr
  unfold nxtI
  have hq := natmod (uptI zs x) zs.length
  have hq' := nattmod (uptI zs x) zs.length
  generalize zs.getD (uptI zs x % zs.length) 0 = z at hc1
  generalize uptI zs x % zs.length = q at *
  generalize uptI zs x = p at *
  go_enter Try.func120, Try.ntmps120
  go_wp2_with (go_at_call 129; refine C.mono ?_; rintro e w1 ⟨rfl, rfl⟩)
  go_ret
  exact ⟨rfl, rfl⟩

set_option maxHeartbeats 800000 in
theorem roundUp_any (b d x y : Int) (w : World) (hb1 : 1 ≤ b) (hb2 : b ≤ 12) (h1 : 0 ≤ x) (h2 : x < sz b) (h3 : 0 ≤ y) (h4 : y < sz b) :
    Calls Try.prog 111 #[.agg #[.int .i64 b, .int .i64 d], .int .i64 x, .int .i64 y] w fun e w' => e = .returned (.int .i64 (rnd b x y)) ∧ Below w.heap.size w w' := by
  unfold rnd
  by_cases he : x = y
  · rw [if_pos he]
    have he' : (x == y) = true := beq_iff_eq.2 he
    clear he
    go_enter Try.func111, Try.ntmps111
    go_wp2_with (go_at_call 82; refine (size_any _ _ _ hb1 hb2).mono ?_; rintro e w1 ⟨rfl, hw1⟩)
    go_ret
    exact ⟨rfl, bel1 hw1 (by simp; try omega)⟩
  · rw [if_neg he]
    have he' : (x == y) = false := by simp only [beq_eq_false_iff_ne, ne_eq]; exact he
    clear he
    go_enter Try.func111, Try.ntmps111
    go_wp2_with (go_at_call 113; refine (distUp_any _ _ _ _ _ hb1 hb2 h1 h2 h3 h4).mono ?_; rintro e w1 ⟨rfl, hw1⟩)
    go_ret
    exact ⟨rfl, bel1 hw1 (by simp; try omega)⟩

set_option maxHeartbeats 1600000 in
theorem GoodRing_any (b d : Int) (a : Option Addr) (cap : Nat) (zs : List Int) (w : World) (hm : zs.length ≤ maxLen) (hr : RowAt w a zs) :
    Calls Try.prog 58 #[.agg #[.int .i64 b, .int .i64 d], .slice a zs.length cap] w fun e w' => e = .returned (.bool (ringB b d zs)) ∧ Below w.heap.size w w' := by
  have HR : Hid (RowAt w a zs) := hr
  clear hr
  by_cases hl : 1 ≤ zs.length ∧ zs.length ≤ 16
  · obtain ⟨l1, l2⟩ := hl
    clear hm
    go_enter Try.func58, Try.ntmps58
    go_wp2_with fail
    go_loopw [17] (fun v wr => ∃ k : Nat, k ≤ zs.length ∧ v = .int .i64 k ∧ Hid (∀ i, i < k → numB b d (zs.getD i 0) = true ∧ (0 < i → zs.getD (i - 1) 0 < zs.getD i 0)) ∧ Below (w.heap.size + 1) (w.alloc (.cells #[.int .i64 b, .int .i64 d] 25)) wr) (fun v _ => zs.length - (intOf v).toNat)
    case atStart => exact ⟨0, Nat.zero_le _, rfl, fun i hi => by omega, Below.refl _ _⟩
    case round =>
      obtain ⟨k, hk, rfl, hs, hbel⟩ := hrel
      have q0 : wr.cell? ⟨w.heap.size, 0, none⟩ = some (.int .i64 b) := (hbel.cell (p := ⟨w.heap.size, 0, none⟩) (by simp)).trans (by simp)
      have q1 : wr.cell? ⟨w.heap.size, 1, none⟩ = some (.int .i64 d) := (hbel.cell (p := ⟨w.heap.size, 1, none⟩) (by simp)).trans (by simp)
      have hsz : w.heap.size < wr.heap.size := by have := hbel.size; simp at this; omega
      have HB : Hid (Below w.heap.size w wr) := bel1 hbel (by simp)
      by_cases hlt : k < zs.length
      · obtain ⟨bk, off, rfl⟩ := rowAt_form HR.out (by omega)
        have hR : Hid (RowAt wr (some ⟨bk, off, none⟩) zs) := HR.out.keep HB.out
        have hc1 := (rowAt_cell hR.out (by omega)).2 k hlt
        have hlb := (rowAt_cell hR.out (by omega)).1
        cases hn : numB b d (zs.getD k 0)
        · have hv : Hid (ringB b d zs = false) := ringB_no hlt (fun g => by rw [hn] at g; cases g.1)
          generalize zs.getD k 0 = z at hc1 hn
          go_wp2_with (go_at_call 59; refine (isNumber_any _ _ _ _).mono ?_; rintro e w1 ⟨rfl, hw1⟩)
          go_ret
          exact ⟨ret_bool hv.out.symm, belt HB.out hw1⟩
        · by_cases h0 : 0 < k
          · have hc2 := (rowAt_cell hR.out (by omega)).2 (k - 1) (by omega)
            by_cases hx : zs.getD (k - 1) 0 < zs.getD k 0
            · have hn2 : Hid (∀ i, i < k + 1 → numB b d (zs.getD i 0) = true ∧ (0 < i → zs.getD (i - 1) 0 < zs.getD i 0)) := fun i hi => by
                by_cases he : i = k
                · subst he; exact ⟨hn, fun _ => hx⟩
                · exact hs.out i (by omega)
              generalize zs.getD k 0 = z at hc1 hn hx
              generalize zs.getD (k - 1) 0 = y at hc2 hx
              go_wp2_with (go_at_call 59; refine (isNumber_any _ _ _ _).mono ?_; rintro e w1 ⟨rfl, hw1⟩; have hc3 := (hw1.cell (p := ⟨bk, off + (k - 1), none⟩) hlb).trans hc2; have hbel1 := hbel.trans (hw1.mono (by omega)))
              go_roundw
              case rel => exact ⟨k + 1, by omega, by go_num, hn2, hbel1⟩
              case measure => simp [intOf]; omega
            · have hv : Hid (ringB b d zs = false) := ringB_no hlt (fun g => hx (g.2 h0))
              generalize zs.getD k 0 = z at hc1 hn hx
              generalize zs.getD (k - 1) 0 = y at hc2 hx
              go_wp2_with (go_at_call 59; refine (isNumber_any _ _ _ _).mono ?_; rintro e w1 ⟨rfl, hw1⟩; have hc3 := (hw1.cell (p := ⟨bk, off + (k - 1), none⟩) hlb).trans hc2)
              go_ret
              exact ⟨ret_bool hv.out.symm, belt HB.out hw1⟩
          · have hn2 : Hid (∀ i, i < k + 1 → numB b d (zs.getD i 0) = true ∧ (0 < i → zs.getD (i - 1) 0 < zs.getD i 0)) := fun i hi => by
              obtain rfl : i = k := by omega
              exact ⟨hn, fun h => by omega⟩
            generalize zs.getD k 0 = z at hc1 hn
            go_wp2_with (go_at_call 59; refine (isNumber_any _ _ _ _).mono ?_; rintro e w1 ⟨rfl, hw1⟩; have hbel1 := hbel.trans (hw1.mono (by omega)))
            go_roundw
            case rel => exact ⟨k + 1, by omega, by go_num, hn2, hbel1⟩
            case measure => simp [intOf]; omega
      · have hv : Hid (ringB b d zs = true) := ringB_yes l1 l2 (fun i hi => hs.out i (by omega))
        go_wp2
        go_ret
        exact ⟨ret_bool hv.out.symm, HB.out⟩
  · rw [ringB_len hl]
    unfold maxLen at hm
    by_cases h1 : zs.length < 1
    · go_enter Try.func58, Try.ntmps58
      go_wp2
      go_ret
      exact ⟨rfl, (Below.refl _ _).alloc (Nat.le_refl _) _⟩
    · have h2 : 16 < zs.length := by omega
      go_enter Try.func58, Try.ntmps58
      go_wp2
      go_ret
      exact ⟨rfl, (Below.refl _ _).alloc (Nat.le_refl _) _⟩
end Go.Proofs.Ytejajlloipkkhaa
