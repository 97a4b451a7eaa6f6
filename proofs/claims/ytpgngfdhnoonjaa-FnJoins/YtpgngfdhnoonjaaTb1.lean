/- A key's row in a table, and what is got of it, by the specification; isVal, isRow, GoodTable of the program. -/
import Derived.Test.YtpgngfdhnoonjaaTb0
import Derived.Test.YtpgngfdhnoonjaaF4
namespace Go.Proofs.Ytpgngfdhnoonjaa.Tb
open Go.RowKit Wire Go.Deep
set_option linter.unusedVariables false
set_option linter.unusedSimpArgs false
theorem lGoodTable_any (b d : Int) (a : Option Addr) (cap : Nat) (ms : List Rw) (w : World) (hm : ms.length ≤ maxLen) (hr : LsAt tyRw w a ms) :
    Calls Try.prog 19 #[.agg #[.int .i64 b, .int .i64 d], .slice a ms.length cap] w fun e w' => e = .returned (.bool (goodT b d ms)) ∧ Below w.heap.size w w' := by
  go_enter Try.func19, Try.ntmps19
  go_wp2_with fail
  refine (lTable_any b d a cap ms _ hm (hr.keep (belA _ _))).mono ?_
  rintro e w1 ⟨rfl, HW⟩
  go_wp2
  go_ret
  exact ⟨rfl, belt (belA _ _) HW⟩
/-- the place of a key's row -/
def atK (ms : List Rw) (key : Int) : Nat := ms.findIdx (fun r => !decide (r.x0 < key))
def hasK (ms : List Rw) (key : Int) : Bool := decide (atK ms key < ms.length ∧ (ms.getD (atK ms key) rw0).x0 = key)
theorem atK_eq {ms : List Rw} {key : Int} {k : Nat} (hk : k ≤ ms.length) (h : ∀ i, i < k → (ms.getD i rw0).x0 < key) (he : k < ms.length → ¬ (ms.getD k rw0).x0 < key) : atK ms key = k := by
  unfold atK
  have gd : ∀ i (hi : i < ms.length), ms[i] = ms.getD i rw0 := fun i hi => by rw [List.getD_eq_getElem?_getD, List.getElem?_eq_getElem hi]; rfl
  by_cases hlt : k < ms.length
  · rw [List.findIdx_eq hlt]
    refine ⟨by rw [gd k hlt, decide_eq_false (he hlt)]; rfl, fun i hi => ?_⟩
    rw [gd i (by omega), decide_eq_true (h i hi)]
    rfl
  · have hke : k = ms.length := by omega
    subst hke
    rw [List.findIdx_eq_length]
    intro x hx
    obtain ⟨i, hi, rfl⟩ := List.getElem_of_mem hx
    rw [gd i hi, decide_eq_true (h i hi)]
    rfl
theorem atK_le (ms : List Rw) (key : Int) : atK ms key ≤ ms.length := List.findIdx_le_length
set_option maxHeartbeats 1600000 in
theorem lAt_any (a : Option Addr) (cap n : Nat) (ms : List Rw) (key : Int) (w : World) (hn : ms.length = n) (hm : n ≤ maxLen) (hr : LsAt tyRw w a ms) :
    Calls Try.prog 59 #[.slice a n cap, .int .i64 key] w fun e w' => e = .returned (.tuple #[.int .i64 (atK ms key : Int), .bool (hasK ms key)]) ∧ Below w.heap.size w w' := by
  subst hn
  unfold maxLen at hm
  have HR : Hid (LsAt tyRw w a ms) := hr
  clear hr
  go_enter Try.func59, Try.ntmps59
  go_wp2_with fail
  go_loop [6] (fun v => ∃ k : Nat, k ≤ ms.length ∧ v = .int .i64 k ∧ Hid (∀ i, i < k → (ms.getD i rw0).x0 < key)) (fun v => ms.length - (intOf v).toNat)
  case atStart => exact ⟨0, Nat.zero_le _, rfl, fun i hi => by omega⟩
  case round =>
    obtain ⟨k, hk, rfl, HS⟩ := hrel
    by_cases hlt : k < ms.length
    · obtain ⟨bk, off, rfl⟩ := lsAt_form HR.out (by show 0 < ms.length; omega)
      obtain ⟨hb1, hc⟩ := rwAt_cell HR.out hlt
      obtain ⟨c0, c1, c2, c3⟩ := CellsAt.rw hc
      clear hc c1 c2 c3
      have hkd : decide (k < ms.length) = true := decide_eq_true hlt
      by_cases hx : (ms.getD k rw0).x0 < key
      · have HN : Hid (∀ i, i < k + 1 → (ms.getD i rw0).x0 < key) := fun i hi => by
          by_cases he : i = k
          · subst he; exact hx
          · exact HS.out i (by omega)
        have hd : decide ((ms.getD k rw0).x0 < key) = true := decide_eq_true hx
        clear hx
        generalize (ms.getD k rw0).x0 = z at c0 hd
        go_wp2
        go_round
        case rel => exact ⟨k + 1, by omega, by go_num, HN⟩
        case measure => simp [intOf]; omega
      · have HA : Hid (atK ms key = k) := atK_eq hk HS.out (fun _ => hx)
        have HH : Hid (hasK ms key = decide ((ms.getD k rw0).x0 = key)) := by
          unfold Hid hasK
          rw [HA.out]
          exact decide_eq_decide.2 ⟨fun h => h.2, fun h => ⟨hlt, h⟩⟩
        have hd : decide ((ms.getD k rw0).x0 < key) = false := decide_eq_false hx
        have hb2 : bk < w.heap.size := hb1
        clear hx hb1
        generalize (ms.getD k rw0).x0 = z at c0 hd HH
        by_cases hz : z = key
        · have hzb : (z == key) = true := by simpa using hz
          have HV : Hid (hasK ms key = true) := by unfold Hid; rw [HH.out]; exact decide_eq_true hz
          clear hz
          go_wp2
          go_quiet (fail)
          go_wp2
          go_ret2
          exact ⟨ret_2 (by rw [HA.out]; rfl) (by rw [HV.out]; rfl), below_drewN (Below.refl _ _) _⟩
        · have hzb : (z == key) = false := by simpa using hz
          have HV : Hid (hasK ms key = false) := by unfold Hid; rw [HH.out]; exact decide_eq_false hz
          clear hz
          go_wp2
          go_quiet (fail)
          go_wp2
          go_ret2
          exact ⟨ret_2 (by rw [HA.out]; rfl) (by rw [HV.out]; rfl), below_drewN (Below.refl _ _) _⟩
    · have hke : k = ms.length := by omega
      subst hke
      have HA : Hid (atK ms key = ms.length) := atK_eq hk HS.out (fun h => absurd h hlt)
      have HV : Hid (hasK ms key = false) := decide_eq_false (fun h => by have := HA.out; omega)
      have hkd : decide (ms.length < ms.length) = false := decide_eq_false (by omega)
      go_wp2
      go_quiet (fail)
      go_wp2
      go_ret2
      exact ⟨ret_2 (by rw [HA.out]; rfl) (by rw [HV.out]; rfl), below_drewN (Below.refl _ _) _⟩
/-- the boxes of a space and of a row -/
structure B2 (w wr : World) (A R : Array Value) : Prop where
  bel : Below w.heap.size w wr
  ka : Wire.Bk wr w.heap.size A 25
  kr : Wire.Bk wr (w.heap.size + 1) R 37
theorem B2.keep {w wr w1 : World} {A R : Array Value} (h : B2 w wr A R) (hb : Below wr.heap.size wr w1) : B2 w w1 A R := ⟨belt h.bel hb, h.ka.keep hb, h.kr.keep hb⟩
theorem b20 (w : World) (A R : Array Value) : B2 w ((w.alloc (.cells A 25)).alloc (.cells R 37)) A R := by
  refine ⟨((Below.refl _ _).alloc (Nat.le_refl _) _).alloc (by simp) _, (Wire.Bk.new w A 25).alloc _, ?_⟩
  have := Wire.Bk.new (w.alloc (.cells A 25)) R 37
  simpa using this
theorem B2.put {w wr : World} {A R : Array Value} (h : B2 w wr A R) (i : Nat) (vs : List Value) : B2 w (Wire.setL wr (w.heap.size + 1) i vs) A (Wire.ovr R i vs) :=
  ⟨setL_below (by omega) vs i h.bel, (Wire.setL_oth (by omega) vs wr i).trans h.ka, Wire.Bk.setL vs i h.kr⟩
theorem ovr4 (z0 z1 z2 z3 v0 v1 v2 v3 : Value) : Wire.ovr #[z0, z1, z2, z3] 0 [v0, v1, v2, v3] = #[v0, v1, v2, v3] := by simp [Wire.ovr]
def rfB (b d : Int) (ms : List Rw) (key : Int) : Bool := goodT b d ms && hasK ms key
def rfV (b d : Int) (ms : List Rw) (key : Int) : Rw := if rfB b d ms key = true then ms.getD (atK ms key) rw0 else rw0
def rwA (r : Rw) : Value := .agg #[.int .i64 r.x0, .int .i64 r.x1, .int .i64 r.x2, .bool r.b]
theorem rfV_no {b d : Int} {ms : List Rw} {key : Int} (h : rfB b d ms key = false) : rfV b d ms key = rw0 := by unfold rfV; rw [h]; rfl
theorem rfV_yes {b d : Int} {ms : List Rw} {key : Int} (h : rfB b d ms key = true) : rfV b d ms key = ms.getD (atK ms key) rw0 := by unfold rfV; rw [h]; rfl
set_option maxHeartbeats 3200000 in
theorem lRowFor_any (b d : Int) (a : Option Addr) (cap n : Nat) (ms : List Rw) (key : Int) (w : World) (hn : ms.length = n) (hm : n ≤ maxLen) (hr : LsAt tyRw w a ms) :
    Calls Try.prog 26 #[.agg #[.int .i64 b, .int .i64 d], .slice a n cap, .int .i64 key] w fun e w' => e = .returned (.tuple #[rwA (rfV b d ms key), .bool (rfB b d ms key)]) ∧ Below w.heap.size w w' := by
  subst hn
  have HR : Hid (LsAt tyRw w a ms) := hr
  have hm' := hm
  unfold maxLen at hm
  have N0 : Hid (B2 w ((w.alloc (.cells #[.int .i64 b, .int .i64 d] 25)).alloc (.cells #[.int .i64 0, .int .i64 0, .int .i64 0, .bool false] 37)) #[.int .i64 b, .int .i64 d] #[.int .i64 0, .int .i64 0, .int .i64 0, .bool false]) := b20 w _ _
  have CT := lTable_any b d a cap ms _ hm' (hr.keep N0.out.bel)
  clear hr
  cases hg : goodT b d ms
  · have HV : Hid (rfB b d ms key = false) := by unfold Hid rfB; rw [hg]; rfl
    rw [rfV_no HV.out, HV.out]
    rw [hg] at CT
    clear hg
    go_enter Try.func26, Try.ntmps26
    go_wp2_with fail
    refine CT.mono ?_
    rintro e w1 ⟨rfl, HW⟩
    have N1 := N0.out.keep HW
    clear CT N0
    obtain ⟨r0, r1, r2, r3⟩ := Wire.Bk.c4 N1.kr
    obtain ⟨s0, s1, s2, s3⟩ := Wire.Bk.f4 N1.kr
    have N2 := N1.put 0 [.int .i64 0, .int .i64 0, .int .i64 0, .bool false]
    rw [ovr4] at N2
    have HN2 : Hid (B2 w (Wire.setL w1 (w.heap.size + 1) 0 [.int .i64 0, .int .i64 0, .int .i64 0, .bool false]) #[.int .i64 b, .int .i64 d] #[.int .i64 0, .int .i64 0, .int .i64 0, .bool false]) := N2
    clear N1 N2
    go_wp2
    exact bodyPost_ret (Wire.results_cell_tmp Try.results26 _ _ (w.heap.size + 1) _ _ _ _ _ rfl rfl HN2.out.kr Try.underlying37 rfl (by kernel_rfl)) rfl ⟨rfl, HN2.out.bel⟩
  · have HG : Hid (goodT b d ms = true) := hg
    rw [hg] at CT
    clear hg
    cases hh : hasK ms key
    · have HV : Hid (rfB b d ms key = false) := by unfold Hid rfB; rw [hh]; simp
      have HH : Hid (hasK ms key = false) := hh
      rw [rfV_no HV.out, HV.out]
      clear hh
      go_enter Try.func26, Try.ntmps26
      go_wp2_with fail
      refine CT.mono ?_
      rintro e w1 ⟨rfl, HW⟩
      have N1 : Hid (B2 w w1 #[.int .i64 b, .int .i64 d] #[.int .i64 0, .int .i64 0, .int .i64 0, .bool false]) := N0.out.keep HW
      clear CT N0 HW
      go_wp2_with fail
      refine (lAt_any a cap ms.length ms key _ rfl hm' (HR.out.keep N1.out.bel)).mono ?_
      rintro e w2 ⟨rfl, HW⟩
      rw [HH.out]
      have N2 := N1.out.keep HW
      clear N1 HW
      obtain ⟨r0, r1, r2, r3⟩ := Wire.Bk.c4 N2.kr
      obtain ⟨s0, s1, s2, s3⟩ := Wire.Bk.f4 N2.kr
      have N3 := N2.put 0 [.int .i64 0, .int .i64 0, .int .i64 0, .bool false]
      rw [ovr4] at N3
      have HN3 : Hid (B2 w (Wire.setL w2 (w.heap.size + 1) 0 [.int .i64 0, .int .i64 0, .int .i64 0, .bool false]) #[.int .i64 b, .int .i64 d] #[.int .i64 0, .int .i64 0, .int .i64 0, .bool false]) := N3
      clear N2 N3
      generalize (atK ms key : Int) = kk
      go_wp2
      exact bodyPost_ret (Wire.results_cell_tmp Try.results26 _ _ (w.heap.size + 1) _ _ _ _ _ rfl rfl HN3.out.kr Try.underlying37 rfl (by kernel_rfl)) rfl ⟨rfl, HN3.out.bel⟩
    · have HV : Hid (rfB b d ms key = true) := by unfold Hid rfB; rw [hh, HG.out]; rfl
      have HH : Hid (hasK ms key = true) := hh
      rw [rfV_yes HV.out, HV.out]
      have hka : atK ms key < ms.length := (of_decide_eq_true hh).1
      clear hh
      go_enter Try.func26, Try.ntmps26
      go_wp2_with fail
      refine CT.mono ?_
      rintro e w1 ⟨rfl, HW⟩
      have N1 : Hid (B2 w w1 #[.int .i64 b, .int .i64 d] #[.int .i64 0, .int .i64 0, .int .i64 0, .bool false]) := N0.out.keep HW
      clear CT N0 HW
      go_wp2_with fail
      refine (lAt_any a cap ms.length ms key _ rfl hm' (HR.out.keep N1.out.bel)).mono ?_
      rintro e w2 ⟨rfl, HW⟩
      rw [HH.out]
      have N2 := N1.out.keep HW
      clear N1 HW
      obtain ⟨bk, off, rfl⟩ := lsAt_form HR.out (by show 0 < ms.length; omega)
      obtain ⟨hb1, hc⟩ := rwAt_cell (HR.out.keep N2.bel) hka
      obtain ⟨c0, c1, c2, c3⟩ := CellsAt.rw hc
      clear hc
      obtain ⟨r, hre⟩ : ∃ r, r = ms.getD (atK ms key) rw0 := ⟨_, rfl⟩
      have HRE : Hid (r = ms.getD (atK ms key) rw0) := hre
      rw [← hre] at c0 c1 c2 c3
      clear hre
      obtain ⟨x0, x1, x2, g⟩ := r
      obtain ⟨r0, r1, r2, r3⟩ := Wire.Bk.c4 N2.kr
      obtain ⟨s0, s1, s2, s3⟩ := Wire.Bk.f4 N2.kr
      have N3 := N2.put 0 [.int .i64 x0, .int .i64 x1, .int .i64 x2, .bool g]
      rw [ovr4] at N3
      have HN3 : Hid (B2 w (Wire.setL w2 (w.heap.size + 1) 0 [.int .i64 x0, .int .i64 x1, .int .i64 x2, .bool g]) #[.int .i64 b, .int .i64 d] #[.int .i64 x0, .int .i64 x1, .int .i64 x2, .bool g]) := N3
      clear N2 N3 HV HH HG
      go_wp2
      exact bodyPost_ret (Wire.results_cell_tmp Try.results26 _ _ (w.heap.size + 1) _ _ _ _ _ rfl rfl HN3.out.kr Try.underlying37 rfl (by kernel_rfl)) rfl ⟨by rw [← HRE.out]; rfl, HN3.out.bel⟩
def gtB (b d : Int) (ms : List Rw) (key : Int) : Bool := rfB b d ms key && !(rfV b d ms key).b
def gtV (b d : Int) (ms : List Rw) (key : Int) : Int := if gtB b d ms key = true then (rfV b d ms key).x2 else 0
set_option maxHeartbeats 3200000 in
theorem lGetRow_any (b d : Int) (a : Option Addr) (cap n : Nat) (ms : List Rw) (key : Int) (w : World) (hn : ms.length = n) (hm : n ≤ maxLen) (hr : LsAt tyRw w a ms) :
    Calls Try.prog 24 #[.agg #[.int .i64 b, .int .i64 d], .slice a n cap, .int .i64 key] w fun e w' => e = .returned (.tuple #[.int .i64 (gtV b d ms key), .bool (gtB b d ms key)]) ∧ Below w.heap.size w w' := by
  have C := lRowFor_any b d a cap n ms key _ hn hm (hr.keep (belA w (.cells #[.int .i64 b, .int .i64 d] 25)))
  have HG : Hid (gtB b d ms key = (rfB b d ms key && !(rfV b d ms key).b)) := rfl
  have HV : Hid (gtV b d ms key = if gtB b d ms key = true then (rfV b d ms key).x2 else 0) := rfl
  clear hr
  generalize rfB b d ms key = ok at *
  generalize rfV b d ms key = r at *
  generalize gtB b d ms key = A at *
  generalize gtV b d ms key = B at *
  obtain ⟨x0, x1, x2, g⟩ := r
  simp only [rwA] at *
  go_enter Try.func24, Try.ntmps24
  go_wp2_with fail
  refine C.mono ?_
  rintro e w1 ⟨rfl, HW⟩
  have HB : Hid (Below w.heap.size w w1) := belt (belA _ _) HW
  clear C HW
  cases ok
  · have HA : Hid (A = false) := by unfold Hid; rw [HG.out]; rfl
    have HB0 : Hid (B = 0) := by unfold Hid; rw [HV.out, HA.out]; rfl
    clear HG HV
    go_wp2
    go_ret2
    exact ⟨ret_2 (by rw [HB0.out]; rfl) (by rw [HA.out]; rfl), HB.out.alloc HB.out.size _⟩
  · cases g
    · have HA : Hid (A = true) := by unfold Hid; rw [HG.out]; rfl
      have HB0 : Hid (B = x2) := by unfold Hid; rw [HV.out, HA.out]; rfl
      clear HG HV
      go_wp2
      go_ret2
      exact ⟨ret_2 (by rw [HB0.out]; rfl) (by rw [HA.out]; rfl), HB.out.alloc HB.out.size _⟩
    · have HA : Hid (A = false) := by unfold Hid; rw [HG.out]; rfl
      have HB0 : Hid (B = 0) := by unfold Hid; rw [HV.out, HA.out]; rfl
      clear HG HV
      go_wp2
      go_ret2
      exact ⟨ret_2 (by rw [HB0.out]; rfl) (by rw [HA.out]; rfl), HB.out.alloc HB.out.size _⟩
theorem isVal_any (v : Int) (w : World) : Calls Try.prog 49 #[.int .i64 v] w fun e w' => e = .returned (.bool (inB v 0 1000000)) ∧ w' = w := by
  by_cases h1 : 0 ≤ v
  · by_cases h2 : v ≤ 1000000
    · rw [inB_yes h1 h2]
      have e1 : decide (0 ≤ v) = true := decide_eq_true h1
      have e2 : decide (v ≤ 1000000) = true := decide_eq_true h2
      clear h1 h2
      go_enter Try.func49, Try.ntmps49
      go_wp2
      go_ret
      exact ⟨rfl, rfl⟩
    · rw [inB_no (fun h => h2 h.2)]
      have e1 : decide (0 ≤ v) = true := decide_eq_true h1
      have e2 : decide (v ≤ 1000000) = false := decide_eq_false h2
      clear h1 h2
      go_enter Try.func49, Try.ntmps49
      go_wp2
      go_ret
      exact ⟨rfl, rfl⟩
  · rw [inB_no (fun h => h1 h.1)]
    have e1 : decide (0 ≤ v) = false := decide_eq_false h1
    clear h1
    go_enter Try.func49, Try.ntmps49
    go_wp2
    go_ret
    exact ⟨rfl, rfl⟩
end Go.Proofs.Ytpgngfdhnoonjaa.Tb
