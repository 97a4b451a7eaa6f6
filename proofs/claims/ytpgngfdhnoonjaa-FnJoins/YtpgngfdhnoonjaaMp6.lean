/- JoinTables and RowsIn of the program. -/
import Derived.Test.YtpgngfdhnoonjaaMp5
namespace Go.Proofs.Ytpgngfdhnoonjaa.Tb
open Go.RowKit Wire Go.Deep
set_option linter.unusedVariables false
set_option linter.unusedSimpArgs false
def jnB (b d : Int) (ms ns : List Rw) : Bool := goodT b d ms && goodT b d ns && decide ((joinL ms ns).length ≤ 8)
def jnL (b d : Int) (ms ns : List Rw) : List Rw := if jnB b d ms ns = true then joinL ms ns else []
theorem jnL_no {b d : Int} {ms ns : List Rw} (h : jnB b d ms ns = false) : jnL b d ms ns = [] := by unfold jnL; rw [h]; rfl
theorem jnL_yes {b d : Int} {ms ns : List Rw} (h : jnB b d ms ns = true) : jnL b d ms ns = joinL ms ns := by unfold jnL; rw [h]; rfl
theorem joinS_wf {out : List Rw} (h : Inc out) (hw : ∀ q ∈ out, Wf q.x0) {r : Rw} (hr : Wf r.x0) : ∀ q ∈ joinS out r, Wf q.x0 := fun q hq => by
  unfold joinS at hq
  split at hq
  · exact hw q hq
  · rcases (putL_mem h r q).1 hq with rfl | ⟨hq, _⟩
    · exact hr
    · exact hw q hq
theorem joinL_wf : ∀ {ns ms : List Rw}, Inc ms → (∀ q ∈ ms, Wf q.x0) → (∀ q ∈ ns, Wf q.x0) → ∀ q ∈ joinL ms ns, Wf q.x0
  | [], _, _, h, _ => h
  | r :: ns, ms, hi, h, h2 => joinL_wf (ns := ns) (joinS_inc hi r) (joinS_wf hi h (h2 r (by simp))) (fun q hq => h2 q (List.mem_cons_of_mem _ hq))
set_option maxRecDepth 100000 in
set_option maxHeartbeats 6400000 in
theorem JoinTables_any (b d : Int) (a a' : Option Addr) (cap cap' n n' : Nat) (ms ns : List Rw) (w : World) (hn : ms.length = n) (hm : n ≤ 1048576) (hr : LsAt tyRw w a ms) (hn' : ns.length = n') (hm' : n' ≤ 1048576) (hr' : LsAt tyRw w a' ns) :
    Calls Try.prog 31 #[.agg #[.int .i64 b, .int .i64 d], .slice a n cap, .slice a' n' cap'] w (TabOut w (jnL b d ms ns) (jnB b d ms ns)) := by
  have HR : Hid (LsAt tyRw w a ms) := hr
  have HR' : Hid (LsAt tyRw w a' ns) := hr'
  have HNN : Hid (ms.length = n) := hn
  have HNN' : Hid (ns.length = n') := hn'
  have K0 : Hid (Wire.Bk (w.alloc (.cells #[.int .i64 b, .int .i64 d] 25)) w.heap.size #[.int .i64 b, .int .i64 d] 25) := Wire.Bk.new _ _ _
  have CT := GoodTable_any b d a cap n ms _ hn (by unfold maxLen; omega) (hr.keep (belA w (.cells #[.int .i64 b, .int .i64 d] 25)))
  have CT' : ∀ w1, Below w.heap.size w w1 → Calls Try.prog 18 #[.agg #[.int .i64 b, .int .i64 d], .slice a' n' cap'] w1 fun e w' => e = .returned (.bool (goodT b d ns)) ∧ Below w1.heap.size w1 w' := fun w1 h => GoodTable_any b d a' cap' n' ns _ hn' (by unfold maxLen; omega) (hr'.keep h)
  have HP : Hid (jnB b d ms ns = (goodT b d ms && goodT b d ns && decide ((joinL ms ns).length ≤ 8))) := rfl
  clear hr hn hr' hn'
  cases hg : goodT b d ms
  · have HV : Hid (jnB b d ms ns = false) := by unfold Hid; rw [HP.out, hg]; rfl
    rw [jnL_no HV.out, HV.out]
    rw [hg] at CT
    clear hg
    go_enter Try.func31, Try.ntmps31
    go_wp2_with fail
    refine CT.mono ?_
    rintro e w1 ⟨rfl, HW⟩
    clear CT
    go_wp2
    go_ret2
    exact tabOut_no (belt (belA _ _) HW)
  have HG : Hid (GT b d ms) := goodT_gt hg
  have hgT := hg
  rw [hg] at CT
  clear hg
  cases hg' : goodT b d ns
  · have HV : Hid (jnB b d ms ns = false) := by unfold Hid; rw [HP.out, hgT, hg']; rfl
    rw [jnL_no HV.out, HV.out]
    rw [hg'] at CT'
    clear hg' hgT
    go_enter Try.func31, Try.ntmps31
    go_wp2_with fail
    refine CT.mono ?_
    rintro e w1 ⟨rfl, HW⟩
    have B1 : Hid (Below w.heap.size w w1) := belt (belA _ _) HW
    have K1 := K0.out.keep HW
    obtain ⟨s0, s1⟩ := Wire.Bk.c2 K1
    have z1 := K1.lt
    clear CT HW
    go_wp2_with fail
    refine (CT' _ B1.out).mono ?_
    rintro e w2 ⟨rfl, HW⟩
    have B2 : Hid (Below w.heap.size w w2) := belt B1.out HW
    clear CT' HW s0 s1
    go_wp2
    go_ret2
    exact tabOut_no B2.out
  have HG' : Hid (GT b d ns) := goodT_gt hg'
  rw [hg'] at CT'
  have HPP : Hid (jnB b d ms ns = decide ((joinL ms ns).length ≤ 8)) := by unfold Hid; rw [HP.out, hgT, hg']; rfl
  have HJI : Hid (Inc (joinL ms ns)) := joinL_inc HG.out.inc
  have HJW : Hid (∀ q ∈ joinL ms ns, Wf q.x0) := joinL_wf HG.out.inc HG.out.wf HG'.out.wf
  clear hgT hg' HP
  by_cases h8 : (joinL ms ns).length ≤ 8
  · have HV : Hid (jnB b d ms ns = true) := by unfold Hid; rw [HPP.out, decide_eq_true h8]
    rw [jnL_yes HV.out, HV.out]
    have h8d : decide ((8 : Int) < ((joinL ms ns).length : Int)) = false := decide_eq_false (by omega)
    have h8e : decide (8 < (joinL ms ns).length) = false := decide_eq_false (by omega)
    have H8 : Hid ((joinL ms ns).length ≤ 8) := h8
    clear h8 HPP
    go_enter Try.func31, Try.ntmps31
    go_wp2_with fail
    refine CT.mono ?_
    rintro e w1 ⟨rfl, HW⟩
    have B1 : Hid (Below w.heap.size w w1) := belt (belA _ _) HW
    have K1 := K0.out.keep HW
    obtain ⟨s0, s1⟩ := Wire.Bk.c2 K1
    have z1 := K1.lt
    clear CT HW
    go_wp2_with fail
    refine (CT' _ B1.out).mono ?_
    rintro e w2 ⟨rfl, HW⟩
    have B2 : Hid (Below w.heap.size w w2) := belt B1.out HW
    clear CT' HW s0 s1 K1 z1
    go_wp2_with fail
    refine (joined2 b d a a' cap cap' n n' ms ns _ HNN.out HNN'.out HG.out HG'.out (HR.out.keep B2.out) (HR'.out.keep B2.out)).mono ?_
    rintro e w4 ⟨rfl, hM, HW⟩
    have B4 : Hid (Below w.heap.size w w4) := belt B2.out HW
    have HMX : Hid (MapR w4 (w2.heap.size + 1) 32 (lk (joinL ms ns))) := hM
    have hlen := HMX.out.len HJI.out (fun _ _ => rfl) HJW.out 3
    clear hM HW
    have CO := inOrder_any (w2.heap.size + 1) 32 (lk (joinL ms ns)) (joinL ms ns) w4 HJI.out (fun _ _ => rfl) HJW.out (by have := H8.out; omega) HMX.out
    have HS4 : Hid (w.heap.size ≤ w4.heap.size) := B4.out.size
    go_wp2_with fail
    refine CO.mono ?_
    rintro e w6 ⟨a6, c6, rfl, hO, HW⟩
    have HO6 : Hid (OwnEs tyRw 37 w.heap.size w6.heap.size w6 a6 (joinL ms ns).length (joinL ms ns)) := hO.wide HS4.out (Nat.le_refl _)
    have B6 : Hid (Below w.heap.size w w6) := belt B4.out HW
    clear CO hO HW
    go_wp2
    go_ret2
    exact ⟨a6, _, c6, rfl, rfl, HO6.out, B6.out⟩
  · have HV : Hid (jnB b d ms ns = false) := by unfold Hid; rw [HPP.out, decide_eq_false h8]
    rw [jnL_no HV.out, HV.out]
    have h8d : decide ((8 : Int) < ((joinL ms ns).length : Int)) = true := decide_eq_true (by omega)
    have h8e : decide (8 < (joinL ms ns).length) = true := decide_eq_true (by omega)
    clear h8 HPP
    go_enter Try.func31, Try.ntmps31
    go_wp2_with fail
    refine CT.mono ?_
    rintro e w1 ⟨rfl, HW⟩
    have B1 : Hid (Below w.heap.size w w1) := belt (belA _ _) HW
    have K1 := K0.out.keep HW
    obtain ⟨s0, s1⟩ := Wire.Bk.c2 K1
    have z1 := K1.lt
    clear CT HW
    go_wp2_with fail
    refine (CT' _ B1.out).mono ?_
    rintro e w2 ⟨rfl, HW⟩
    have B2 : Hid (Below w.heap.size w w2) := belt B1.out HW
    clear CT' HW s0 s1 K1 z1
    go_wp2_with fail
    refine (joined2 b d a a' cap cap' n n' ms ns _ HNN.out HNN'.out HG.out HG'.out (HR.out.keep B2.out) (HR'.out.keep B2.out)).mono ?_
    rintro e w4 ⟨rfl, hM, HW⟩
    have B4 : Hid (Below w.heap.size w w4) := belt B2.out HW
    have HMX : Hid (MapR w4 (w2.heap.size + 1) 32 (lk (joinL ms ns))) := hM
    have hlen := HMX.out.len HJI.out (fun _ _ => rfl) HJW.out 3
    clear hM HW
    go_wp2
    go_ret2
    exact tabOut_no B4.out
def riB (b d : Int) (ms : List Rw) (f t : Int) : Bool := goodT b d ms && numB b d f && numB b d t
def arcF (b f t : Int) (ms : List Rw) : List Rw := ms.filter (fun r => arcB b f r.x0 t)
def riL (b d : Int) (ms : List Rw) (f t : Int) : List Rw := if riB b d ms f t = true then arcF b f t ms else []
theorem riL_no {b d : Int} {ms : List Rw} {f t : Int} (h : riB b d ms f t = false) : riL b d ms f t = [] := by unfold riL; rw [h]; rfl
theorem riL_yes {b d : Int} {ms : List Rw} {f t : Int} (h : riB b d ms f t = true) : riL b d ms f t = arcF b f t ms := by unfold riL; rw [h]; rfl
theorem arcF_inc {b f t : Int} {ms : List Rw} (h : Inc ms) : Inc (arcF b f t ms) := h.sublist (List.filter_sublist)
theorem arcF_lk {b f t : Int} {ms : List Rw} (h : Inc ms) (k : Int) : lk (arcF b f t ms) k = if arcB b f k t = true then lk ms k else none := by
  cases e : lk ms k with
  | none =>
    have : lk (arcF b f t ms) k = none := lk_none (fun r hr hk => by
      have h1 := (List.mem_filter.1 hr).1
      have := lk_mem h h1
      rw [hk, e] at this
      cases this)
    rw [this]
    split <;> rfl
  | some q =>
    obtain ⟨h1, h2⟩ := lk_some e
    by_cases ha : arcB b f k t = true
    · rw [if_pos ha]
      have := lk_mem (arcF_inc (b := b) (f := f) (t := t) h) (List.mem_filter.2 ⟨h1, by rw [h2]; exact ha⟩)
      rw [h2] at this
      exact this
    · rw [if_neg ha]
      exact lk_none (fun r hr hk => by
        have := (List.mem_filter.1 hr).2
        rw [hk] at this
        exact ha this)
theorem arcF_len {b f t : Int} {ms : List Rw} : (arcF b f t ms).length ≤ ms.length := List.length_filter_le _ _
/-- what is left of a map while it is gone through -/
def Swept (b f t : Int) (ms : List Rw) (left : Int → Bool) (g : Int → Option Rw) : Prop := ∀ k, Wf k → g k = if arcB b f k t = true ∨ left k = true then lk ms k else none
theorem swept0 (b f t : Int) (ms : List Rw) : Swept b f t ms (fun k => (lk ms k).isSome) (lk ms) := fun k _ => by
  cases e : lk ms k with
  | none => split <;> rfl
  | some q => rw [if_pos (.inr (by show (lk ms k).isSome = true; rw [e]; rfl))]
theorem Swept.stay {b f t : Int} {ms : List Rw} {left : Int → Bool} {g : Int → Option Rw} (h : Swept b f t ms left g) {k : Int} (ha : arcB b f k t = true) : Swept b f t ms (fun j => left j && !decide (j = k)) g := fun j hj => by
  rw [h j hj]
  dsimp only
  by_cases e : j = k
  · subst e; rw [if_pos (.inl ha), if_pos (.inl ha)]
  · simp [e]
theorem Swept.strike {b f t : Int} {ms : List Rw} {left : Int → Bool} {g : Int → Option Rw} (h : Swept b f t ms left g) {k : Int} (ha : arcB b f k t = false) : Swept b f t ms (fun j => left j && !decide (j = k)) (cut g k) := fun j hj => by
  unfold cut
  dsimp only
  by_cases e : j = k
  · subst e; rw [if_pos rfl, ha]; simp
  · rw [if_neg e, h j hj]
    simp [e]
theorem Swept.end {b f t : Int} {ms : List Rw} {left : Int → Bool} {g : Int → Option Rw} (h : Swept b f t ms left g) (hi : Inc ms) (hl : ∀ k, Wf k → left k = false) : ∀ k, Wf k → g k = lk (arcF b f t ms) k := fun k hk => by
  rw [h k hk, arcF_lk hi, hl k hk]
  by_cases ha : arcB b f k t = true
  · rw [if_pos (.inl ha), if_pos ha]
  · rw [if_neg (fun hc => by rcases hc with hc | hc; exact ha hc; cases hc), if_neg ha]
theorem Swept.key {b f t : Int} {ms : List Rw} {left : Int → Bool} {g : Int → Option Rw} (h : Swept b f t ms left g) {k : Int} (hk : Wf k) {q : Rw} (hq : g k = some q) : lk ms k = some q := by
  rw [h k hk] at hq
  split at hq
  · exact hq
  · cases hq
set_option maxRecDepth 100000 in
set_option maxHeartbeats 6400000 in
theorem RowsIn_any (b d : Int) (a : Option Addr) (cap n : Nat) (ms : List Rw) (f t : Int) (w : World) (hn : ms.length = n) (hm : n ≤ 1048576) (hr : LsAt tyRw w a ms) :
    Calls Try.prog 34 #[.agg #[.int .i64 b, .int .i64 d], .slice a n cap, .int .i64 f, .int .i64 t] w (TabOut w (riL b d ms f t) (riB b d ms f t)) := by
  have HR : Hid (LsAt tyRw w a ms) := hr
  have HNN : Hid (ms.length = n) := hn
  have K0 : Hid (Wire.Bk (w.alloc (.cells #[.int .i64 b, .int .i64 d] 25)) w.heap.size #[.int .i64 b, .int .i64 d] 25) := Wire.Bk.new _ _ _
  have CT := GoodTable_any b d a cap n ms _ hn (by unfold maxLen; omega) (hr.keep (belA w (.cells #[.int .i64 b, .int .i64 d] 25)))
  have CF := fun w1 => isNumber_any b d f w1
  have CN := fun w1 => isNumber_any b d t w1
  have HP : Hid (riB b d ms f t = (goodT b d ms && numB b d f && numB b d t)) := rfl
  clear hr hn
  cases hg : goodT b d ms
  · have HV : Hid (riB b d ms f t = false) := by unfold Hid; rw [HP.out, hg]; rfl
    rw [riL_no HV.out, HV.out]
    rw [hg] at CT
    clear hg
    go_enter Try.func34, Try.ntmps34
    go_wp2_with fail
    refine CT.mono ?_
    rintro e w1 ⟨rfl, HW⟩
    clear CT
    go_wp2
    go_ret2
    exact tabOut_no (belt (belA _ _) HW)
  have HG : Hid (GT b d ms) := goodT_gt hg
  have hgT := hg
  rw [hg] at CT
  clear hg
  cases hf : numB b d f
  · have HV : Hid (riB b d ms f t = false) := by unfold Hid; rw [HP.out, hgT, hf]; rfl
    rw [riL_no HV.out, HV.out]
    rw [hf] at CF
    clear hf hgT
    go_enter Try.func34, Try.ntmps34
    go_wp2_with fail
    refine CT.mono ?_
    rintro e w1 ⟨rfl, HW⟩
    have B1 : Hid (Below w.heap.size w w1) := belt (belA _ _) HW
    have K1 := K0.out.keep HW
    obtain ⟨s0, s1⟩ := Wire.Bk.c2 K1
    have z1 := K1.lt
    clear CT HW
    go_wp2_with fail
    refine (CF _).mono ?_
    rintro e w2 ⟨rfl, HW⟩
    have B2 : Hid (Below w.heap.size w w2) := belt B1.out HW
    clear CF HW s0 s1
    go_wp2
    go_ret2
    exact tabOut_no B2.out
  have HFN : Hid (numB b d f = true) := hf
  rw [hf] at CF
  cases ht : numB b d t
  · have HV : Hid (riB b d ms f t = false) := by unfold Hid; rw [HP.out, hgT, hf, ht]; rfl
    rw [riL_no HV.out, HV.out]
    rw [ht] at CN
    clear hf hgT ht
    go_enter Try.func34, Try.ntmps34
    go_wp2_with fail
    refine CT.mono ?_
    rintro e w1 ⟨rfl, HW⟩
    have B1 : Hid (Below w.heap.size w w1) := belt (belA _ _) HW
    have K1 : Hid (Wire.Bk w1 w.heap.size #[.int .i64 b, .int .i64 d] 25) := K0.out.keep HW
    obtain ⟨s0, s1⟩ := Wire.Bk.c2 K1.out
    have z1 := K1.out.lt
    clear CT HW
    go_wp2_with fail
    refine (CF _).mono ?_
    rintro e w2 ⟨rfl, HW⟩
    have B2 : Hid (Below w.heap.size w w2) := belt B1.out HW
    have K2 := K1.out.keep HW
    clear s0 s1 z1
    obtain ⟨s0, s1⟩ := Wire.Bk.c2 K2
    have z2 := K2.lt
    clear CF HW
    go_wp2_with fail
    refine (CN _).mono ?_
    rintro e w3 ⟨rfl, HW⟩
    have B3 : Hid (Below w.heap.size w w3) := belt B2.out HW
    clear CN HW s0 s1
    go_wp2
    go_ret2
    exact tabOut_no B3.out
  have HTN : Hid (numB b d t = true) := ht
  rw [ht] at CN
  have HV : Hid (riB b d ms f t = true) := by unfold Hid; rw [HP.out, hgT, hf, ht]; rfl
  rw [riL_yes HV.out, HV.out]
  clear hf hgT ht HP
  go_enter Try.func34, Try.ntmps34
  go_wp2_with fail
  refine CT.mono ?_
  rintro e w1 ⟨rfl, HW⟩
  have B1 : Hid (Below w.heap.size w w1) := belt (belA _ _) HW
  have K1 : Hid (Wire.Bk w1 w.heap.size #[.int .i64 b, .int .i64 d] 25) := K0.out.keep HW
  obtain ⟨s0, s1⟩ := Wire.Bk.c2 K1.out
  have z1 := K1.out.lt
  clear CT HW
  go_wp2_with fail
  refine (CF _).mono ?_
  rintro e w2 ⟨rfl, HW⟩
  have B2 : Hid (Below w.heap.size w w2) := belt B1.out HW
  have K2 : Hid (Wire.Bk w2 w.heap.size #[.int .i64 b, .int .i64 d] 25) := K1.out.keep HW
  clear s0 s1 z1 K1
  obtain ⟨s0, s1⟩ := Wire.Bk.c2 K2.out
  have z2 := K2.out.lt
  clear CF HW
  go_wp2_with fail
  refine (CN _).mono ?_
  rintro e w3 ⟨rfl, HW⟩
  have B3 : Hid (Below w.heap.size w w3) := belt B2.out HW
  have K3 : Hid (Wire.Bk w3 w.heap.size #[.int .i64 b, .int .i64 d] 25) := K2.out.keep HW
  clear CN HW s0 s1 z2 K2
  go_wp2_with fail
  refine (joined1 b d a cap n ms _ HNN.out HG.out (HR.out.keep B3.out)).mono ?_
  rintro e w4 ⟨rfl, hM, HW⟩
  have B4 : Hid (Below w.heap.size w w4) := belt B3.out HW
  have K4 : Hid (Wire.Bk w4 w.heap.size #[.int .i64 b, .int .i64 d] 25) := K3.out.keep HW
  obtain ⟨X, hX⟩ : ∃ X, X = w3.heap.size + 1 := ⟨_, rfl⟩
  have HX1 : Hid (w.heap.size < X) := by unfold Hid; have := K3.out.lt; omega
  rw [← hX] at hM ⊢
  have HM4 : Hid (MapR w4 X 32 (lk ms)) := hM
  clear hM HW hX K3
  go_wp2_with (first | (at_range; refine wpList_range_R rfl _ rfl X 32 (lk ms) rfl HM4.out ?_; intro w5 cnt0 hrg0 hg0 hs0) | fail)
  go_frame
  have B5 : Hid (Below w.heap.size w w5) := B4.out.grown hg0 B4.out.size (fun k hk => by cases hk)
  have K5 : Hid (Wire.Bk w5 w.heap.size #[.int .i64 b, .int .i64 d] 25) := (hg0.block _ K4.out.lt (by simp)).trans K4.out
  have HX2 : Hid (w.heap.size < w4.heap.size) := K4.out.lt
  obtain ⟨Y, hY⟩ : ∃ Y, Y = w4.heap.size := ⟨_, rfl⟩
  rw [← hY] at hrg0 HX2 ⊢
  have HR5 : Hid (RangeR w5 X Y 32 (lk ms) (fun k => (lk ms k).isSome) cnt0) := hrg0
  clear hrg0 hg0 hs0 hY
  go_loopw [11] (fun _ wr => ∃ (g : Int → Option Rw) (left : Int → Bool) (cnt : Nat), Hid (RangeR wr X Y 32 g left cnt) ∧ Hid (Swept b f t ms left g) ∧ Hid (Below w.heap.size w wr) ∧ Hid (Wire.Bk wr w.heap.size #[.int .i64 b, .int .i64 d] 25)) (fun _ wr => wr.rangeLeft X Y)
  case atStart => exact ⟨_, _, cnt0, HR5, swept0 b f t ms, B5, K5⟩
  case round =>
    obtain ⟨g, left, cnt, HR6, HS, HB, HK⟩ := hrel
    clear B5 K5 HR5
    go_wp2_with (first | (at_next; refine wpList_next_R rfl _ rfl X Y 32 g left cnt rfl HR6.out ?_ ?_) | fail)
    · intro hdone
      have HE : Hid (∀ k, Wf k → g k = lk (arcF b f t ms) k) := HS.out.end HG.out.inc hdone
      have CO := inOrder_any X 32 g (arcF b f t ms) wr (arcF_inc HG.out.inc) HE.out (fun r hr => HG.out.wf r (List.mem_filter.1 hr).1) (by have := HG.out.len; have := arcF_len (b := b) (f := f) (t := t) (ms := ms); omega) HR6.out.map
      have HS4 : Hid (w.heap.size ≤ wr.heap.size) := HB.out.size
      clear hdone HS HR6 HE
      go_wp2_with fail
      refine CO.mono ?_
      rintro e w8 ⟨a6, c6, rfl, hO, HW⟩
      have HO6 : Hid (OwnEs tyRw 37 w.heap.size w8.heap.size w8 a6 (arcF b f t ms).length (arcF b f t ms)) := hO.wide HS4.out (Nat.le_refl _)
      have B6 : Hid (Below w.heap.size w w8) := belt HB.out HW
      clear CO hO HW
      go_wp2
      go_ret2
      exact ⟨a6, _, c6, rfl, rfl, HO6.out, B6.out⟩
    · intro k q w6 cnt1 hwk hlk hgk hrg1 hlt hg1 hs1 hen
      have hq := HS.out.key hwk hgk
      have hnum : numB b d k = true := by
        obtain ⟨m1, m2⟩ := lk_some hq
        have := (rowB_true (HG.out.row q m1))
        exact numB_yes HG.out.gs (by rw [← m2]; exact this.1.1) (by rw [← m2]; exact this.1.2)
      have HB1 : Hid (Below w.heap.size w w6) := HB.out.grown hg1 HB.out.size (fun k hk => by cases hk; have := HX2.out; omega)
      have HK1 : Hid (Wire.Bk w6 w.heap.size #[.int .i64 b, .int .i64 d] 25) := (hg1.block _ HK.out.lt (by have := HX2.out; simp; omega)).trans HK.out
      have HR1 : Hid (RangeR w6 X Y 32 g (fun j => left j && !decide (j = k)) cnt1) := hrg1
      have HLT : Hid (cnt1 < cnt) := hlt
      have HWK : Hid (Wf k) := hwk
      have CA := fun w1 => InArc_any b d f k t w1
      have hok : aOk b d f k t = true := by unfold aOk; rw [HFN.out, hnum, HTN.out]; rfl
      have hval : aVal b d f k t = arcB b f k t := by unfold aVal; rw [hok]; rfl
      rw [hok, hval] at CA
      simp only [rwA] at hen
      obtain ⟨s0, s1⟩ := Wire.Bk.c2 HK1.out
      have z1 := HK1.out.lt
      cases ha : arcB b f k t
      · rw [ha] at CA
        have HSS : Hid (Swept b f t ms (fun j => left j && !decide (j = k)) (cut g k)) := HS.out.strike ha
        clear hwk hlk hgk hrg1 hg1 hs1 hlt hnum hok hval ha hq HB HK HS
        go_wp2_with fail
        refine (CA _).mono ?_
        rintro e w7 ⟨rfl, HW⟩
        have HB2 : Hid (Below w.heap.size w w7) := belt HB1.out HW
        have HK2 : Hid (Wire.Bk w7 w.heap.size #[.int .i64 b, .int .i64 d] 25) := HK1.out.keep HW
        have HR2 : Hid (RangeR w7 X Y 32 g (fun j => left j && !decide (j = k)) cnt1) := HR1.out.keep HW
        clear HW HB1 HK1 HR1 s0 s1 z1 hen
        go_wp2_with (first | (at_delete; refine wpList_delete_R rfl _ _ rfl X Y 32 g (fun j => left j && !decide (j = k)) cnt1 rfl HR2.out k rfl HWK.out (by simp) ?_; intro w8 cnt2 hrg2 hle2 hg2 hs2; go_frame) | fail)
        have HB3 : Hid (Below w.heap.size w w8) := HB2.out.grown hg2 HB2.out.size (fun k hk => by cases hk; have := HX1.out; omega)
        have HK3 : Hid (Wire.Bk w8 w.heap.size #[.int .i64 b, .int .i64 d] 25) := (hg2.block _ HK2.out.lt (by have := HX1.out; simp; omega)).trans HK2.out
        have HR3 : Hid (RangeR w8 X Y 32 (cut g k) (fun j => left j && !decide (j = k)) cnt2) := hrg2
        have HLE : Hid (cnt2 ≤ cnt1) := hle2
        clear hrg2 hle2 hg2 hs2 HR2 HK2 HB2
        try go_wp2
        go_roundw
        case rel => exact ⟨_, _, cnt2, HR3, HSS, HB3, HK3⟩
        case measure => rw [HR3.out.left_eq, HR6.out.left_eq]; have := HLE.out; have := HLT.out; omega
      · rw [ha] at CA
        have HSS : Hid (Swept b f t ms (fun j => left j && !decide (j = k)) g) := HS.out.stay ha
        clear hwk hlk hgk hrg1 hg1 hs1 hlt hnum hok hval ha hq HB HK HS
        go_wp2_with fail
        refine (CA _).mono ?_
        rintro e w7 ⟨rfl, HW⟩
        have HB2 : Hid (Below w.heap.size w w7) := belt HB1.out HW
        have HK2 : Hid (Wire.Bk w7 w.heap.size #[.int .i64 b, .int .i64 d] 25) := HK1.out.keep HW
        have HR2 : Hid (RangeR w7 X Y 32 g (fun j => left j && !decide (j = k)) cnt1) := HR1.out.keep HW
        clear HW HB1 HK1 HR1 s0 s1 z1 hen
        go_wp2
        go_roundw
        case rel => exact ⟨_, _, cnt1, HR2, HSS, HB2, HK2⟩
        case measure => rw [HR2.out.left_eq, HR6.out.left_eq]; exact HLT.out
end Go.Proofs.Ytpgngfdhnoonjaa.Tb
