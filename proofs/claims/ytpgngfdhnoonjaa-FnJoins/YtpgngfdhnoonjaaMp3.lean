/- RowFor and GetRow of the program. -/
import Derived.Test.YtpgngfdhnoonjaaMp2
import Derived.Test.YtpgngfdhnoonjaaTb2
namespace Go.Proofs.Ytpgngfdhnoonjaa.Tb
open Go.RowKit Wire Go.Deep
set_option linter.unusedVariables false
set_option linter.unusedSimpArgs false
theorem cell_one_new' (w : World) (x : Value) (t : TypeId) : (w.alloc (.cells #[x] t)).cell? ⟨w.heap.size, 0, none⟩ = some x := (cell_of_row _ _ _ _ _ _ (heap_alloc_new w (.cells #[x] t))).trans rfl
theorem cell_two_new' (w : World) (x y : Value) (t : TypeId) : (w.alloc (.cells #[x, y] t)).cell? ⟨w.heap.size, 0, none⟩ = some x ∧ (w.alloc (.cells #[x, y] t)).cell? ⟨w.heap.size, 1, none⟩ = some y := ⟨(cell_of_row _ _ _ _ _ _ (heap_alloc_new w (.cells #[x, y] t))).trans rfl, (cell_of_row _ _ _ _ _ _ (heap_alloc_new w (.cells #[x, y] t))).trans rfl⟩
theorem GT.wf {b d : Int} {ms : List Rw} (h : GT b d ms) : ∀ r ∈ ms, Wf r.x0 := fun r hr => by
  have := h.key r hr
  exact wf_of (by omega) (by omega)
theorem joined1 (b d : Int) (a : Option Addr) (cap n : Nat) (ms : List Rw) (w : World) (hn : ms.length = n) (hg : GT b d ms) (hr : LsAt tyRw w a ms) :
    Calls Try.prog 50 #[.slice (some ⟨w.heap.size, 0, none⟩) 1 1] (w.alloc (.cells #[.slice a n cap] 26)) fun e w' => e = .returned (.map (some (w.heap.size + 1))) ∧ MapR w' (w.heap.size + 1) 32 (lk ms) ∧ Below w.heap.size w w' := by
  subst hn
  have h := joined_any w.heap.size 1 1 (fun _ => a) (fun _ => cap) (fun _ => ms) (w.alloc (.cells #[.slice a ms.length cap] 26)) (by omega) (by simp) (fun i hi => by
    have : i = 0 := by omega
    subst this
    exact cell_one_new' _ _ _) (fun i hi => hr.keep (belA _ _)) (fun i hi => hg.len) (fun i hi => hg.wf)
  refine h.mono ?_
  rintro e w1 ⟨rfl, ⟨n, hn, hM⟩, hb⟩
  have he : foldT (fun _ => ms) 1 = lk ms := hg.fold
  rw [he] at hM
  simp only [World.size_alloc] at hM hb
  exact ⟨by simp, hM.mono hn, belt (belA _ _) (by simpa using hb)⟩
theorem joined2 (b d : Int) (a a' : Option Addr) (cap cap' n n' : Nat) (ms ns : List Rw) (w : World) (hn : ms.length = n) (hn' : ns.length = n') (hg : GT b d ms) (hg' : GT b d ns) (hr : LsAt tyRw w a ms) (hr' : LsAt tyRw w a' ns) :
    Calls Try.prog 50 #[.slice (some ⟨w.heap.size, 0, none⟩) 2 2] (w.alloc (.cells #[.slice a n cap, .slice a' n' cap'] 26)) fun e w' => e = .returned (.map (some (w.heap.size + 1))) ∧ MapR w' (w.heap.size + 1) 32 (lk (joinL ms ns)) ∧ Below w.heap.size w w' := by
  subst hn hn'
  have hc := cell_two_new' w (.slice a ms.length cap) (.slice a' ns.length cap') 26
  have h := joined_any w.heap.size 2 2 (fun i => if i = 0 then a else a') (fun i => if i = 0 then cap else cap') (fun i => if i = 0 then ms else ns) (w.alloc (.cells #[.slice a ms.length cap, .slice a' ns.length cap'] 26)) (by omega) (by simp) (fun i hi => by
    by_cases h0 : i = 0
    · subst h0; exact hc.1
    · have : i = 1 := by omega
      subst this; exact hc.2) (fun i hi => by
    by_cases h0 : i = 0
    · subst h0; exact hr.keep (belA _ _)
    · have : i = 1 := by omega
      subst this; exact hr'.keep (belA _ _)) (fun i hi => by
    by_cases h0 : i = 0
    · subst h0; exact hg.len
    · have : i = 1 := by omega
      subst this; exact hg'.len) (fun i hi => by
    by_cases h0 : i = 0
    · subst h0; exact hg.wf
    · have : i = 1 := by omega
      subst this; exact hg'.wf)
  refine h.mono ?_
  rintro e w1 ⟨rfl, ⟨n, hn, hM⟩, hb⟩
  have he : foldT (fun i => if i = 0 then ms else ns) 2 = lk (joinL ms ns) := by
    show foldF (foldF (fun _ => none) ms) ns = _
    rw [hg.fold, lk_joinL hg.inc hg'.ver]
  rw [he] at hM
  simp only [World.size_alloc] at hM hb
  exact ⟨by simp, hM.mono hn, belt (belA _ _) (by simpa using hb)⟩
theorem rfB_lk {b d : Int} {ms : List Rw} (h : GT b d ms) (key : Int) : (lk ms key).isSome = rfB b d ms key ∧ (lk ms key).getD rw0 = rfV b d ms key := by
  rw [lk_has h.inc key]
  unfold rfV rfB
  rw [gt_goodT h, Bool.true_and]
  by_cases hh : hasK ms key = true
  · rw [if_pos hh, if_pos hh, hh]; exact ⟨rfl, rfl⟩
  · rw [if_neg hh, if_neg hh]
    exact ⟨by cases e : hasK ms key; rfl; exact absurd e hh, rfl⟩
set_option maxHeartbeats 3200000 in
theorem RowFor_any (b d : Int) (a : Option Addr) (cap n : Nat) (ms : List Rw) (key : Int) (w : World) (hk : Wf key) (hn : ms.length = n) (hm : n ≤ 1048576) (hr : LsAt tyRw w a ms) :
    Calls Try.prog 22 #[.agg #[.int .i64 b, .int .i64 d], .slice a n cap, .int .i64 key] w fun e w' => e = .returned (.tuple #[rwA (rfV b d ms key), .bool (rfB b d ms key)]) ∧ Below w.heap.size w w' := by
  have HR : Hid (LsAt tyRw w a ms) := hr
  have HNN : Hid (ms.length = n) := hn
  have HK : Hid (Wf key) := hk
  have N0 : Hid (B2 w ((w.alloc (.cells #[.int .i64 b, .int .i64 d] 25)).alloc (.cells #[.int .i64 0, .int .i64 0, .int .i64 0, .bool false] 37)) #[.int .i64 b, .int .i64 d] #[.int .i64 0, .int .i64 0, .int .i64 0, .bool false]) := b20 w _ _
  have CT := GoodTable_any b d a cap n ms _ hn (by unfold maxLen; omega) (hr.keep N0.out.bel)
  clear hr hk hn
  cases hg : goodT b d ms
  · have HV : Hid (rfB b d ms key = false) := by unfold Hid rfB; rw [hg]; rfl
    rw [rfV_no HV.out, HV.out]
    rw [hg] at CT
    clear hg
    go_enter Try.func22, Try.ntmps22
    go_wp2_with fail
    refine CT.mono ?_
    rintro e w1 ⟨rfl, HW⟩
    have N1 := N0.out.keep HW
    clear CT N0
    obtain ⟨r0, r1, r2, r3⟩ := Wire.Bk.c4 N1.kr
    obtain ⟨s0, s1, s2, s3⟩ := Wire.Bk.f4 N1.kr
    have N2 := N1.put 0 [.int .i64 0, .int .i64 0, .int .i64 0, .bool false]
    rw [ovr4] at N2
    have HN2 : Hid (B2 w (Wire.setL w1 (w.heap.size + 1) 0 [.int .i64 0, .int .i64 0, .int .i64 0, .bool false]) #[.int .i64 b, .int .i64 d] #[.int .i64 0, .int .i64 0, .int .i64 0, .bool false]) := N2
    clear N1 N2
    go_wp2
    exact bodyPost_ret (Wire.results_cell_tmp Try.results22 _ _ (w.heap.size + 1) _ _ _ _ _ rfl rfl HN2.out.kr Try.underlying37 rfl (by kernel_rfl)) rfl ⟨rfl, HN2.out.bel⟩
  · have HG : Hid (GT b d ms) := goodT_gt hg
    have HE := rfB_lk (goodT_gt hg) key
    rw [hg] at CT
    clear hg
    go_enter Try.func22, Try.ntmps22
    go_wp2_with fail
    refine CT.mono ?_
    rintro e w1 ⟨rfl, HW⟩
    have N1 : Hid (B2 w w1 #[.int .i64 b, .int .i64 d] #[.int .i64 0, .int .i64 0, .int .i64 0, .bool false]) := N0.out.keep HW
    clear CT N0 HW
    go_wp2_with fail
    refine (joined1 b d a cap n ms _ HNN.out HG.out (HR.out.keep N1.out.bel)).mono ?_
    rintro e w2 ⟨rfl, hM, HW⟩
    have N2 : Hid (B2 w w2 #[.int .i64 b, .int .i64 d] #[.int .i64 0, .int .i64 0, .int .i64 0, .bool false]) := N1.out.keep HW
    have hlook := hM.lookOk HK.out
    rw [HE.1, HE.2] at hlook
    clear HE hM HW N1
    obtain ⟨r, hre⟩ : ∃ r, r = rfV b d ms key := ⟨_, rfl⟩
    have HRE : Hid (r = rfV b d ms key) := hre
    rw [← hre] at hlook
    obtain ⟨ok, hoe⟩ : ∃ r, r = rfB b d ms key := ⟨_, rfl⟩
    have HOE : Hid (ok = rfB b d ms key) := hoe
    rw [← hoe] at hlook
    clear hre hoe
    obtain ⟨y0, y1, y2, yb⟩ := r
    simp only [rwA] at hlook
    obtain ⟨r0, r1, r2, r3⟩ := Wire.Bk.c4 N2.out.kr
    obtain ⟨s0, s1, s2, s3⟩ := Wire.Bk.f4 N2.out.kr
    have N3 := N2.out.put 0 [.int .i64 y0, .int .i64 y1, .int .i64 y2, .bool yb]
    rw [ovr4] at N3
    have HN3 : Hid (B2 w ((Wire.setL w2 (w.heap.size + 1) 0 [.int .i64 y0, .int .i64 y1, .int .i64 y2, .bool yb]).alloc (.cells #[.int .i64 y0, .int .i64 y1, .int .i64 y2, .bool yb] 37)) #[.int .i64 b, .int .i64 d] #[.int .i64 y0, .int .i64 y1, .int .i64 y2, .bool yb]) := N3.keep (belA _ _)
    have hz2 := N2.out.kr.lt
    clear N3 N2
    go_wp2
    exact bodyPost_ret (Wire.results_cell_tmp Try.results22 _ _ (w.heap.size + 1) _ _ _ _ _ rfl rfl HN3.out.kr Try.underlying37 rfl (by kernel_rfl)) rfl ⟨by rw [← HRE.out, ← HOE.out]; rfl, HN3.out.bel⟩
set_option maxHeartbeats 3200000 in
theorem GetRow_any (b d : Int) (a : Option Addr) (cap n : Nat) (ms : List Rw) (key : Int) (w : World) (hk : Wf key) (hn : ms.length = n) (hm : n ≤ 1048576) (hr : LsAt tyRw w a ms) :
    Calls Try.prog 20 #[.agg #[.int .i64 b, .int .i64 d], .slice a n cap, .int .i64 key] w fun e w' => e = .returned (.tuple #[.int .i64 (gtV b d ms key), .bool (gtB b d ms key)]) ∧ Below w.heap.size w w' := by
  have C := RowFor_any b d a cap n ms key _ hk hn hm (hr.keep (belA w (.cells #[.int .i64 b, .int .i64 d] 25)))
  have HG : Hid (gtB b d ms key = (rfB b d ms key && !(rfV b d ms key).b)) := rfl
  have HV : Hid (gtV b d ms key = if gtB b d ms key = true then (rfV b d ms key).x2 else 0) := rfl
  clear hr hk
  generalize rfB b d ms key = ok at *
  generalize rfV b d ms key = r at *
  generalize gtB b d ms key = A at *
  generalize gtV b d ms key = B at *
  obtain ⟨x0, x1, x2, g⟩ := r
  simp only [rwA] at *
  go_enter Try.func20, Try.ntmps20
  go_wp2_with fail
  refine C.mono ?_
  rintro e w1 ⟨rfl, HW⟩
  have HB : Hid (Below w.heap.size w w1) := belt (belA _ _) HW
  clear C HW
  cases ok
  · have HA : Hid (A = false) := by unfold Hid; rw [HG.out]; rfl
    have HB0 : Hid (B = 0) := by unfold Hid; rw [HV.out, HA.out]; rfl
    clear HG HV
    go_wp2
    go_ret2
    exact ⟨ret_2 (by rw [HB0.out]; rfl) (by rw [HA.out]; rfl), HB.out.alloc HB.out.size _⟩
  · cases g
    · have HA : Hid (A = true) := by unfold Hid; rw [HG.out]; rfl
      have HB0 : Hid (B = x2) := by unfold Hid; rw [HV.out, HA.out]; rfl
      clear HG HV
      go_wp2
      go_ret2
      exact ⟨ret_2 (by rw [HB0.out]; rfl) (by rw [HA.out]; rfl), HB.out.alloc HB.out.size _⟩
    · have HA : Hid (A = false) := by unfold Hid; rw [HG.out]; rfl
      have HB0 : Hid (B = 0) := by unfold Hid; rw [HV.out, HA.out]; rfl
      clear HG HV
      go_wp2
      go_ret2
      exact ⟨ret_2 (by rw [HB0.out]; rfl) (by rw [HA.out]; rfl), HB.out.alloc HB.out.size _⟩
end Go.Proofs.Ytpgngfdhnoonjaa.Tb
