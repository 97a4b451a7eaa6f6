/- Frames laid behind one another, split: the plain function, and its helpers in the program. -/
import Derived.Test.YtabbicfakkehpaaSf0
namespace Go.Proofs.Ytabbicfakkehpaa
open Go.RowKit
set_option linter.unusedVariables false
/-- how many bytes a text's first frame has -/
def fb (s : ByteArray) : Nat := if h : 0 < s.size then 1 + s[0].toNat else 1
theorem fb_eq {s : ByteArray} (h : 0 < s.size) : fb s = 1 + s[0].toNat := by unfold fb; rw [dif_pos h]
theorem fb_bd (s : ByteArray) : 1 ≤ fb s ∧ fb s ≤ 256 := by
  unfold fb
  split
  · rename_i h
    have := UInt8.toNat_lt s[0]
    omega
  · omega
def whB (s : ByteArray) : Bool := decide (0 < s.size ∧ fb s ≤ s.size)
def tl (s : ByteArray) : ByteArray := s.extract (fb s) s.size
def hdt (s : ByteArray) : ByteArray := s.extract 0 (fb s)
def splF : Nat → ByteArray → List ByteArray
  | 0, _ => []
  | n + 1, s => if whB s = true then hdt s :: splF n (tl s) else []
def splR : Nat → ByteArray → ByteArray
  | 0, s => s
  | n + 1, s => if whB s = true then splR n (tl s) else s
theorem tl_size {s : ByteArray} (h : whB s = true) : (tl s).size = s.size - fb s := by
  unfold tl
  rw [ByteArray.size_extract]
  omega
theorem splF_step {n : Nat} {s : ByteArray} (h : whB s = true) (hn : s.size ≤ n) : ∃ m, n = m + 1 ∧ (tl s).size ≤ m ∧ splF n s = hdt s :: splF m (tl s) ∧ splR n s = splR m (tl s) := by
  have h2 : 0 < s.size ∧ fb s ≤ s.size := of_decide_eq_true h
  have h3 := fb_bd s
  obtain ⟨m, rfl⟩ : ∃ m, n = m + 1 := ⟨n - 1, by omega⟩
  refine ⟨m, rfl, by rw [tl_size h]; omega, ?_, ?_⟩
  · rw [splF, if_pos h]
  · rw [splR, if_pos h]
theorem splF_end {n : Nat} {s : ByteArray} (h : whB s = false) : splF n s = [] ∧ splR n s = s := by
  cases n with
  | zero => exact ⟨rfl, rfl⟩
  | succ n =>
    unfold splF
    rw [splR, h]
    exact ⟨rfl, rfl⟩
theorem frameBytes_any (s : ByteArray) (w : World) (h : 0 < s.size) (hs : s.size ≤ 1048576) :
    Calls Try.prog 38 #[.string s] w fun e w' => e = .returned (.int .i64 (fb s)) ∧ w' = w := by
  have hv : Hid ((fb s : Int) = 1 + (s[0].toNat : Int)) := by unfold Hid; rw [fb_eq h]; simp
  have hb := UInt8.toNat_lt s[0]
  go_enter Try.func38, Try.ntmps38
  go_wp2
  go_ret
  exact ⟨ret_int hv.out.symm, rfl⟩
theorem isWhole_any (s : ByteArray) (w : World) (hs : s.size ≤ 1048576) :
    Calls Try.prog 37 #[.string s] w fun e w' => e = .returned (.bool (whB s)) ∧ w' = w := by
  by_cases h : 0 < s.size
  · have hb := fb_bd s
    by_cases h2 : fb s ≤ s.size
    · have hv : Hid (whB s = true) := decide_eq_true ⟨h, h2⟩
      go_enter Try.func37, Try.ntmps37
      go_wp2_with (go_at_call 38; refine (frameBytes_any _ _ h hs).mono ?_; rintro e w1 ⟨rfl, rfl⟩)
      go_ret
      exact ⟨ret_bool hv.out.symm, rfl⟩
    · have hv : Hid (whB s = false) := decide_eq_false (fun k => h2 k.2)
      go_enter Try.func37, Try.ntmps37
      go_wp2_with (go_at_call 38; refine (frameBytes_any _ _ h hs).mono ?_; rintro e w1 ⟨rfl, rfl⟩)
      go_ret
      exact ⟨ret_bool hv.out.symm, rfl⟩
  · have hv : Hid (whB s = false) := decide_eq_false (fun k => h k.1)
    have hz : s.size = 0 := by omega
    go_enter Try.func37, Try.ntmps37
    go_wp2
    go_ret
    exact ⟨ret_bool hv.out.symm, rfl⟩
/-- a row of texts of one's own -/
def OwT (B : Nat) (w : World) (v : Value) (L : List ByteArray) : Prop := w.ownsRow B 9 1 v L.length (L.map Value.string)
theorem OwT.keep {B : Nat} {w w1 : World} {v : Value} {L : List ByteArray} (h : OwT B w v L) (hb : Below w.heap.size w w1) : OwT B w1 v L := by
  obtain ⟨h1, h2⟩ := h
  refine ⟨h1, ?_⟩
  rcases h2 with h2 | ⟨g, cap, cur, rfl, hg, hr, rest⟩
  · exact .inl h2
  · exact .inr ⟨g, cap, cur, rfl, hg, (hb.block g (Array.getElem?_eq_some_iff.1 hr).1).trans hr, rest⟩
theorem OwT.alloc {B : Nat} {w : World} {v : Value} {L : List ByteArray} (h : OwT B w v L) (o : Obj) : OwT B (w.alloc o) v L := h.keep ((Below.refl _ _).alloc (Nat.le_refl _) o)
theorem OwT.lo {B : Nat} {w : World} {v : Value} {L : List ByteArray} (h : OwT B w v L) : ∀ k, v.ownBlock = some k → B ≤ k ∧ k < w.heap.size := World.ownsRow.lt h
theorem OwT.snoc {B : Nat} {w : World} {v : Value} {L : List ByteArray} {s : ByteArray} {n : Nat} (hn : n = L.length + 1) (h : w.ownsRow B 9 1 v n (L.map Value.string ++ [.string s])) : OwT B w v (L ++ [s]) := by
  unfold OwT
  rw [List.map_append, List.length_append, List.length_singleton, ← hn]
  exact h
theorem OwT.nil (B : Nat) (w : World) : OwT B w (.slice none 0 0) [] := World.ownsRow_nil _ _ _ _
theorem text_new1 (w : World) (s : ByteArray) : ∀ j u, ([.string s] : List Value)[j]? = some u → (w.alloc (.cells #[.string s] 9)).cell? ((⟨w.heap.size, 0, none⟩ : Addr).add j) = some u := by
  intro j u hj
  have e : (⟨w.heap.size, 0, none⟩ : Addr).add j = ⟨w.heap.size, j, none⟩ := by unfold Addr.add; split <;> simp_all
  rw [e, cell_of_row _ _ _ _ _ _ (heap_alloc_new w (.cells #[.string s] 9))]
  simpa using hj
theorem info_str : (Try.prog.info? 9).map (fun i => (i.zero, i.size, i.bytes)) = some (some (.string ⟨#[]⟩), 1, 16) := by kernel_rfl
theorem text_bel {B : Nat} {w0 w w5 : World} {o : Obj} {v v5 : Value} {L : List ByteArray} (hb : Below B w0 w) (hB : B ≤ w.heap.size) (ho : OwT B w v L) (hg : Gw (w.alloc o) w5 v v5) : Below B w0 w5 :=
  hb.trans ((((Gw.refl w v).alloc o).trans hg).below hB (fun k hk => (ho.lo k hk).1))
theorem ret_3 {v v' : Value} {s s' : ByteArray} {b b' : Bool} (h0 : v = v') (h : s = s') (k : b = b') : Ending.returned (.tuple #[v, .string s, .bool b]) = .returned (.tuple #[v', .string s', .bool b']) := by rw [h0, h, k]
def sfOk (s : ByteArray) : Bool := decide (s.size ≤ 1000)
def sfL (s : ByteArray) : List ByteArray := if sfOk s = true then splF s.size s else []
def sfR (s : ByteArray) : ByteArray := if sfOk s = true then splR s.size s else ⟨#[]⟩
set_option maxHeartbeats 3200000 in
theorem SplitFrames_any (s : ByteArray) (w : World) (hs : s.size ≤ 1048576) :
    Calls Try.prog 11 #[.string s] w fun e w' => ∃ v, e = .returned (.tuple #[v, .string (sfR s), .bool (sfOk s)]) ∧ OwT w.heap.size w' v (sfL s) ∧ (sfL s).length ≤ 1000 ∧ Below w.heap.size w w' := by
  by_cases h : s.size ≤ 1000
  · have hk : Hid (sfOk s = true) := decide_eq_true h
    have hL : Hid (sfL s = splF s.size s) := by unfold Hid sfL; rw [hk.out]; rfl
    have hR : Hid (sfR s = splR s.size s) := by unfold Hid sfR; rw [hk.out]; rfl
    obtain ⟨i0, hi, hieq⟩ := Option.map_eq_some_iff.1 info_str
    obtain ⟨hz0, hz1, hz2⟩ : i0.zero = some (.string ⟨#[]⟩) ∧ i0.size = 1 ∧ i0.bytes = 16 := by simpa using hieq
    clear hieq
    go_enter Try.func11, Try.ntmps11
    go_wp2_with fail
    go_loopw [0, 5] (fun vt vv wr => ∃ (t : ByteArray) (u : Value) (L : List ByteArray) (n : Nat), vt = .string t ∧ vv = u ∧ t.size ≤ n ∧ L.length + t.size ≤ 1000 ∧ Hid (L ++ splF n t = splF s.size s) ∧ Hid (splR n t = splR s.size s) ∧ Hid (OwT w.heap.size wr u L) ∧ Hid (Below w.heap.size w wr)) (fun vt _ _ => (match vt with | .string t => t.size | _ => 0))
    case atStart => exact ⟨s, _, [], s.size, rfl, rfl, Nat.le_refl _, by simp; omega, rfl, rfl, OwT.nil _ _, Below.refl _ _⟩
    case round =>
      obtain ⟨t, u, L, n, rfl, rfl, hn, hLt, h1, h2, ow, bb⟩ := hrel
      obtain ⟨fb1, fb2⟩ := fb_bd t
      have hts : t.size ≤ 1048576 := by omega
      cases hw : whB t
      · obtain ⟨e1, e2⟩ := splF_end (n := n) hw
        have HL : Hid (OwT w.heap.size wr u5 (sfL s)) := by
          have h := h1.out
          rw [e1, List.append_nil] at h
          unfold Hid
          rw [hL.out, ← h]
          exact ow.out
        have HR : Hid (sfR s = t) := by unfold Hid; rw [hR.out, ← h2.out, e2]
        have HN : Hid ((sfL s).length ≤ 1000) := by
          have h := h1.out
          rw [e1, List.append_nil] at h
          unfold Hid
          rw [hL.out, ← h]
          omega
        clear h1 h2 ow e1 e2
        go_wp2_with (first | (go_at_call 37; refine (isWhole_any _ _ hts).mono ?_; rintro e w1 ⟨rfl, hx⟩; rw [hw]; have hx' := hx.symm; clear hx; subst hx') | (go_at_call 39; refine (clone_any _ _ (by omega)).mono ?_; rintro e w2 ⟨rfl, hw2⟩))
        refine bodyPost_ret (v := .tuple #[u5, .string t, .bool true]) (by simp [results, Try.results11, go_sem]) rfl ⟨u5, ret_3 rfl HR.out.symm hk.out.symm, HL.out.keep hw2, HN.out, belt bb.out hw2⟩
      · obtain ⟨m, rfl, hm, e1, e2⟩ := splF_step hw hn
        obtain ⟨g1, g2⟩ : 0 < t.size ∧ fb t ≤ t.size := of_decide_eq_true hw
        have h1' : Hid (L ++ [hdt t] ++ splF m (tl t) = splF s.size s) := by
          unfold Hid
          rw [List.append_assoc, List.singleton_append, ← e1]
          exact h1.out
        have h2' : Hid (splR m (tl t) = splR s.size s) := by unfold Hid; rw [← e2]; exact h2.out
        have hts2 : (tl t).size = t.size - fb t := tl_size hw
        clear h1 h2 e1 e2 hn
        have hsr : w.heap.size ≤ wr.heap.size := bb.out.size
        go_wp2_with (first | (go_at_call 37; refine (isWhole_any _ _ hts).mono ?_; rintro e w1 ⟨rfl, hx⟩; rw [hw]; have hx' := hx.symm; clear hx; subst hx') | (go_at_call 38; refine (frameBytes_any _ _ g1 hts).mono ?_; rintro e w1 ⟨rfl, hx⟩; have hx' := hx.symm; clear hx; subst hx'))
        refine (clone_any _ _ (by rw [ByteArray.size_extract]; omega)).mono ?_
        rintro e w2 ⟨rfl, hw2⟩
        have O2 : Hid (OwT w.heap.size w2 u5 L) := ow.out.keep hw2
        have B2 : Hid (Below w.heap.size w w2) := belt bb.out hw2
        clear ow bb hw2
        go_wp2_with (at_builtin; refine wpList_append_gw _ rfl _ _ 25 rfl w.heap.size 9 i0 (.string ⟨#[]⟩) 1 16 Try.underlying25 hi hz0 hz1 hz2 rfl (by decide) _ _ _ rfl (OwT.alloc O2.out _) ⟨_, 0, none⟩ 1 1 [.string (hdt t)] rfl rfl (text_new1 _ (hdt t)) (by simp [Value.oneCell']) (by unfold maxLen; omega) (by omega) (by have := B2.out.size; simp; omega) ?_; intro v5 w5 hown hgrow; have B5 : Hid (Below w.heap.size w w5) := text_bel B2.out (by have := B2.out.size; omega) O2.out hgrow; have O5 : Hid (OwT w.heap.size w5 v5 (L ++ [hdt t])) := OwT.snoc rfl hown; clear hown hgrow)
        go_roundw
        case rel => exact ⟨tl t, v5, L ++ [hdt t], m, rfl, rfl, hm, by rw [List.length_append, List.length_singleton]; omega, h1', h2', O5, B5⟩
        case measure => show (tl t).size < t.size; omega
  · have hk : Hid (sfOk s = false) := decide_eq_false h
    have hL : Hid (sfL s = []) := by unfold Hid sfL; rw [hk.out]; rfl
    have hR : Hid (sfR s = ⟨#[]⟩) := by unfold Hid sfR; rw [hk.out]; rfl
    go_enter Try.func11, Try.ntmps11
    go_wp2
    refine bodyPost_ret (v := .tuple #[.slice none 0 0, .string ⟨#[]⟩, .bool false]) (by simp [results, Try.results11, go_sem]) rfl ⟨.slice none 0 0, ret_3 rfl hR.out.symm hk.out.symm, by rw [hL.out]; exact OwT.nil _ _, by rw [hL.out]; simp, Below.refl _ _⟩
set_option maxHeartbeats 3200000 in
theorem lSplitFrames_any (s : ByteArray) (w : World) (hs : s.size ≤ 1048576) :
    Calls Try.prog 12 #[.string s] w fun e w' => ∃ v, e = .returned (.tuple #[v, .string (sfR s), .bool (sfOk s)]) ∧ OwT w.heap.size w' v (sfL s) ∧ (sfL s).length ≤ 1000 ∧ Below w.heap.size w w' := by
  by_cases h : s.size ≤ 1000
  · have hk : Hid (sfOk s = true) := decide_eq_true h
    have hL : Hid (sfL s = splF s.size s) := by unfold Hid sfL; rw [hk.out]; rfl
    have hR : Hid (sfR s = splR s.size s) := by unfold Hid sfR; rw [hk.out]; rfl
    obtain ⟨i0, hi, hieq⟩ := Option.map_eq_some_iff.1 info_str
    obtain ⟨hz0, hz1, hz2⟩ : i0.zero = some (.string ⟨#[]⟩) ∧ i0.size = 1 ∧ i0.bytes = 16 := by simpa using hieq
    clear hieq
    go_enter Try.func12, Try.ntmps12
    go_wp2_with fail
    go_loopw [0, 5] (fun vt vv wr => ∃ (t : ByteArray) (u : Value) (L : List ByteArray) (n : Nat), vt = .string t ∧ vv = u ∧ t.size ≤ n ∧ L.length + t.size ≤ 1000 ∧ Hid (L ++ splF n t = splF s.size s) ∧ Hid (splR n t = splR s.size s) ∧ Hid (OwT w.heap.size wr u L) ∧ Hid (Below w.heap.size w wr)) (fun vt _ _ => (match vt with | .string t => t.size | _ => 0))
    case atStart => exact ⟨s, _, [], s.size, rfl, rfl, Nat.le_refl _, by simp; omega, rfl, rfl, OwT.nil _ _, Below.refl _ _⟩
    case round =>
      obtain ⟨t, u, L, n, rfl, rfl, hn, hLt, h1, h2, ow, bb⟩ := hrel
      obtain ⟨fb1, fb2⟩ := fb_bd t
      have hts : t.size ≤ 1048576 := by omega
      cases hw : whB t
      · obtain ⟨e1, e2⟩ := splF_end (n := n) hw
        have HL : Hid (OwT w.heap.size wr u5 (sfL s)) := by
          have h := h1.out
          rw [e1, List.append_nil] at h
          unfold Hid
          rw [hL.out, ← h]
          exact ow.out
        have HR : Hid (sfR s = t) := by unfold Hid; rw [hR.out, ← h2.out, e2]
        have HN : Hid ((sfL s).length ≤ 1000) := by
          have h := h1.out
          rw [e1, List.append_nil] at h
          unfold Hid
          rw [hL.out, ← h]
          omega
        clear h1 h2 ow e1 e2
        have hno : ¬ (0 < t.size ∧ fb t ≤ t.size) := of_decide_eq_false hw
        by_cases g1 : 0 < t.size
        · have g2 : ¬ fb t ≤ t.size := fun k => hno ⟨g1, k⟩
          rw [fb_eq g1] at g2
          have g3 := UInt8.toNat_lt t[0]
          clear hno
          go_wp2
          refine bodyPost_ret (v := .tuple #[u5, .string t, .bool true]) (by simp [results, Try.results12, go_sem]) rfl ⟨u5, ret_3 rfl HR.out.symm hk.out.symm, HL.out, HN.out, bb.out⟩
        · clear hno
          have g0 : t.size = 0 := by omega
          go_wp2
          refine bodyPost_ret (v := .tuple #[u5, .string t, .bool true]) (by simp [results, Try.results12, go_sem]) rfl ⟨u5, ret_3 rfl HR.out.symm hk.out.symm, HL.out, HN.out, bb.out⟩
      · obtain ⟨m, rfl, hm, e1, e2⟩ := splF_step hw hn
        obtain ⟨g1, g2⟩ : 0 < t.size ∧ fb t ≤ t.size := of_decide_eq_true hw
        have h1' : Hid (L ++ [hdt t] ++ splF m (tl t) = splF s.size s) := by
          unfold Hid
          rw [List.append_assoc, List.singleton_append, ← e1]
          exact h1.out
        have h2' : Hid (splR m (tl t) = splR s.size s) := by unfold Hid; rw [← e2]; exact h2.out
        have hts2 : (tl t).size = t.size - fb t := tl_size hw
        clear h1 h2 e1 e2 hn
        have hsr : w.heap.size ≤ wr.heap.size := bb.out.size
        have g3 := fb_eq g1
        have g4 := UInt8.toNat_lt t[0]
        have O2 : Hid (OwT w.heap.size wr u5 L) := ow
        have B2 : Hid (Below w.heap.size w wr) := bb
        have hh : Hid (hdt t = t.extract 0 (1 + t[0].toNat)) := by unfold Hid hdt; rw [g3]
        have ht : Hid (tl t = t.extract (1 + t[0].toNat) t.size) := by unfold Hid tl; rw [g3]
        rw [hh.out] at h1'
        go_wp2_with (at_builtin; refine wpList_append_gw _ rfl _ _ 25 rfl w.heap.size 9 i0 (.string ⟨#[]⟩) 1 16 Try.underlying25 hi hz0 hz1 hz2 rfl (by decide) _ _ _ rfl (OwT.alloc O2.out _) ⟨_, 0, none⟩ 1 1 [.string (t.extract 0 (1 + t[0].toNat))] rfl rfl (text_new1 _ (t.extract 0 (1 + t[0].toNat))) (by simp [Value.oneCell']) (by unfold maxLen; omega) (by omega) (by have := B2.out.size; simp; omega) ?_; intro v5 w5 hown hgrow; have B5 : Hid (Below w.heap.size w w5) := text_bel B2.out (by have := B2.out.size; omega) O2.out hgrow; have O5 : Hid (OwT w.heap.size w5 v5 (L ++ [t.extract 0 (1 + t[0].toNat)])) := OwT.snoc rfl hown; clear hown hgrow)
        go_roundw
        case rel => exact ⟨tl t, v5, L ++ [t.extract 0 (1 + t[0].toNat)], m, by rw [ht.out], rfl, hm, by rw [List.length_append, List.length_singleton]; omega, h1', h2', O5, B5⟩
        case measure => show (t.extract (1 + t[0].toNat) t.size).size < t.size; rw [← ht.out]; omega
  · have hk : Hid (sfOk s = false) := decide_eq_false h
    have hL : Hid (sfL s = []) := by unfold Hid sfL; rw [hk.out]; rfl
    have hR : Hid (sfR s = ⟨#[]⟩) := by unfold Hid sfR; rw [hk.out]; rfl
    go_enter Try.func12, Try.ntmps12
    go_wp2
    refine bodyPost_ret (v := .tuple #[.slice none 0 0, .string ⟨#[]⟩, .bool false]) (by simp [results, Try.results12, go_sem]) rfl ⟨.slice none 0 0, ret_3 rfl hR.out.symm hk.out.symm, by rw [hL.out]; exact OwT.nil _ _, by rw [hL.out]; simp, Below.refl _ _⟩
end Go.Proofs.Ytabbicfakkehpaa
