/- Frames laid behind one another, split: the plain function, and its helpers in the program. -/
import Derived.Test.YtabbicfakkehpaaDoorSf0
namespace Go.Proofs.YtabbicfakkehpaaDoor
open Go.RowKit
set_option linter.unusedVariables false
/-- how many bytes a text's first frame has -/
def fb (s : ByteArray) : Nat := if h : 0 < s.size then 1 + s[0].toNat else 1
theorem fb_eq {s : ByteArray} (h : 0 < s.size) : fb s = 1 + s[0].toNat := by unfold fb; rw [dif_pos h]
theorem fb_bd (s : ByteArray) : 1 ≤ fb s ∧ fb s ≤ 256 := by
  unfold fb
  split
  · rename_i h
    have := UInt8.toNat_lt s[0]
    omega
  · omega
def whB (s : ByteArray) : Bool := decide (0 < s.size ∧ fb s ≤ s.size)
def tl (s : ByteArray) : ByteArray := s.extract (fb s) s.size
def hdt (s : ByteArray) : ByteArray := s.extract 0 (fb s)
def splF : Nat → ByteArray → List ByteArray
  | 0, _ => []
  | n + 1, s => if whB s = true then hdt s :: splF n (tl s) else []
def splR : Nat → ByteArray → ByteArray
  | 0, s => s
  | n + 1, s => if whB s = true then splR n (tl s) else s
theorem tl_size {s : ByteArray} (h : whB s = true) : (tl s).size = s.size - fb s := by
  unfold tl
  rw [ByteArray.size_extract]
  omega
theorem splF_step {n : Nat} {s : ByteArray} (h : whB s = true) (hn : s.size ≤ n) : ∃ m, n = m + 1 ∧ (tl s).size ≤ m ∧ splF n s = hdt s :: splF m (tl s) ∧ splR n s = splR m (tl s) := by
  have h2 : 0 < s.size ∧ fb s ≤ s.size := of_decide_eq_true h
  have h3 := fb_bd s
  obtain ⟨m, rfl⟩ : ∃ m, n = m + 1 := ⟨n - 1, by omega⟩
  refine ⟨m, rfl, by rw [tl_size h]; omega, ?_, ?_⟩
  · rw [splF, if_pos h]
  · rw [splR, if_pos h]
theorem splF_end {n : Nat} {s : ByteArray} (h : whB s = false) : splF n s = [] ∧ splR n s = s := by
  cases n with
  | zero => exact ⟨rfl, rfl⟩
  | succ n =>
    unfold splF
    rw [splR, h]
    exact ⟨rfl, rfl⟩
theorem frameBytes_any (s : ByteArray) (w : World) (h : 0 < s.size) (hs : s.size ≤ 1048576) :
    Calls Tryd.prog 39 #[.string s] w fun e w' => e = .returned (.int .i64 (fb s)) ∧ w' = w := by
  have hv : Hid ((fb s : Int) = 1 + (s[0].toNat : Int)) := by unfold Hid; rw [fb_eq h]; simp
  have hb := UInt8.toNat_lt s[0]
  go_enter Tryd.func39, Tryd.ntmps39
  go_wp2
  go_ret
  exact ⟨ret_int hv.out.symm, rfl⟩
theorem isWhole_any (s : ByteArray) (w : World) (hs : s.size ≤ 1048576) :
    Calls Tryd.prog 37 #[.string s] w fun e w' => e = .returned (.bool (whB s)) ∧ w' = w := by
  by_cases h : 0 < s.size
  · have hb := fb_bd s
    by_cases h2 : fb s ≤ s.size
    · have hv : Hid (whB s = true) := decide_eq_true ⟨h, h2⟩
      go_enter Tryd.func37, Tryd.ntmps37
      go_wp2_with (go_at_call 39; refine (frameBytes_any _ _ h hs).mono ?_; rintro e w1 ⟨rfl, rfl⟩)
      go_ret
      exact ⟨ret_bool hv.out.symm, rfl⟩
    · have hv : Hid (whB s = false) := decide_eq_false (fun k => h2 k.2)
      go_enter Tryd.func37, Tryd.ntmps37
      go_wp2_with (go_at_call 39; refine (frameBytes_any _ _ h hs).mono ?_; rintro e w1 ⟨rfl, rfl⟩)
      go_ret
      exact ⟨ret_bool hv.out.symm, rfl⟩
  · have hv : Hid (whB s = false) := decide_eq_false (fun k => h k.1)
    have hz : s.size = 0 := by omega
    go_enter Tryd.func37, Tryd.ntmps37
    go_wp2
    go_ret
    exact ⟨ret_bool hv.out.symm, rfl⟩
/-- a row of texts of one's own -/
def OwT (B : Nat) (w : World) (v : Value) (L : List ByteArray) : Prop := w.ownsRow B 9 1 v L.length (L.map Value.string)
theorem OwT.keep {B : Nat} {w w1 : World} {v : Value} {L : List ByteArray} (h : OwT B w v L) (hb : Below w.heap.size w w1) : OwT B w1 v L := by
  obtain ⟨h1, h2⟩ := h
  refine ⟨h1, ?_⟩
  rcases h2 with h2 | ⟨g, cap, cur, rfl, hg, hr, rest⟩
  · exact .inl h2
  · exact .inr ⟨g, cap, cur, rfl, hg, (hb.block g (Array.getElem?_eq_some_iff.1 hr).1).trans hr, rest⟩
theorem OwT.alloc {B : Nat} {w : World} {v : Value} {L : List ByteArray} (h : OwT B w v L) (o : Obj) : OwT B (w.alloc o) v L := h.keep ((Below.refl _ _).alloc (Nat.le_refl _) o)
theorem OwT.lo {B : Nat} {w : World} {v : Value} {L : List ByteArray} (h : OwT B w v L) : ∀ k, v.ownBlock = some k → B ≤ k ∧ k < w.heap.size := World.ownsRow.lt h
theorem OwT.snoc {B : Nat} {w : World} {v : Value} {L : List ByteArray} {s : ByteArray} {n : Nat} (hn : n = L.length + 1) (h : w.ownsRow B 9 1 v n (L.map Value.string ++ [.string s])) : OwT B w v (L ++ [s]) := by
  unfold OwT
  rw [List.map_append, List.length_append, List.length_singleton, ← hn]
  exact h
theorem OwT.nil (B : Nat) (w : World) : OwT B w (.slice none 0 0) [] := World.ownsRow_nil _ _ _ _
theorem text_new1 (w : World) (s : ByteArray) : ∀ j u, ([.string s] : List Value)[j]? = some u → (w.alloc (.cells #[.string s] 9)).cell? ((⟨w.heap.size, 0, none⟩ : Addr).add j) = some u := by
  intro j u hj
  have e : (⟨w.heap.size, 0, none⟩ : Addr).add j = ⟨w.heap.size, j, none⟩ := by unfold Addr.add; split <;> simp_all
  rw [e, cell_of_row _ _ _ _ _ _ (heap_alloc_new w (.cells #[.string s] 9))]
  simpa using hj
theorem info_str : (Tryd.prog.info? 9).map (fun i => (i.zero, i.size, i.bytes)) = some (some (.string ⟨#[]⟩), 1, 16) := by kernel_rfl
theorem text_bel {B : Nat} {w0 w w5 : World} {o : Obj} {v v5 : Value} {L : List ByteArray} (hb : Below B w0 w) (hB : B ≤ w.heap.size) (ho : OwT B w v L) (hg : Gw (w.alloc o) w5 v v5) : Below B w0 w5 :=
  hb.trans ((((Gw.refl w v).alloc o).trans hg).below hB (fun k hk => (ho.lo k hk).1))
theorem ret_3 {v v' : Value} {s s' : ByteArray} {b b' : Bool} (h0 : v = v') (h : s = s') (k : b = b') : Ending.returned (.tuple #[v, .string s, .bool b]) = .returned (.tuple #[v', .string s', .bool b']) := by rw [h0, h, k]
def sfOk (s : ByteArray) : Bool := decide (s.size ≤ 1000)
def sfL (s : ByteArray) : List ByteArray := if sfOk s = true then splF s.size s else []
def sfR (s : ByteArray) : ByteArray := if sfOk s = true then splR s.size s else ⟨#[]⟩
end Go.Proofs.YtabbicfakkehpaaDoor
