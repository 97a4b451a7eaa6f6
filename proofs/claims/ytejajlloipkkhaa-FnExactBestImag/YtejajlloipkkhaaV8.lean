/- The specification's list of the members of peers. -/
import Derived.Test.YtejajlloipkkhaaV7
namespace Go.Proofs.Ytejajlloipkkhaa
open Go.RowKit
set_option linter.unusedVariables false
def idsP (ps : List Pr) : List Int := ps.map Pr.id
theorem idsP_len (ps : List Pr) : (idsP ps).length = ps.length := by simp [idsP]
theorem idsP_get (ps : List Pr) (i : Nat) : (idsP ps).getD i 0 = (ps.getD i pr0).id := by
  simp only [idsP, List.getD_eq_getElem?_getD, List.getElem?_map]
  cases ps[i]? <;> rfl
theorem idsP_take {ps : List Pr} {k : Nat} (hk : k < ps.length) : idsP (ps.take (k + 1)) = idsP (ps.take k) ++ [(ps.getD k pr0).id] := by
  unfold idsP
  rw [List.take_succ_eq_append_getElem hk, List.map_append]
  simp [List.getD_eq_getElem?_getD, hk]
theorem alloc2_size {w w4 : World} {o q : Obj} (h : Below w.heap.size w w4) : w.heap.size ≤ ((w4.alloc o).alloc q).heap.size := by have := h.size; simp; omega
theorem cell_two_new (w : World) (o : Obj) (x : Value) (t : TypeId) : ∀ j u, [x][j]? = some u → ((w.alloc o).alloc (.cells #[x] t)).cell? ((⟨w.heap.size + 1, 0, none⟩ : Addr).add j) = some u := by
  have := cell_one_new (w.alloc o) x t
  have e : (w.alloc o).heap.size = w.heap.size + 1 := by simp
  rwa [e] at this
set_option maxHeartbeats 3200000 in
theorem lmembers_any (b d : Int) (a : Option Addr) (cap : Nat) (ps : List Pr) (w : World) (hm : ps.length ≤ 1048576) (hr : PeersAt w a ps) :
    Calls Try.prog 94 #[.agg #[.int .i64 b, .int .i64 d, .slice a ps.length cap]] w fun e w' => ∃ v, e = .returned v ∧ w'.ownsRow w.heap.size 3 1 v (idsP ps).length ((idsP ps).map (Value.int .i64)) ∧ Below w.heap.size w w' := by
  obtain ⟨i0, hi, hz0, hz1, hz2⟩ := info_parts'
  have HR : Hid (PeersAt w a ps) := hr
  clear hr
  go_enter Try.func94, Try.ntmps94
  go_wp2_with fail
  go_loopw [3, 9] (fun vs vi wr => ∃ (vo : Value) (k : Nat), vs = vo ∧ k ≤ ps.length ∧ vi = .int .i64 k ∧ wr.ownsRow w.heap.size 3 1 vo (idsP (ps.take k)).length ((idsP (ps.take k)).map (Value.int .i64)) ∧ Below w.heap.size w wr) (fun _ vi _ => ps.length - (intOf vi).toNat)
  case atStart => exact ⟨_, 0, rfl, Nat.zero_le _, rfl, World.ownsRow_nil _ _ _ _, (Below.refl _ _).alloc (Nat.le_refl _) _⟩
  case round =>
    obtain ⟨vo, k, hvo, hk, rfl, hown, hbel⟩ := hrel
    have hvo := hvo.symm
    subst hvo
    have HO : Hid (wr.ownsRow w.heap.size 3 1 vo (idsP (ps.take k)).length ((idsP (ps.take k)).map (Value.int .i64))) := hown
    have HB : Hid (Below w.heap.size w wr) := hbel
    clear hown hbel
    by_cases hlt : k < ps.length
    · obtain ⟨bk, off, rfl⟩ := peersAt_form HR.out (by omega)
      obtain ⟨c0, c1, c2, ab, cb, c3, _, hn, _⟩ := (peersAt_cell (HR.out.keep HB.out) (by omega)).2 k hlt
      have ht := idsP_take hlt
      have hle : (idsP (ps.take k)).length ≤ 1048576 := by rw [idsP_len, List.length_take]; omega
      have HT : Hid (idsP (ps.take (k + 1)) = idsP (ps.take k) ++ [(ps.getD k pr0).id]) := ht
      clear ht
      generalize (ps.getD k pr0).backs.length = nb at c3 hn
      generalize (ps.getD k pr0).id = x0 at c0 HT
      generalize (ps.getD k pr0).succ = x1 at c1
      generalize (ps.getD k pr0).point = x2 at c2
      go_wp2_with (at_builtin; refine wpList_append_own _ rfl (.tmp 13) (.tmp 16) 33 rfl w.heap.size 3 i0 (.int .i64 0) 1 8 Try.underlying33 hi hz0 hz1 hz2 rfl (by decide) _ _ _ rfl ((HO.out.alloc _).alloc _) ⟨wr.heap.size + 1, 0, none⟩ 1 1 [.int .i64 x0] rfl rfl (cell_two_new _ _ _ _) (by simp [Value.oneCell']) (by unfold maxLen; omega) (by omega) (alloc2_size HB.out) ?_; intro v5 w5 hown5 hgrow5 _; have HB5 : Hid (Below w.heap.size w w5) := grown_bel ((HB.out.alloc HB.out.size _).alloc (alloc_size HB.out) _) hgrow5 (alloc2_size HB.out) (fun k hk => (HO.out.lt k hk).1); have HO5 : Hid (w5.ownsRow w.heap.size 3 1 v5 (idsP (ps.take (k + 1))).length ((idsP (ps.take (k + 1))).map (Value.int .i64))) := own_snoc HT.out hown5; clear hown5 hgrow5)
      go_roundw
      case rel => exact ⟨_, k + 1, rfl, by omega, by go_num, HO5.out, HB5.out⟩
      case measure => simp [intOf]; omega
    · have hO := HO.out
      rw [List.take_of_length_le (by omega)] at hO
      have HO2 : Hid (wr.ownsRow w.heap.size 3 1 vo (idsP ps).length ((idsP ps).map (Value.int .i64))) := hO
      clear hO
      go_wp2
      go_ret
      exact ⟨_, rfl, HO2.out, HB.out⟩
end Go.Proofs.Ytejajlloipkkhaa
