/- Frames and messages that are drawn. -/
import Derived.Test.YtabbicfakkehpaaFr0
import Derived.Test.YtabbicfakkehpaaDm1
import Derived.Test.YtabbicfakkehpaaC3
import Derived.Test.YtabbicfakkehpaaSf2
namespace Go.Proofs.Ytabbicfakkehpaa
open Go.RowKit Go.Deep
set_option linter.unusedVariables false
set_option linter.unusedSimpArgs false
theorem row_of_owns {w : World} {B : Nat} {v : Value} {L : List Int} (h : w.ownsRow B 3 1 v L.length (L.map (Value.int .i64))) : ∃ a c, v = .slice a L.length c ∧ RowAt w a L := by
  rcases h.2 with ⟨rfl, h0⟩ | ⟨g, cap, cur, rfl, hg, hr, h1, h2, h3, h4⟩
  · have : L = [] := List.eq_nil_of_length_eq_zero h0
    subst this
    exact ⟨none, 0, rfl, .inl rfl⟩
  · refine ⟨_, cap, rfl, .inr ⟨g, 0, rfl, (Array.getElem?_eq_some_iff.1 hr).1, fun i hi => ?_⟩⟩
    rw [cell_of_row w _ _ _ _ _ hr]
    have h8 := congrArg (·[i]?) h4
    simp only [Nat.mul_one, List.getElem?_take_of_lt hi, Array.getElem?_toList, List.getElem?_map] at h8
    rw [Nat.zero_add, h8, List.getD_eq_getElem?_getD, List.getElem?_eq_getElem hi]
    rfl
/-- a cursor of one's own, and a space behind it -/
structure DS (w wr : World) (N : Nat) (a : Option Addr) (cap : Nat) (zs : List Int) (b d : Int) (X : Nat) : Prop where
  bel : Below w.heap.size w wr
  cur : CurAt wr w.heap.size N a cap zs
  sp : Bk wr X #[.int .i64 b, .int .i64 d] 30
  hX : w.heap.size < X
theorem DS.step {w wr w1 : World} {N M : Nat} {a : Option Addr} {cap : Nat} {zs : List Int} {b d : Int} {X : Nat} (h : DS w wr N a cap zs b d X) (mv : Mv w.heap.size wr w1) (hc : CurAt w1 w.heap.size M a cap zs) : DS w w1 M a cap zs b d X :=
  ⟨mv.below h.bel (Nat.le_refl _), hc, h.sp.mv mv (by have := h.hX; omega), h.hX⟩
theorem DS.keep {w wr w1 : World} {N : Nat} {a : Option Addr} {cap : Nat} {zs : List Int} {b d : Int} {X : Nat} (h : DS w wr N a cap zs b d X) (hb : Below wr.heap.size wr w1) : DS w w1 N a cap zs b d X :=
  h.step (Mv.of_below hb) (h.cur.keep hb)
theorem of_any (ys : List ByteArray) (q cp : Nat) (w : World) (g n : Nat) (a : Option Addr) (cap : Nat) (zs : List Int) (hc : CurAt w g n a cap zs) (hn : n ≤ 1000000000) (h1 : 1 ≤ ys.length) (h2 : ys.length ≤ 65536)
    (hq : q < w.heap.size) (hg : ¬ q = g) (hy : ∀ i, i < ys.length → w.cell? ⟨q, 0 + i, none⟩ = some (.string (ys.getD i e0))) :
    Calls Try.prog 36 #[.pointer (some ⟨g, 0, none⟩), .slice (some ⟨q, 0, none⟩) ys.length cp] w fun e w' => ∃ v : ByteArray, e = .returned (.string v) ∧ v ∈ ys ∧ Mv g w w' ∧ CurAt w' g (n + 2) a cap zs := by
  have HY : Hid (∀ i, i < ys.length → w.cell? ⟨q, 0 + i, none⟩ = some (.string (ys.getD i e0))) := hy
  clear hy
  go_enter Try.func36, Try.ntmps36
  go_wp2_with fail
  refine (pick_any _ _ _ _ _ _ _ hc (by omega) (by omega) (by omega)).mono ?_
  rintro e w1 ⟨v, rfl, h0, hlt, mv, hc1⟩
  obtain ⟨k, rfl⟩ := Int.eq_ofNat_of_zero_le h0
  have hk : k < ys.length := by omega
  have hc2 := (mv.cell hq hg).trans (HY.out k hk)
  rw [Nat.zero_add] at hc2
  have hmem : ys.getD k e0 ∈ ys := by rw [List.getD_eq_getElem?_getD, List.getElem?_eq_getElem hk]; simp
  generalize ys.getD k e0 = y at hc2 hmem
  go_wp2
  go_ret
  exact ⟨y, rfl, hmem, mv, hc1⟩
theorem texts_new4 (w : World) (x y z u : ByteArray) : ∀ i, i < [x, y, z, u].length → (w.alloc (.cells #[.string x, .string y, .string z, .string u] 9)).cell? ⟨w.heap.size, 0 + i, none⟩ = some (.string ([x, y, z, u].getD i e0)) := by
  intro i hi
  rw [cell_of_row _ _ _ _ _ _ (heap_alloc_new w (.cells #[.string x, .string y, .string z, .string u] 9))]
  match i, hi with
  | 0, _ => rfl
  | 1, _ => rfl
  | 2, _ => rfl
  | 3, _ => rfl
set_option maxRecDepth 100000 in
set_option maxHeartbeats 6400000 in
theorem drawSplit_any (a : Option Addr) (cap : Nat) (zs : List Int) (w : World) (hm : zs.length ≤ 1048576) (hr : RowB w a zs) :
    Calls Try.prog 10 #[.slice a zs.length cap] w fun e w' => ∃ s : ByteArray, e = .returned (.string s) ∧ s.size ≤ 1000 ∧ Below w.heap.size w w' := by
  have hc0 := cur_new (cap := cap) hr hm (Below.refl w.heap.size w)
  have HC0 : Hid _ := hc0
  clear hc0
  go_enter Try.func10, Try.ntmps10
  go_wp2_with fail
  refine (space_any _ _ _ _ _ _ HC0.out (by omega)).mono ?_
  rintro e w1 ⟨b, d, rfl, b1, b2, d1, d2, mv1, hc1⟩
  have st : Hid (DS w (w1.alloc (.cells #[.int .i64 b, .int .i64 d] 30)) 12 a cap zs b d w1.heap.size) := by
    have hb : Below w.heap.size w w1 := mv1.below ((Below.refl _ _).alloc (Nat.le_refl _) _) (Nat.le_refl _)
    have hs := mv1.size
    simp at hs
    exact ⟨hb.alloc hb.size _, hc1.keep ((Below.refl _ _).alloc (Nat.le_refl _) _), Bk.new _ _ _, by omega⟩
  clear mv1 hc1 HC0
  obtain ⟨X, hX⟩ : ∃ X, w1.heap.size = X := ⟨_, rfl⟩
  go_wp2_with fail
  rw [hX] at st
  generalize w1.alloc (.cells #[.int .i64 b, .int .i64 d] 30) = w2 at *
  clear hX
  refine (pick_any 4 _ _ _ _ _ _ st.out.cur (by omega) (by omega) (by omega)).mono ?_
  rintro e w3 ⟨v, rfl, v1, v2, mv, hc⟩
  have st3 : Hid (DS w w3 14 a cap zs b d X) := st.out.step mv hc
  clear st mv hc
  go_wp2_with fail
  go_loopw [5, 6] (fun vs vi wr => ∃ (s : ByteArray) (q : Int) (N : Nat), vs = .string s ∧ vi = .int .i64 q ∧ 0 ≤ q ∧ q ≤ 3 ∧ (s.size : Int) ≤ 61 * (3 - q) ∧ (N : Int) ≤ 14 + 400 * (3 - q) ∧ Hid (DS w wr N a cap zs b d X)) (fun _ vi _ => (intOf vi).toNat)
  case atStart => exact ⟨⟨#[]⟩, v, 14, rfl, rfl, v1, by omega, by simp [ByteArray.size]; omega, by omega, st3⟩
  case round =>
    clear st3
    obtain ⟨s, q, N, rfl, rfl, q1, q2, hsz, hN, st⟩ := hrel
    by_cases hq : 0 < q
    · go_wp2_with fail
      refine wp_region_held_drew (S := fun w' => Bk w' X #[.int .i64 b, .int .i64 d] 30) (by kernel_rfl) (st.out.sp.drew) (fun hs0 => ?_)
      have st0 : Hid (DS w wr.drew N a cap zs b d X) := st.out.step (Mv.of_below ((Below.refl _ _).drew)) (st.out.cur.keep ((Below.refl _ _).drew))
      clear st
      generalize wr.drew = wd at *
      refine wpAnyH_take (i := 0) (oi := _) (v := _) rfl (by kernel_rfl) (by kernel_rfl) (by kernel_rfl) (fun _ _ _ h => h) (yieldsIf_bk rfl rfl rfl (fun w' h => h) Try.underlying30 rfl (by kernel_rfl)) hs0 ?_
      simp only [Act.put, List.setIfInBounds_toArray, List.set_cons_zero, List.set_cons_succ]
      refine wpAnyH_take (i := 1) (oi := _) (v := _) rfl (by kernel_rfl) (by kernel_rfl) (by kernel_rfl) (fun _ _ _ h => h) (.inl ⟨by rfl, by intro w hSw; go_simp; with_reducible rfl⟩) hs0 ?_
      simp only [Act.put, List.setIfInBounds_toArray, List.set_cons_zero, List.set_cons_succ]
      refine wpAnyH_take (i := 2) (oi := _) (v := _) rfl (by kernel_rfl) (by kernel_rfl) (by kernel_rfl) (fun _ _ _ h => h) (yieldsIf_bk rfl rfl rfl (fun w' h => h) Try.underlying30 rfl (by kernel_rfl)) hs0 ?_
      simp only [Act.put, List.setIfInBounds_toArray, List.set_cons_zero, List.set_cons_succ]
      refine wpAnyH_ready (rs := [3]) (by kernel_rfl) (by simp) ?_
      refine AllReadyH.cons rfl (fun K hK => ?_) AllReadyH.nil
      go_simp
      refine (msg_any b d _ w.heap.size N a cap zs st0.out.cur (by omega)).mono ?_
      rintro e w2 ⟨m0, m1, m2, m3, m4, m5, m6, m7, vl, L, rfl, hown, hlen, mv, hc⟩
      have st2 : Hid (DS w w2 (N + 400) a cap zs b d X) := st0.out.step mv hc
      have hs1 := st2.out.sp
      refine hK.out _ _ hs1 (fun _ => ?_)
      clear hK K mv hc st0
      obtain ⟨va, vc, hvl, hrw⟩ := row_of_owns hown
      subst hvl
      refine wpAnyH_ready (rs := [4]) (by kernel_rfl) (by simp) ?_
      refine AllReadyH.cons rfl (fun K hK => ?_) AllReadyH.nil
      go_simp
      refine (lMsgBytes_any b d m0 m1 m2 m3 m4 m5 m6 m7 va vc _ L _ rfl (by omega) hrw).mono ?_
      rintro e w3 ⟨rfl, hw3⟩
      have st3 : Hid (DS w w3 (N + 400) a cap zs b d X) := st2.out.step (Mv.of_below hw3) (st2.out.cur.keep hw3)
      have hs2 := st3.out.sp
      refine hK.out _ _ hs2 (fun _ => ?_)
      clear hK K st2 hown hrw hw3
      refine wpAnyH_take (i := 5) (oi := _) (v := _) rfl (by kernel_rfl) (by kernel_rfl) (by kernel_rfl) (fun _ _ _ h => h) (.inl ⟨by rfl, by intro w hSw; go_simp; with_reducible rfl⟩) hs2 ?_
      simp only [Act.put, List.setIfInBounds_toArray, List.set_cons_zero, List.set_cons_succ]
      refine wpAnyH_take (i := 6) (oi := _) (v := _) rfl (by kernel_rfl) (by kernel_rfl) (by kernel_rfl) (fun _ _ _ h => h) (.inl ⟨by rfl, by intro w hSw; go_simp; with_reducible rfl⟩) hs2 ?_
      simp only [Act.put, List.setIfInBounds_toArray, List.set_cons_zero, List.set_cons_succ]
      refine wpAnyH_take (i := 7) (oi := _) (v := _) rfl (by kernel_rfl) (by kernel_rfl) (by kernel_rfl) (fun _ _ _ h => h) (.inl ⟨by rfl, by intro w hSw; go_simp; with_reducible rfl⟩) hs2 ?_
      simp only [Act.put, List.setIfInBounds_toArray, List.set_cons_zero, List.set_cons_succ]
      refine wpAnyH_take (i := 8) (oi := _) (v := _) rfl (by kernel_rfl) (by kernel_rfl) (by kernel_rfl) (fun _ _ _ h => h) (.inl ⟨by rfl, by intro w hSw; go_simp; with_reducible rfl⟩) hs2 ?_
      simp only [Act.put, List.setIfInBounds_toArray, List.set_cons_zero, List.set_cons_succ]
      refine wpAnyH_take (i := 9) (oi := _) (v := _) rfl (by kernel_rfl) (by kernel_rfl) (by kernel_rfl) (fun _ _ _ h => h) (.inl ⟨by rfl, by intro w hSw; go_simp; with_reducible rfl⟩) hs2 ?_
      simp only [Act.put, List.setIfInBounds_toArray, List.set_cons_zero, List.set_cons_succ]
      refine wpAnyH_done (by kernel_rfl) ?_ _
      have hmz := mbS_size b d m0 m1 m2 m3 m4 m5 m6 m7 L
      generalize mbS b d m0 m1 m2 m3 m4 m5 m6 m7 L = t at *
      have hlim : ¬ 9223372036854775807 < s.size + t.size := by omega
      clear hs0 hs1 hs2
      go_wp2
      go_roundw
      case rel => exact ⟨s ++ t, q - 1, N + 400, rfl, by go_num, by omega, by omega, by rw [ByteArray.size_append]; omega, by omega, st3⟩
      case measure => simp [intOf]; omega
    · have hs2 : s.size ≤ 183 := by omega
      have hN2 : N ≤ 1214 := by omega
      go_wp2_with fail
      refine (of_any [⟨#[]⟩, ⟨#[5, 97, 98]⟩, ⟨#[0]⟩, ⟨#[255]⟩] _ _ _ w.heap.size N a cap zs (st.out.cur.keep ((Below.refl _ _).alloc (Nat.le_refl _) _)) (by omega) (by simp) (by simp) (by simp) (by have := st.out.cur.lt; omega) (texts_new4 _ _ _ _ _)).mono ?_
      rintro e w4 ⟨t, rfl, hmem, mv, hc⟩
      have hbel : Below w.heap.size w w4 := mv.below (st.out.bel.alloc st.out.bel.size _) (Nat.le_refl _)
      have htz : t.size ≤ 3 := by
        simp only [List.mem_cons, List.not_mem_nil, or_false] at hmem
        rcases hmem with rfl | rfl | rfl | rfl <;> simp [ByteArray.size]
      have hlim : ¬ 9223372036854775807 < s.size + t.size := by omega
      clear mv hc hmem
      go_wp2
      go_ret
      exact ⟨s ++ t, rfl, by rw [ByteArray.size_append]; omega, hbel⟩
end Go.Proofs.Ytabbicfakkehpaa
