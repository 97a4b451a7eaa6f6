/- The program reads the fields of a text. -/
import Derived.Test.YtabbicfakkehpaaDoorRd5
import Derived.Deep.DeepCutAuto
namespace Go.Proofs.YtabbicfakkehpaaDoor
open Go.RowKit Go.Deep
set_option linter.unusedVariables false
set_option linter.unusedSimpArgs false
/-- whether the numbers are none too great, the first j fields looked at -/
def okJ (b d : Int) (s : ByteArray) (F : List Int) : Nat → Bool
  | 0 => decide (a2 s 3 ≤ sz b - 1) && decide (a2 s 5 ≤ sz b - 1)
  | j + 1 => okJ b d s F j && (if F.getD j 0 = 5 then allLe (lv s) (mo b d (F.getD j 0)) else decide (a2 s (7 + 2 * j) ≤ mo b d (F.getD j 0)))
theorem okJ_num {b d : Int} {s : ByteArray} {F : List Int} {j p : Nat} {ok : Bool} {f : Int} (h : ok = okJ b d s F j) (hf : F.getD j 0 = f) (h5 : ¬ f = 5) (hp : p = 7 + 2 * j) : (ok && decide (a2 s p ≤ mo b d f)) = okJ b d s F (j + 1) := by
  show _ = (okJ b d s F j && (if F.getD j 0 = 5 then allLe (lv s) (mo b d (F.getD j 0)) else decide (a2 s (7 + 2 * j) ≤ mo b d (F.getD j 0))))
  rw [hf, if_neg h5, h, hp]
theorem okJ_list {b d : Int} {s : ByteArray} {F : List Int} {j : Nat} {ok : Bool} (h : ok = okJ b d s F j) (hf : F.getD j 0 = 5) : (ok && allLe (lv s) (mo b d 5)) = okJ b d s F (j + 1) := by
  show _ = (okJ b d s F j && (if F.getD j 0 = 5 then allLe (lv s) (mo b d (F.getD j 0)) else decide (a2 s (7 + 2 * j) ≤ mo b d (F.getD j 0))))
  rw [hf, if_pos rfl, h]
/-- the four blocks of readFields: the space, the answer, the message, the reader -/
structure FK (w wr : World) (b d : Int) (s : ByteArray) (p : Nat) (ok : Bool) (m0 m1 m2 m3 m4 m5 m6 m7 : Int) (va : Option Addr) (vn vc : Nat) (L : List Int) (aF : Option Addr) (nF : Nat) (F : List Int) (B0 : Nat) : Prop where
  bel : Below w.heap.size w wr
  ks : Bk wr w.heap.size #[.int .i64 b, .int .i64 d] 29
  kr : Bk wr (w.heap.size + 1) #[.int .i64 0, .int .i64 0, .int .i64 0, .int .i64 0, .int .i64 0, .int .i64 0, .int .i64 0, .int .i64 0, .slice none 0 0] 26
  kx : Bk wr (w.heap.size + 2) #[.int .i64 m0, .int .i64 m1, .int .i64 m2, .int .i64 m3, .int .i64 m4, .int .i64 m5, .int .i64 m6, .int .i64 m7, .slice va vn vc] 26
  rd : Rd wr (w.heap.size + 3) s p ok
  hB : w.heap.size + 4 ≤ B0
  hB2 : B0 ≤ wr.heap.size
  fl : OwnLs (w.heap.size + 4) B0 wr aF nF F
  ow : OwnLs B0 wr.heap.size wr va vn L
section
variable {w wr w1 : World} {b d : Int} {s : ByteArray} {p : Nat} {ok : Bool} {m0 m1 m2 m3 m4 m5 m6 m7 : Int} {va : Option Addr} {vn vc : Nat} {L : List Int} {aF : Option Addr} {nF : Nat} {F : List Int} {B0 : Nat}
theorem FK.keep (h : FK w wr b d s p ok m0 m1 m2 m3 m4 m5 m6 m7 va vn vc L aF nF F B0) (hb : Below wr.heap.size wr w1) : FK w w1 b d s p ok m0 m1 m2 m3 m4 m5 m6 m7 va vn vc L aF nF F B0 :=
  ⟨belt h.bel hb, h.ks.keep hb, h.kr.keep hb, h.kx.keep hb, h.rd.below hb, h.hB, Nat.le_trans h.hB2 hb.size, h.fl.keep hb, (h.ow.keep hb).wide (Nat.le_refl _) hb.size⟩
theorem FK.nxt {p' : Nat} {ok' : Bool} (h : FK w wr b d s p ok m0 m1 m2 m3 m4 m5 m6 m7 va vn vc L aF nF F B0) (hb : But (w.heap.size + 3) wr w1) (hr : Rd w1 (w.heap.size + 3) s p' ok') : FK w w1 b d s p' ok' m0 m1 m2 m3 m4 m5 m6 m7 va vn vc L aF nF F B0 := by
  have hB := h.hB
  exact ⟨hb.bel h.bel (by omega) (Nat.le_refl _), hb.bk h.ks (by omega), hb.bk h.kr (by omega), hb.bk h.kx (by omega), hr, hB, Nat.le_trans h.hB2 hb.size, h.fl.blocks (fun k h1 h2 h3 => hb.block k h3 (by omega)), (h.ow.blocks (fun k h1 h2 h3 => hb.block k h3 (by omega))).wide (Nat.le_refl _) hb.size⟩
theorem FK.set (h : FK w wr b d s p ok m0 m1 m2 m3 m4 m5 m6 m7 va vn vc L aF nF F B0) (i : Nat) (v : Int) {k0 k1 k2 k3 k4 k5 k6 k7 : Int}
    (hc : (#[.int .i64 m0, .int .i64 m1, .int .i64 m2, .int .i64 m3, .int .i64 m4, .int .i64 m5, .int .i64 m6, .int .i64 m7, .slice va vn vc] : Array Value).setIfInBounds i (.int .i64 v) = #[.int .i64 k0, .int .i64 k1, .int .i64 k2, .int .i64 k3, .int .i64 k4, .int .i64 k5, .int .i64 k6, .int .i64 k7, .slice va vn vc]) :
    FK w (wr.setCell ⟨w.heap.size + 2, i, none⟩ (.int .i64 v)) b d s p ok k0 k1 k2 k3 k4 k5 k6 k7 va vn vc L aF nF F B0 := by
  have hB := h.hB
  have hsz : (wr.setCell ⟨w.heap.size + 2, i, none⟩ (.int .i64 v)).heap.size = wr.heap.size := by simp [World.setCell]
  refine ⟨h.bel.setCell (p := ⟨w.heap.size + 2, i, none⟩) (by simp) _, h.ks.oth (by omega) i _, h.kr.oth (by omega) i _, ?_, h.rd.oth (by omega) i _, hB, by rw [hsz]; exact h.hB2, h.fl.blocks (fun k h1 h2 h3 => heap_setCell_other _ _ _ _ (by simp; omega)), (h.ow.blocks (fun k h1 h2 h3 => heap_setCell_other _ _ _ _ (by simp; omega))).wide (Nat.le_refl _) (by rw [hsz]; exact Nat.le_refl _)⟩
  rw [← hc]
  exact h.kx.set i _
/-- the list is written -/
theorem FK.lst (h : FK w wr b d s p ok m0 m1 m2 m3 m4 m5 m6 m7 va vn vc L aF nF F B0) {a' : Option Addr} {n' c' : Nat} {L' : List Int} (ho : OwnLs B0 wr.heap.size wr a' n' L') :
    FK w (wr.setCell ⟨w.heap.size + 2, 8, none⟩ (.slice a' n' c')) b d s p ok m0 m1 m2 m3 m4 m5 m6 m7 a' n' c' L' aF nF F B0 := by
  have hB := h.hB
  have hsz : (wr.setCell ⟨w.heap.size + 2, 8, none⟩ (.slice a' n' c')).heap.size = wr.heap.size := by simp [World.setCell]
  refine ⟨h.bel.setCell (p := ⟨w.heap.size + 2, 8, none⟩) (by simp) _, h.ks.oth (by omega) 8 _, h.kr.oth (by omega) 8 _, ?_, h.rd.oth (by omega) 8 _, hB, by rw [hsz]; exact h.hB2, h.fl.blocks (fun k h1 h2 h3 => heap_setCell_other _ _ _ _ (by simp; omega)), (ho.blocks (fun k h1 h2 h3 => heap_setCell_other _ _ _ _ (by simp; omega))).wide (Nat.le_refl _) (by rw [hsz]; exact Nat.le_refl _)⟩
  have := h.kx.set 8 (.slice a' n' c')
  simpa using this
theorem FK.fin (h : FK w wr b d s p ok m0 m1 m2 m3 m4 m5 m6 m7 va vn vc L aF nF F B0) (vs : List Value) :
    OwnLs w.heap.size (setL wr (w.heap.size + 1) 0 vs).heap.size (setL wr (w.heap.size + 1) 0 vs) va vn L ∧ Below w.heap.size w (setL wr (w.heap.size + 1) 0 vs) := by
  have hB := h.hB
  refine ⟨(h.ow.blocks (fun k h1 h2 h3 => setL_oth (by omega) vs wr 0)).wide (by omega) (by rw [setL_size]; exact Nat.le_refl _), setL_below (by omega) vs 0 h.bel⟩
end
set_option maxRecDepth 100000 in
set_option maxHeartbeats 12800000 in
theorem readFields_any (b d : Int) (s : ByteArray) (w : World) (hg : gsB b d = true) (hs : s.size ≤ 1048576) (h6 : 6 < s.size) (hp0 : ∀ j, j < (fld (bt s 1)).length → ¬ (fld (bt s 1)).getD j 0 = 5 → 7 + 2 * j + 1 < s.size) (hl0 : bt s 1 = 5 → 9 < s.size ∧ 10 + 2 * (bt s 9).toNat ≤ s.size) :
    Calls Tryd.prog 30 #[.agg #[.int .i64 b, .int .i64 d], .string s] w fun e w' => ∃ va vn vc v, e = .returned (.tuple #[.agg #[.int .i64 (bt s 1), .int .i64 (bt s 2), .int .i64 (a2 s 3), .int .i64 (a2 s 5), .int .i64 (fv s (fld (bt s 1)) (fld (bt s 1)).length 1), .int .i64 (fv s (fld (bt s 1)) (fld (bt s 1)).length 2), .int .i64 (fv s (fld (bt s 1)) (fld (bt s 1)).length 3), .int .i64 (fv s (fld (bt s 1)) (fld (bt s 1)).length 4), .slice va vn vc], v]) ∧ OwnLs w.heap.size w'.heap.size w' va vn (fL s (fld (bt s 1)) (fld (bt s 1)).length) ∧ FaB (okJ b d s (fld (bt s 1)) (fld (bt s 1)).length) 4 v ∧ Below w.heap.size w w' := by
  have hb1 : Hid (IntKind.i64.wrap (s[1].toNat : Int) = bt s 1) := (wrap_u8b (UInt8.toNat_lt _)).trans (bt_eq (by omega)).symm
  have hb2 : Hid (IntKind.i64.wrap (s[2].toNat : Int) = bt s 2) := (wrap_u8b (UInt8.toNat_lt _)).trans (bt_eq (by omega)).symm
  have p1 : 1 < s.size := by omega
  have p2 : 2 < s.size := by omega
  have hgt : Hid (gsB b d = true) := hg
  obtain ⟨hg1, hg2, hg3, hg4, _⟩ := gsB_true hg
  obtain ⟨hz1, hz2⟩ := sz_bd hg1 hg2
  clear hg
  go_enter Tryd.func30, Tryd.ntmps30
  go_wp2_with fail
  have KS0 : Hid (Bk ((w.alloc (.cells #[.int .i64 b, .int .i64 d] 29)).alloc (.cells #[.int .i64 0, .int .i64 0, .int .i64 0, .int .i64 0, .int .i64 0, .int .i64 0, .int .i64 0, .int .i64 0, .slice none 0 0] 26)) w.heap.size #[.int .i64 b, .int .i64 d] 29) := (Bk.new _ _ _).alloc _
  have KR0 : Hid (Bk ((w.alloc (.cells #[.int .i64 b, .int .i64 d] 29)).alloc (.cells #[.int .i64 0, .int .i64 0, .int .i64 0, .int .i64 0, .int .i64 0, .int .i64 0, .int .i64 0, .int .i64 0, .slice none 0 0] 26)) (w.heap.size + 1) #[.int .i64 0, .int .i64 0, .int .i64 0, .int .i64 0, .int .i64 0, .int .i64 0, .int .i64 0, .int .i64 0, .slice none 0 0] 26) := by
    have h := Bk.new (w.alloc (.cells #[.int .i64 b, .int .i64 d] 29)) #[.int .i64 0, .int .i64 0, .int .i64 0, .int .i64 0, .int .i64 0, .int .i64 0, .int .i64 0, .int .i64 0, .slice none 0 0] 26
    simp only [World.size_alloc] at h
    exact h
  have BE0 : Hid (Below w.heap.size w ((w.alloc (.cells #[.int .i64 b, .int .i64 d] 29)).alloc (.cells #[.int .i64 0, .int .i64 0, .int .i64 0, .int .i64 0, .int .i64 0, .int .i64 0, .int .i64 0, .int .i64 0, .slice none 0 0] 26))) := ((Below.refl _ _).alloc (Nat.le_refl _) _).alloc (by simp) _
  have hz0 : ((w.alloc (.cells #[.int .i64 b, .int .i64 d] 29)).alloc (.cells #[.int .i64 0, .int .i64 0, .int .i64 0, .int .i64 0, .int .i64 0, .int .i64 0, .int .i64 0, .int .i64 0, .slice none 0 0] 26)).heap.size = w.heap.size + 2 := by simp
  generalize (w.alloc (.cells #[.int .i64 b, .int .i64 d] 29)).alloc (.cells #[.int .i64 0, .int .i64 0, .int .i64 0, .int .i64 0, .int .i64 0, .int .i64 0, .int .i64 0, .int .i64 0, .slice none 0 0] 26) = w0 at *
  refine wp_region_held_drew (S := fun w' => Below w0.heap.size w0 w') (by kernel_rfl) ((Below.refl _ _).drew) (fun hs0 => ?_)
  refine wpAnyH_take (i := 0) (oi := _) (v := _) rfl (by kernel_rfl) (by kernel_rfl) (by kernel_rfl) (fun _ _ _ h => h) (.inl ⟨by rfl, by intro w hSw; go_simp; with_reducible rfl⟩) hs0 ?_
  simp only [Act.put, List.setIfInBounds_toArray, List.set_cons_zero, List.set_cons_succ]
  refine wpAnyH_take (i := 1) (oi := _) (v := _) rfl (by kernel_rfl) (by kernel_rfl) (by kernel_rfl) (fun _ _ _ h => h) (.inl ⟨by rfl, by intro w hSw; go_simp; rw [dif_pos (show (1 : Int) < (s.size : Int) by omega)]; rfl⟩) hs0 ?_
  simp only [Act.put, List.setIfInBounds_toArray, List.set_cons_zero, List.set_cons_succ]
  refine wpAnyH_take (i := 2) (oi := _) (v := _) rfl (by kernel_rfl) (by kernel_rfl) (by kernel_rfl) (fun _ _ _ h => h) (.inl ⟨by rfl, by intro w hSw; go_simp; rw [hb1.out]⟩) hs0 ?_
  simp only [Act.put, List.setIfInBounds_toArray, List.set_cons_zero, List.set_cons_succ]
  refine wpAnyH_take (i := 3) (oi := _) (v := _) rfl (by kernel_rfl) (by kernel_rfl) (by kernel_rfl) (fun _ _ _ h => h) (.inl ⟨by rfl, by intro w hSw; go_simp; with_reducible rfl⟩) hs0 ?_
  simp only [Act.put, List.setIfInBounds_toArray, List.set_cons_zero, List.set_cons_succ]
  refine wpAnyH_take (i := 4) (oi := _) (v := _) rfl (by kernel_rfl) (by kernel_rfl) (by kernel_rfl) (fun _ _ _ h => h) (.inl ⟨by rfl, by intro w hSw; go_simp; rw [dif_pos (show (2 : Int) < (s.size : Int) by omega)]; rfl⟩) hs0 ?_
  simp only [Act.put, List.setIfInBounds_toArray, List.set_cons_zero, List.set_cons_succ]
  refine wpAnyH_take (i := 5) (oi := _) (v := _) rfl (by kernel_rfl) (by kernel_rfl) (by kernel_rfl) (fun _ _ _ h => h) (.inl ⟨by rfl, by intro w hSw; go_simp; rw [hb2.out]⟩) hs0 ?_
  simp only [Act.put, List.setIfInBounds_toArray, List.set_cons_zero, List.set_cons_succ]
  refine wpAnyH_take (i := 6) (oi := _) (v := _) rfl (by kernel_rfl) (by kernel_rfl) (by kernel_rfl) (fun _ _ _ h => h) (.inl ⟨by rfl, by intro w hSw; go_simp; with_reducible rfl⟩) hs0 ?_
  simp only [Act.put, List.setIfInBounds_toArray, List.set_cons_zero, List.set_cons_succ]
  refine wpAnyH_ready (rs := [7]) (by kernel_rfl) (by simp) ?_
  refine AllReadyH.cons rfl (fun K hK => ?_) AllReadyH.nil
  go_simp
  refine hK.out _ _ ((belA w0 _).drew) (fun _ => ?_)
  clear hK K
  refine wpAnyH_ready (rs := [8]) (by kernel_rfl) (by simp) ?_
  refine AllReadyH.cons rfl (fun K hK => ?_) AllReadyH.nil
  go_simp
  refine hK.out _ _ ((belA w0 _).drew) (fun _ => ?_)
  clear hK K
  refine wpAnyH_done (by kernel_rfl) ?_ _
  clear hb1 hb2 hs0
  have KS1 : Hid (Bk (w0.alloc (.cells #[.int .i64 (bt s 1), .int .i64 (bt s 2), .int .i64 0, .int .i64 0, .int .i64 0, .int .i64 0, .int .i64 0, .int .i64 0, .slice none 0 0] 26)).drew w.heap.size #[.int .i64 b, .int .i64 d] 29) := KS0.out.keep ((belA w0 _).drew)
  have KR1 : Hid (Bk (w0.alloc (.cells #[.int .i64 (bt s 1), .int .i64 (bt s 2), .int .i64 0, .int .i64 0, .int .i64 0, .int .i64 0, .int .i64 0, .int .i64 0, .slice none 0 0] 26)).drew (w.heap.size + 1) #[.int .i64 0, .int .i64 0, .int .i64 0, .int .i64 0, .int .i64 0, .int .i64 0, .int .i64 0, .int .i64 0, .slice none 0 0] 26) := KR0.out.keep ((belA w0 _).drew)
  have KX1 : Hid (Bk (w0.alloc (.cells #[.int .i64 (bt s 1), .int .i64 (bt s 2), .int .i64 0, .int .i64 0, .int .i64 0, .int .i64 0, .int .i64 0, .int .i64 0, .slice none 0 0] 26)).drew (w.heap.size + 2) #[.int .i64 (bt s 1), .int .i64 (bt s 2), .int .i64 0, .int .i64 0, .int .i64 0, .int .i64 0, .int .i64 0, .int .i64 0, .slice none 0 0] 26) := by
    have h := (Bk.new w0 #[.int .i64 (bt s 1), .int .i64 (bt s 2), .int .i64 0, .int .i64 0, .int .i64 0, .int .i64 0, .int .i64 0, .int .i64 0, .slice none 0 0] 26).drew
    rw [hz0] at h
    exact h
  have BE1 : Hid (Below w.heap.size w (w0.alloc (.cells #[.int .i64 (bt s 1), .int .i64 (bt s 2), .int .i64 0, .int .i64 0, .int .i64 0, .int .i64 0, .int .i64 0, .int .i64 0, .slice none 0 0] 26)).drew) := belt BE0.out ((belA w0 _).drew)
  have hz1 : (w0.alloc (.cells #[.int .i64 (bt s 1), .int .i64 (bt s 2), .int .i64 0, .int .i64 0, .int .i64 0, .int .i64 0, .int .i64 0, .int .i64 0, .slice none 0 0] 26)).drew.heap.size = w.heap.size + 3 := by
    show (w0.alloc (.cells #[.int .i64 (bt s 1), .int .i64 (bt s 2), .int .i64 0, .int .i64 0, .int .i64 0, .int .i64 0, .int .i64 0, .int .i64 0, .slice none 0 0] 26)).heap.size = _
    rw [World.size_alloc, hz0]
  clear KS0 KR0 BE0 hz0
  generalize (w0.alloc (.cells #[.int .i64 (bt s 1), .int .i64 (bt s 2), .int .i64 0, .int .i64 0, .int .i64 0, .int .i64 0, .int .i64 0, .int .i64 0, .slice none 0 0] 26)).drew = w1 at *
  obtain ⟨s0, s1⟩ := Bk.c2 KS1.out
  have ls := KS1.out.lt
  go_wp2_with fail
  have ST0 : Hid (FK w (w1.alloc (.cells #[.string s, .int .i64 3, .nilIface] 76)) b d s 3 true (bt s 1) (bt s 2) 0 0 0 0 0 0 none 0 0 [] none 0 [] (w.heap.size + 4)) := by
    have hb := belA w1 (.cells #[.string s, .int .i64 3, .nilIface] 76)
    have hn := Bk.new w1 #[.string s, .int .i64 3, .nilIface] 76
    rw [hz1] at hn
    exact ⟨belt BE1.out hb, KS1.out.keep hb, KR1.out.keep hb, KX1.out.keep hb, ⟨_, hn, .inl ⟨rfl, rfl⟩⟩, Nat.le_refl _, by rw [World.size_alloc, hz1]; omega, ⟨rfl, .inl rfl⟩, ⟨rfl, .inl rfl⟩⟩
  clear KS1 KR1 KX1 BE1 s0 s1 ls hz1
  generalize w1.alloc (.cells #[.string s, .int .i64 3, .nilIface] 76) = w2 at *
  refine (size_any _ _ _ hg1 hg2).mono ?_
  rintro e w3 ⟨rfl, hw⟩
  have ST1 : Hid (FK w w3 b d s 3 true (bt s 1) (bt s 2) 0 0 0 0 0 0 none 0 0 [] none 0 [] (w.heap.size + 4)) := ST0.out.keep hw
  clear hw ST0
  go_wp2_with fail
  refine (next_any _ s 3 true _ _ (by omega) hs ST1.out.rd).mono ?_
  rintro e w4 ⟨rfl, hrd, hbu⟩
  have ST2 : Hid (FK w w4 b d s 5 (true && decide (a2 s 3 ≤ sz b - 1)) (bt s 1) (bt s 2) 0 0 0 0 0 0 none 0 0 [] none 0 [] (w.heap.size + 4)) := ST1.out.nxt hbu hrd
  clear hrd hbu ST1
  obtain ⟨q0, q1, q2, q3, q4, q5, q6, q7, q8⟩ := Bk.c9 ST2.out.kx
  obtain ⟨f0, f1, f2, f3, f4, f5, f6, f7, f8⟩ := Bk.f9 ST2.out.kx
  have ST3 : Hid (FK w (w4.setCell ⟨w.heap.size + 2, 2, none⟩ (.int .i64 (a2 s 3))) b d s 5 (true && decide (a2 s 3 ≤ sz b - 1)) (bt s 1) (bt s 2) (a2 s 3) 0 0 0 0 0 none 0 0 [] none 0 [] (w.heap.size + 4)) := ST2.out.set 2 (a2 s 3) rfl
  obtain ⟨s0, s1⟩ := Bk.c2 ST2.out.ks
  go_wp2_with fail
  clear s0 s1 ST2 q0 q1 q2 q3 q4 q5 q6 q7 q8 f0 f1 f2 f3 f4 f5 f6 f7 f8
  generalize w4.setCell ⟨w.heap.size + 2, 2, none⟩ (.int .i64 (a2 s 3)) = w5 at *
  refine (size_any _ _ _ hg1 hg2).mono ?_
  rintro e w6 ⟨rfl, hw⟩
  have ST4 : Hid (FK w w6 b d s 5 (true && decide (a2 s 3 ≤ sz b - 1)) (bt s 1) (bt s 2) (a2 s 3) 0 0 0 0 0 none 0 0 [] none 0 [] (w.heap.size + 4)) := ST3.out.keep hw
  clear hw ST3
  go_wp2_with fail
  refine (next_any _ s 5 _ _ _ (by omega) hs ST4.out.rd).mono ?_
  rintro e w7 ⟨rfl, hrd, hbu⟩
  have ST5 : Hid (FK w w7 b d s 7 (true && decide (a2 s 3 ≤ sz b - 1) && decide (a2 s 5 ≤ sz b - 1)) (bt s 1) (bt s 2) (a2 s 3) 0 0 0 0 0 none 0 0 [] none 0 [] (w.heap.size + 4)) := ST4.out.nxt hbu hrd
  clear hrd hbu ST4
  obtain ⟨q0, q1, q2, q3, q4, q5, q6, q7, q8⟩ := Bk.c9 ST5.out.kx
  obtain ⟨f0, f1, f2, f3, f4, f5, f6, f7, f8⟩ := Bk.f9 ST5.out.kx
  have ST6 : Hid (FK w (w7.setCell ⟨w.heap.size + 2, 3, none⟩ (.int .i64 (a2 s 5))) b d s 7 (true && decide (a2 s 3 ≤ sz b - 1) && decide (a2 s 5 ≤ sz b - 1)) (bt s 1) (bt s 2) (a2 s 3) (a2 s 5) 0 0 0 0 none 0 0 [] none 0 [] (w.heap.size + 4)) := ST5.out.set 3 (a2 s 5) rfl
  go_wp2_with fail
  clear ST5 q0 q1 q2 q3 q4 q5 q6 q7 q8 f0 f1 f2 f3 f4 f5 f6 f7 f8
  generalize w7.setCell ⟨w.heap.size + 2, 3, none⟩ (.int .i64 (a2 s 5)) = w8 at *
  obtain ⟨K, hK⟩ : ∃ K, Hid (bt s 1 = K) := ⟨_, rfl⟩
  obtain ⟨F, hF⟩ : ∃ F, Hid (fld K = F) := ⟨_, rfl⟩
  have hF4 : F.length ≤ 4 := by rw [← hF.out]; exact fld_big K
  have h5 : Hid (∀ j, j < F.length → (F.getD j 0 = 5 ↔ (K = 5 ∧ j = 1))) := fun j hj => by rw [← hF.out] at hj ⊢; exact fld_five K j hj
  have h52 : Hid (K = 5 → F.length = 2) := fun h => by rw [← hF.out]; exact fld_5len h
  have hM : Hid (∀ j, j < F.length → 1 ≤ F.getD j 0 ∧ F.getD j 0 ≤ 5) := fun j hj => by rw [← hF.out] at hj ⊢; exact ⟨(fld_mem K j hj).1, (fld_mem K j hj).2⟩
  rw [hK.out, hF.out] at hp0
  have hP : Hid (∀ j, j < F.length → ¬ F.getD j 0 = 5 → 7 + 2 * j + 1 < s.size) := hp0
  have hLs : Hid (K = 5 → 9 < s.size ∧ 10 + 2 * (bt s 9).toNat ≤ s.size) := fun h => hl0 (hK.out.trans h)
  clear hp0 hl0
  refine (fieldsOf_any _ _).mono ?_
  rintro e w9 ⟨aF, nF, cF, rfl, hnF, hcF, oF, hw⟩
  rw [hK.out, hF.out] at hnF oF
  subst hnF
  have ST7 : Hid (FK w w9 b d s 7 (true && decide (a2 s 3 ≤ sz b - 1) && decide (a2 s 5 ≤ sz b - 1)) (bt s 1) (bt s 2) (a2 s 3) (a2 s 5) 0 0 0 0 none 0 0 [] aF F.length F w9.heap.size) := by
    have h := ST6.out.keep hw
    have h1 := ST6.out.hB2
    have h2 := hw.size
    exact ⟨h.bel, h.ks, h.kr, h.kx, h.rd, by omega, Nat.le_refl _, oF.wide h1 (Nat.le_refl _), ⟨rfl, .inl rfl⟩⟩
  clear hw oF ST6
  obtain ⟨B0, hB⟩ : ∃ B0, w9.heap.size = B0 := ⟨_, rfl⟩
  rw [hB] at ST7
  clear hB
  obtain ⟨nF, hnF⟩ : ∃ n, F.length = n := ⟨_, rfl⟩
  rw [hnF] at ST7 hF4 hP h5 hM h52
  go_wp2_with fail
  go_loopw [33] (fun v33 wr => ∃ (j p : Nat) (ok : Bool) (k4 k5 k6 k7 : Int) (va : Option Addr) (vn vc : Nat) (L : List Int), v33 = .int .i64 j ∧ j ≤ nF ∧ Hid (j < nF → p = 7 + 2 * j) ∧ Hid (k4 = fv s F j 1 ∧ k5 = fv s F j 2 ∧ k6 = fv s F j 3 ∧ k7 = fv s F j 4) ∧ Hid (L = fL s F j) ∧ Hid (ok = okJ b d s F j) ∧ Hid (FK w wr b d s p ok (bt s 1) (bt s 2) (a2 s 3) (a2 s 5) k4 k5 k6 k7 va vn vc L aF nF F B0)) (fun v33 _ => nF - (intOf v33).toNat)
  case atStart => exact ⟨0, 7, _, 0, 0, 0, 0, none, 0, 0, [], rfl, Nat.zero_le _, (fun _ => rfl), ⟨rfl, rfl, rfl, rfl⟩, rfl, by unfold Hid okJ; rw [Bool.true_and], ST7⟩
  case round =>
    clear ST7
    obtain ⟨j, p, ok, k4, k5, k6, k7, va, vn, vc, L, rfl, hj, hp, hk, hLL, hok, st⟩ := hrel
    obtain ⟨q0, q1, q2, q3, q4, q5, q6, q7, q8⟩ := Bk.c9 st.out.kx
    obtain ⟨s0, s1⟩ := Bk.c2 st.out.ks
    by_cases hlt2 : j < nF
    · obtain ⟨g1, g2⟩ := hM.out j hlt2
      obtain ⟨bk, off, hform⟩ := rowAt_form st.out.fl.rowAt (by omega)
      subst hform
      have hc1 := (rowAt_cell st.out.fl.rowAt (by omega)).2 j (by omega)
      have h9 : F.getD j 0 = 1 ∨ F.getD j 0 = 2 ∨ F.getD j 0 = 3 ∨ F.getD j 0 = 4 ∨ F.getD j 0 = 5 := by omega
      clear g1 g2
      rcases h9 with h9' | h9' | h9' | h9' | h9'
      all_goals
        have h9 : Hid _ := h9'
        clear h9'
      · have hpos := hP.out j hlt2 (by rw [h9.out]; decide)
        have hpp : Hid (p = 7 + 2 * j) := hp.out hlt2
        rw [h9.out] at hc1
        go_wp2_with fail
        refine wp_region_held_drew (S := fun w' => Bk w' w.heap.size #[.int .i64 b, .int .i64 d] 29) (by kernel_rfl) (st.out.ks.drew) (fun hs0 => ?_)
        have st0 : Hid (FK w wr.drew b d s (p) (ok) (bt s 1) (bt s 2) (a2 s 3) (a2 s 5) k4 k5 k6 k7 va vn vc L (some ⟨bk, off, none⟩) nF F B0) := st.out.keep ((Below.refl _ _).drew)
        clear st q0 q1 q2 q3 q4 q5 q6 q7 q8 s0 s1
        generalize wr.drew = wd at *
        refine wpAnyH_take (i := 0) (oi := _) (v := _) rfl (by kernel_rfl) (by kernel_rfl) (by kernel_rfl) (fun _ _ _ h => h) (.inl ⟨by rfl, by intro w hSw; go_simp; with_reducible rfl⟩) hs0 ?_
        simp only [Act.put, List.setIfInBounds_toArray, List.set_cons_zero, List.set_cons_succ]
        refine wpAnyH_take (i := 2) (oi := _) (v := _) rfl (by kernel_rfl) (by kernel_rfl) (by kernel_rfl) (fun _ _ _ h => h) (yieldsIf_bk rfl rfl rfl (fun w' h => h) Tryd.underlying29 rfl (by kernel_rfl)) hs0 ?_
        simp only [Act.put, List.setIfInBounds_toArray, List.set_cons_zero, List.set_cons_succ]
        refine wpAnyH_take (i := 3) (oi := _) (v := _) rfl (by kernel_rfl) (by kernel_rfl) (by kernel_rfl) (fun _ _ _ h => h) (.inl ⟨by rfl, by intro w hSw; go_simp; with_reducible rfl⟩) hs0 ?_
        simp only [Act.put, List.setIfInBounds_toArray, List.set_cons_zero, List.set_cons_succ]
        refine wpAnyH_ready (rs := [1]) (by kernel_rfl) (by simp) ?_
        refine AllReadyH.cons rfl (fun K hK => ?_) AllReadyH.nil
        go_simp
        refine (numberAt_any _ 1 _).mono ?_
        rintro e vx ⟨rfl, hx⟩
        have hx' := hx.symm
        clear hx
        subst hx'
        simp only [show fo 1 = 4 from rfl]
        refine hK.out _ _ hs0 (fun _ => ?_)
        clear hK K
        refine wpAnyH_ready (rs := [4]) (by kernel_rfl) (by simp) ?_
        refine AllReadyH.cons rfl (fun K hK => ?_) AllReadyH.nil
        go_simp
        refine (mostOf_any b d 1 _ hgt.out).mono ?_
        rintro e w5 ⟨rfl, hw⟩
        have st1 : Hid (FK w w5 b d s (p) (ok) (bt s 1) (bt s 2) (a2 s 3) (a2 s 5) k4 k5 k6 k7 va vn vc L (some ⟨bk, off, none⟩) nF F B0) := st0.out.keep hw
        have hs1 := st1.out.ks
        refine hK.out _ _ hs1 (fun _ => ?_)
        clear hK K hw st0
        refine wpAnyH_ready (rs := [5]) (by kernel_rfl) (by simp) ?_
        refine AllReadyH.cons rfl (fun K hK => ?_) AllReadyH.nil
        go_simp
        refine (next_any _ s p ok _ _ (by have := hpp.out; omega) hs st1.out.rd).mono ?_
        rintro e w6 ⟨rfl, hrd, hbu⟩
        have st2 : Hid (FK w w6 b d s (p + 2) (ok && decide (a2 s p ≤ mo b d 1)) (bt s 1) (bt s 2) (a2 s 3) (a2 s 5) k4 k5 k6 k7 va vn vc L (some ⟨bk, off, none⟩) nF F B0) := st1.out.nxt hbu hrd
        have hs2 := st2.out.ks
        refine hK.out _ _ hs2 (fun _ => ?_)
        clear hK K hrd hbu st1
        refine wpAnyH_ready (rs := [6]) (by kernel_rfl) (by simp) ?_
        refine AllReadyH.cons rfl (fun K hK => ?_) AllReadyH.nil
        go_simp
        refine hK.out _ _ hs2 (fun _ => ?_)
        clear hK K
        refine wpAnyH_ready (rs := [7]) (by kernel_rfl) (by simp) ?_
        refine AllReadyH.cons rfl (fun K hK => ?_) AllReadyH.nil
        obtain ⟨q0, q1, q2, q3, q4, q5, q6, q7, q8⟩ := Bk.c9 st2.out.kx
        obtain ⟨f0, f1, f2, f3, f4, f5, f6, f7, f8⟩ := Bk.f9 st2.out.kx
        go_simp
        have st3 : Hid (FK w (w6.setCell ⟨w.heap.size + 2, 4, none⟩ (.int .i64 (a2 s p))) b d s (p + 2) (ok && decide (a2 s p ≤ mo b d 1)) (bt s 1) (bt s 2) (a2 s 3) (a2 s 5) (a2 s p) k5 k6 k7 va vn vc L (some ⟨bk, off, none⟩) nF F B0) := st2.out.set 4 (a2 s p) rfl
        refine hK.out _ _ st3.out.ks (fun _ => ?_)
        clear hK K q0 q1 q2 q3 q4 q5 q6 q7 q8 f0 f1 f2 f3 f4 f5 f6 f7 f8 st2 hs0 hs1 hs2
        refine wpAnyH_done (by kernel_rfl) ?_ _
        go_wp2
        go_roundw
        case rel => exact ⟨j + 1, p + 2, ok && decide (a2 s p ≤ mo b d 1), a2 s p, k5, k6, k7, va, vn, vc, L, by go_num, by omega, (fun _ => by have := hpp.out; omega), ⟨(by rw [fv_same h9.out, hpp.out]), ((hk.out.2.1).trans (fv_other h9.out (by omega)).symm), ((hk.out.2.2.1).trans (fv_other h9.out (by omega)).symm), ((hk.out.2.2.2).trans (fv_other h9.out (by omega)).symm)⟩, hLL.out.trans (fL_step h9.out (by decide)).symm, okJ_num hok.out h9.out (by decide) hpp.out, st3⟩
        case measure => simp [intOf]; omega
      · have hpos := hP.out j hlt2 (by rw [h9.out]; decide)
        have hpp : Hid (p = 7 + 2 * j) := hp.out hlt2
        rw [h9.out] at hc1
        go_wp2_with fail
        refine wp_region_held_drew (S := fun w' => Bk w' w.heap.size #[.int .i64 b, .int .i64 d] 29) (by kernel_rfl) (st.out.ks.drew) (fun hs0 => ?_)
        have st0 : Hid (FK w wr.drew b d s (p) (ok) (bt s 1) (bt s 2) (a2 s 3) (a2 s 5) k4 k5 k6 k7 va vn vc L (some ⟨bk, off, none⟩) nF F B0) := st.out.keep ((Below.refl _ _).drew)
        clear st q0 q1 q2 q3 q4 q5 q6 q7 q8 s0 s1
        generalize wr.drew = wd at *
        refine wpAnyH_take (i := 0) (oi := _) (v := _) rfl (by kernel_rfl) (by kernel_rfl) (by kernel_rfl) (fun _ _ _ h => h) (.inl ⟨by rfl, by intro w hSw; go_simp; with_reducible rfl⟩) hs0 ?_
        simp only [Act.put, List.setIfInBounds_toArray, List.set_cons_zero, List.set_cons_succ]
        refine wpAnyH_take (i := 2) (oi := _) (v := _) rfl (by kernel_rfl) (by kernel_rfl) (by kernel_rfl) (fun _ _ _ h => h) (yieldsIf_bk rfl rfl rfl (fun w' h => h) Tryd.underlying29 rfl (by kernel_rfl)) hs0 ?_
        simp only [Act.put, List.setIfInBounds_toArray, List.set_cons_zero, List.set_cons_succ]
        refine wpAnyH_take (i := 3) (oi := _) (v := _) rfl (by kernel_rfl) (by kernel_rfl) (by kernel_rfl) (fun _ _ _ h => h) (.inl ⟨by rfl, by intro w hSw; go_simp; with_reducible rfl⟩) hs0 ?_
        simp only [Act.put, List.setIfInBounds_toArray, List.set_cons_zero, List.set_cons_succ]
        refine wpAnyH_ready (rs := [1]) (by kernel_rfl) (by simp) ?_
        refine AllReadyH.cons rfl (fun K hK => ?_) AllReadyH.nil
        go_simp
        refine (numberAt_any _ 2 _).mono ?_
        rintro e vx ⟨rfl, hx⟩
        have hx' := hx.symm
        clear hx
        subst hx'
        simp only [show fo 2 = 5 from rfl]
        refine hK.out _ _ hs0 (fun _ => ?_)
        clear hK K
        refine wpAnyH_ready (rs := [4]) (by kernel_rfl) (by simp) ?_
        refine AllReadyH.cons rfl (fun K hK => ?_) AllReadyH.nil
        go_simp
        refine (mostOf_any b d 2 _ hgt.out).mono ?_
        rintro e w5 ⟨rfl, hw⟩
        have st1 : Hid (FK w w5 b d s (p) (ok) (bt s 1) (bt s 2) (a2 s 3) (a2 s 5) k4 k5 k6 k7 va vn vc L (some ⟨bk, off, none⟩) nF F B0) := st0.out.keep hw
        have hs1 := st1.out.ks
        refine hK.out _ _ hs1 (fun _ => ?_)
        clear hK K hw st0
        refine wpAnyH_ready (rs := [5]) (by kernel_rfl) (by simp) ?_
        refine AllReadyH.cons rfl (fun K hK => ?_) AllReadyH.nil
        go_simp
        refine (next_any _ s p ok _ _ (by have := hpp.out; omega) hs st1.out.rd).mono ?_
        rintro e w6 ⟨rfl, hrd, hbu⟩
        have st2 : Hid (FK w w6 b d s (p + 2) (ok && decide (a2 s p ≤ mo b d 2)) (bt s 1) (bt s 2) (a2 s 3) (a2 s 5) k4 k5 k6 k7 va vn vc L (some ⟨bk, off, none⟩) nF F B0) := st1.out.nxt hbu hrd
        have hs2 := st2.out.ks
        refine hK.out _ _ hs2 (fun _ => ?_)
        clear hK K hrd hbu st1
        refine wpAnyH_ready (rs := [6]) (by kernel_rfl) (by simp) ?_
        refine AllReadyH.cons rfl (fun K hK => ?_) AllReadyH.nil
        go_simp
        refine hK.out _ _ hs2 (fun _ => ?_)
        clear hK K
        refine wpAnyH_ready (rs := [7]) (by kernel_rfl) (by simp) ?_
        refine AllReadyH.cons rfl (fun K hK => ?_) AllReadyH.nil
        obtain ⟨q0, q1, q2, q3, q4, q5, q6, q7, q8⟩ := Bk.c9 st2.out.kx
        obtain ⟨f0, f1, f2, f3, f4, f5, f6, f7, f8⟩ := Bk.f9 st2.out.kx
        go_simp
        have st3 : Hid (FK w (w6.setCell ⟨w.heap.size + 2, 5, none⟩ (.int .i64 (a2 s p))) b d s (p + 2) (ok && decide (a2 s p ≤ mo b d 2)) (bt s 1) (bt s 2) (a2 s 3) (a2 s 5) k4 (a2 s p) k6 k7 va vn vc L (some ⟨bk, off, none⟩) nF F B0) := st2.out.set 5 (a2 s p) rfl
        refine hK.out _ _ st3.out.ks (fun _ => ?_)
        clear hK K q0 q1 q2 q3 q4 q5 q6 q7 q8 f0 f1 f2 f3 f4 f5 f6 f7 f8 st2 hs0 hs1 hs2
        refine wpAnyH_done (by kernel_rfl) ?_ _
        go_wp2
        go_roundw
        case rel => exact ⟨j + 1, p + 2, ok && decide (a2 s p ≤ mo b d 2), k4, a2 s p, k6, k7, va, vn, vc, L, by go_num, by omega, (fun _ => by have := hpp.out; omega), ⟨((hk.out.1).trans (fv_other h9.out (by omega)).symm), (by rw [fv_same h9.out, hpp.out]), ((hk.out.2.2.1).trans (fv_other h9.out (by omega)).symm), ((hk.out.2.2.2).trans (fv_other h9.out (by omega)).symm)⟩, hLL.out.trans (fL_step h9.out (by decide)).symm, okJ_num hok.out h9.out (by decide) hpp.out, st3⟩
        case measure => simp [intOf]; omega
      · have hpos := hP.out j hlt2 (by rw [h9.out]; decide)
        have hpp : Hid (p = 7 + 2 * j) := hp.out hlt2
        rw [h9.out] at hc1
        go_wp2_with fail
        refine wp_region_held_drew (S := fun w' => Bk w' w.heap.size #[.int .i64 b, .int .i64 d] 29) (by kernel_rfl) (st.out.ks.drew) (fun hs0 => ?_)
        have st0 : Hid (FK w wr.drew b d s (p) (ok) (bt s 1) (bt s 2) (a2 s 3) (a2 s 5) k4 k5 k6 k7 va vn vc L (some ⟨bk, off, none⟩) nF F B0) := st.out.keep ((Below.refl _ _).drew)
        clear st q0 q1 q2 q3 q4 q5 q6 q7 q8 s0 s1
        generalize wr.drew = wd at *
        refine wpAnyH_take (i := 0) (oi := _) (v := _) rfl (by kernel_rfl) (by kernel_rfl) (by kernel_rfl) (fun _ _ _ h => h) (.inl ⟨by rfl, by intro w hSw; go_simp; with_reducible rfl⟩) hs0 ?_
        simp only [Act.put, List.setIfInBounds_toArray, List.set_cons_zero, List.set_cons_succ]
        refine wpAnyH_take (i := 2) (oi := _) (v := _) rfl (by kernel_rfl) (by kernel_rfl) (by kernel_rfl) (fun _ _ _ h => h) (yieldsIf_bk rfl rfl rfl (fun w' h => h) Tryd.underlying29 rfl (by kernel_rfl)) hs0 ?_
        simp only [Act.put, List.setIfInBounds_toArray, List.set_cons_zero, List.set_cons_succ]
        refine wpAnyH_take (i := 3) (oi := _) (v := _) rfl (by kernel_rfl) (by kernel_rfl) (by kernel_rfl) (fun _ _ _ h => h) (.inl ⟨by rfl, by intro w hSw; go_simp; with_reducible rfl⟩) hs0 ?_
        simp only [Act.put, List.setIfInBounds_toArray, List.set_cons_zero, List.set_cons_succ]
        refine wpAnyH_ready (rs := [1]) (by kernel_rfl) (by simp) ?_
        refine AllReadyH.cons rfl (fun K hK => ?_) AllReadyH.nil
        go_simp
        refine (numberAt_any _ 3 _).mono ?_
        rintro e vx ⟨rfl, hx⟩
        have hx' := hx.symm
        clear hx
        subst hx'
        simp only [show fo 3 = 6 from rfl]
        refine hK.out _ _ hs0 (fun _ => ?_)
        clear hK K
        refine wpAnyH_ready (rs := [4]) (by kernel_rfl) (by simp) ?_
        refine AllReadyH.cons rfl (fun K hK => ?_) AllReadyH.nil
        go_simp
        refine (mostOf_any b d 3 _ hgt.out).mono ?_
        rintro e w5 ⟨rfl, hw⟩
        have st1 : Hid (FK w w5 b d s (p) (ok) (bt s 1) (bt s 2) (a2 s 3) (a2 s 5) k4 k5 k6 k7 va vn vc L (some ⟨bk, off, none⟩) nF F B0) := st0.out.keep hw
        have hs1 := st1.out.ks
        refine hK.out _ _ hs1 (fun _ => ?_)
        clear hK K hw st0
        refine wpAnyH_ready (rs := [5]) (by kernel_rfl) (by simp) ?_
        refine AllReadyH.cons rfl (fun K hK => ?_) AllReadyH.nil
        go_simp
        refine (next_any _ s p ok _ _ (by have := hpp.out; omega) hs st1.out.rd).mono ?_
        rintro e w6 ⟨rfl, hrd, hbu⟩
        have st2 : Hid (FK w w6 b d s (p + 2) (ok && decide (a2 s p ≤ mo b d 3)) (bt s 1) (bt s 2) (a2 s 3) (a2 s 5) k4 k5 k6 k7 va vn vc L (some ⟨bk, off, none⟩) nF F B0) := st1.out.nxt hbu hrd
        have hs2 := st2.out.ks
        refine hK.out _ _ hs2 (fun _ => ?_)
        clear hK K hrd hbu st1
        refine wpAnyH_ready (rs := [6]) (by kernel_rfl) (by simp) ?_
        refine AllReadyH.cons rfl (fun K hK => ?_) AllReadyH.nil
        go_simp
        refine hK.out _ _ hs2 (fun _ => ?_)
        clear hK K
        refine wpAnyH_ready (rs := [7]) (by kernel_rfl) (by simp) ?_
        refine AllReadyH.cons rfl (fun K hK => ?_) AllReadyH.nil
        obtain ⟨q0, q1, q2, q3, q4, q5, q6, q7, q8⟩ := Bk.c9 st2.out.kx
        obtain ⟨f0, f1, f2, f3, f4, f5, f6, f7, f8⟩ := Bk.f9 st2.out.kx
        go_simp
        have st3 : Hid (FK w (w6.setCell ⟨w.heap.size + 2, 6, none⟩ (.int .i64 (a2 s p))) b d s (p + 2) (ok && decide (a2 s p ≤ mo b d 3)) (bt s 1) (bt s 2) (a2 s 3) (a2 s 5) k4 k5 (a2 s p) k7 va vn vc L (some ⟨bk, off, none⟩) nF F B0) := st2.out.set 6 (a2 s p) rfl
        refine hK.out _ _ st3.out.ks (fun _ => ?_)
        clear hK K q0 q1 q2 q3 q4 q5 q6 q7 q8 f0 f1 f2 f3 f4 f5 f6 f7 f8 st2 hs0 hs1 hs2
        refine wpAnyH_done (by kernel_rfl) ?_ _
        go_wp2
        go_roundw
        case rel => exact ⟨j + 1, p + 2, ok && decide (a2 s p ≤ mo b d 3), k4, k5, a2 s p, k7, va, vn, vc, L, by go_num, by omega, (fun _ => by have := hpp.out; omega), ⟨((hk.out.1).trans (fv_other h9.out (by omega)).symm), ((hk.out.2.1).trans (fv_other h9.out (by omega)).symm), (by rw [fv_same h9.out, hpp.out]), ((hk.out.2.2.2).trans (fv_other h9.out (by omega)).symm)⟩, hLL.out.trans (fL_step h9.out (by decide)).symm, okJ_num hok.out h9.out (by decide) hpp.out, st3⟩
        case measure => simp [intOf]; omega
      · have hpos := hP.out j hlt2 (by rw [h9.out]; decide)
        have hpp : Hid (p = 7 + 2 * j) := hp.out hlt2
        rw [h9.out] at hc1
        go_wp2_with fail
        refine wp_region_held_drew (S := fun w' => Bk w' w.heap.size #[.int .i64 b, .int .i64 d] 29) (by kernel_rfl) (st.out.ks.drew) (fun hs0 => ?_)
        have st0 : Hid (FK w wr.drew b d s (p) (ok) (bt s 1) (bt s 2) (a2 s 3) (a2 s 5) k4 k5 k6 k7 va vn vc L (some ⟨bk, off, none⟩) nF F B0) := st.out.keep ((Below.refl _ _).drew)
        clear st q0 q1 q2 q3 q4 q5 q6 q7 q8 s0 s1
        generalize wr.drew = wd at *
        refine wpAnyH_take (i := 0) (oi := _) (v := _) rfl (by kernel_rfl) (by kernel_rfl) (by kernel_rfl) (fun _ _ _ h => h) (.inl ⟨by rfl, by intro w hSw; go_simp; with_reducible rfl⟩) hs0 ?_
        simp only [Act.put, List.setIfInBounds_toArray, List.set_cons_zero, List.set_cons_succ]
        refine wpAnyH_take (i := 2) (oi := _) (v := _) rfl (by kernel_rfl) (by kernel_rfl) (by kernel_rfl) (fun _ _ _ h => h) (yieldsIf_bk rfl rfl rfl (fun w' h => h) Tryd.underlying29 rfl (by kernel_rfl)) hs0 ?_
        simp only [Act.put, List.setIfInBounds_toArray, List.set_cons_zero, List.set_cons_succ]
        refine wpAnyH_take (i := 3) (oi := _) (v := _) rfl (by kernel_rfl) (by kernel_rfl) (by kernel_rfl) (fun _ _ _ h => h) (.inl ⟨by rfl, by intro w hSw; go_simp; with_reducible rfl⟩) hs0 ?_
        simp only [Act.put, List.setIfInBounds_toArray, List.set_cons_zero, List.set_cons_succ]
        refine wpAnyH_ready (rs := [1]) (by kernel_rfl) (by simp) ?_
        refine AllReadyH.cons rfl (fun K hK => ?_) AllReadyH.nil
        go_simp
        refine (numberAt_any _ 4 _).mono ?_
        rintro e vx ⟨rfl, hx⟩
        have hx' := hx.symm
        clear hx
        subst hx'
        simp only [show fo 4 = 7 from rfl]
        refine hK.out _ _ hs0 (fun _ => ?_)
        clear hK K
        refine wpAnyH_ready (rs := [4]) (by kernel_rfl) (by simp) ?_
        refine AllReadyH.cons rfl (fun K hK => ?_) AllReadyH.nil
        go_simp
        refine (mostOf_any b d 4 _ hgt.out).mono ?_
        rintro e w5 ⟨rfl, hw⟩
        have st1 : Hid (FK w w5 b d s (p) (ok) (bt s 1) (bt s 2) (a2 s 3) (a2 s 5) k4 k5 k6 k7 va vn vc L (some ⟨bk, off, none⟩) nF F B0) := st0.out.keep hw
        have hs1 := st1.out.ks
        refine hK.out _ _ hs1 (fun _ => ?_)
        clear hK K hw st0
        refine wpAnyH_ready (rs := [5]) (by kernel_rfl) (by simp) ?_
        refine AllReadyH.cons rfl (fun K hK => ?_) AllReadyH.nil
        go_simp
        refine (next_any _ s p ok _ _ (by have := hpp.out; omega) hs st1.out.rd).mono ?_
        rintro e w6 ⟨rfl, hrd, hbu⟩
        have st2 : Hid (FK w w6 b d s (p + 2) (ok && decide (a2 s p ≤ mo b d 4)) (bt s 1) (bt s 2) (a2 s 3) (a2 s 5) k4 k5 k6 k7 va vn vc L (some ⟨bk, off, none⟩) nF F B0) := st1.out.nxt hbu hrd
        have hs2 := st2.out.ks
        refine hK.out _ _ hs2 (fun _ => ?_)
        clear hK K hrd hbu st1
        refine wpAnyH_ready (rs := [6]) (by kernel_rfl) (by simp) ?_
        refine AllReadyH.cons rfl (fun K hK => ?_) AllReadyH.nil
        go_simp
        refine hK.out _ _ hs2 (fun _ => ?_)
        clear hK K
        refine wpAnyH_ready (rs := [7]) (by kernel_rfl) (by simp) ?_
        refine AllReadyH.cons rfl (fun K hK => ?_) AllReadyH.nil
        obtain ⟨q0, q1, q2, q3, q4, q5, q6, q7, q8⟩ := Bk.c9 st2.out.kx
        obtain ⟨f0, f1, f2, f3, f4, f5, f6, f7, f8⟩ := Bk.f9 st2.out.kx
        go_simp
        have st3 : Hid (FK w (w6.setCell ⟨w.heap.size + 2, 7, none⟩ (.int .i64 (a2 s p))) b d s (p + 2) (ok && decide (a2 s p ≤ mo b d 4)) (bt s 1) (bt s 2) (a2 s 3) (a2 s 5) k4 k5 k6 (a2 s p) va vn vc L (some ⟨bk, off, none⟩) nF F B0) := st2.out.set 7 (a2 s p) rfl
        refine hK.out _ _ st3.out.ks (fun _ => ?_)
        clear hK K q0 q1 q2 q3 q4 q5 q6 q7 q8 f0 f1 f2 f3 f4 f5 f6 f7 f8 st2 hs0 hs1 hs2
        refine wpAnyH_done (by kernel_rfl) ?_ _
        go_wp2
        go_roundw
        case rel => exact ⟨j + 1, p + 2, ok && decide (a2 s p ≤ mo b d 4), k4, k5, k6, a2 s p, va, vn, vc, L, by go_num, by omega, (fun _ => by have := hpp.out; omega), ⟨((hk.out.1).trans (fv_other h9.out (by omega)).symm), ((hk.out.2.1).trans (fv_other h9.out (by omega)).symm), ((hk.out.2.2.1).trans (fv_other h9.out (by omega)).symm), (by rw [fv_same h9.out, hpp.out])⟩, hLL.out.trans (fL_step h9.out (by decide)).symm, okJ_num hok.out h9.out (by decide) hpp.out, st3⟩
        case measure => simp [intOf]; omega
      · obtain ⟨hK5, hj1⟩ := (h5.out j hlt2).1 h9.out
        obtain ⟨n9, n10⟩ := hLs.out hK5
        have hp9 : p = 9 := by have := hp.out hlt2; omega
        have hn2 := h52.out hK5
        subst hp9
        rw [h9.out] at hc1
        have hE : Hid (fL s F (j + 1) = lv s) := fL_list h9.out
        have hkn : Hid (k4 = fv s F (j + 1) 1 ∧ k5 = fv s F (j + 1) 2 ∧ k6 = fv s F (j + 1) 3 ∧ k7 = fv s F (j + 1) 4) :=
          ⟨hk.out.1.trans (fv_other h9.out (by omega)).symm, hk.out.2.1.trans (fv_other h9.out (by omega)).symm, hk.out.2.2.1.trans (fv_other h9.out (by omega)).symm, hk.out.2.2.2.trans (fv_other h9.out (by omega)).symm⟩
        have hkE : Hid ((ok && allLe (lv s) (mo b d 5)) = okJ b d s F (j + 1)) := okJ_list hok.out h9.out
        have hjn : Hid (¬ j + 1 < nF) := by unfold Hid; omega
        clear hK5 hj1 hn2 hk hLL hok hp
        go_wp2_with fail
        refine (mostOf_any b d 5 _ hgt.out).mono ?_
        rintro e w10 ⟨rfl, hw⟩
        have st1 : Hid (FK w w10 b d s 9 ok (bt s 1) (bt s 2) (a2 s 3) (a2 s 5) k4 k5 k6 k7 va vn vc L (some ⟨bk, off, none⟩) nF F B0) := st.out.keep hw
        clear st hw s0 s1 q0 q1 q2 q3 q4 q5 q6 q7 q8
        go_wp2_with fail
        refine (nextList_any _ s ok _ _ n9 n10 hs st1.out.rd).mono ?_
        rintro e w11 ⟨a', n', rfl, hol, hrd, hbu⟩
        have st2 : Hid (FK w w11 b d s (10 + 2 * n') (ok && allLe (lv s) (mo b d 5)) (bt s 1) (bt s 2) (a2 s 3) (a2 s 5) k4 k5 k6 k7 va vn vc L (some ⟨bk, off, none⟩) nF F B0) := st1.out.nxt hbu hrd
        have st3 : Hid (FK w (w11.setCell ⟨w.heap.size + 2, 8, none⟩ (.slice a' n' n')) b d s (10 + 2 * n') (ok && allLe (lv s) (mo b d 5)) (bt s 1) (bt s 2) (a2 s 3) (a2 s 5) k4 k5 k6 k7 a' n' n' (lv s) (some ⟨bk, off, none⟩) nF F B0) := st2.out.lst (hol.wide st1.out.hB2 (Nat.le_refl _))
        obtain ⟨q0, q1, q2, q3, q4, q5, q6, q7, q8⟩ := Bk.c9 st2.out.kx
        obtain ⟨f0, f1, f2, f3, f4, f5, f6, f7, f8⟩ := Bk.f9 st2.out.kx
        clear hol hrd hbu st1 st2
        go_wp2
        go_roundw
        case rel => exact ⟨j + 1, 10 + 2 * n', _, k4, k5, k6, k7, a', n', n', lv s, by go_num, by omega, (fun h => absurd h hjn.out), hkn, hE.out.symm, hkE.out, st3⟩
        case measure => simp [intOf]; omega
    · have hjn : j = nF := by omega
      subst hjn
      obtain ⟨e4, e5, e6, e7⟩ := hk.out
      have eL := hLL.out
      have eo := hok.out
      have E4 : Hid (k4 = fv s (fld (bt s 1)) (fld (bt s 1)).length 1 ∧ k5 = fv s (fld (bt s 1)) (fld (bt s 1)).length 2 ∧ k6 = fv s (fld (bt s 1)) (fld (bt s 1)).length 3 ∧ k7 = fv s (fld (bt s 1)) (fld (bt s 1)).length 4 ∧ L = fL s (fld (bt s 1)) (fld (bt s 1)).length ∧ ok = okJ b d s (fld (bt s 1)) (fld (bt s 1)).length) := by
        unfold Hid
        rw [hK.out, hF.out, hnF]
        exact ⟨e4, e5, e6, e7, eL, eo⟩
      clear e4 e5 e6 e7 eL eo hk hLL hok
      obtain ⟨v, hrb, hfa⟩ := st.out.rd
      obtain ⟨t0, t1, t2⟩ := hrb.c3
      have HFA : Hid (FaB ok 4 v) := hfa
      obtain ⟨r0, r1, r2, r3, r4, r5, r6, r7, r8⟩ := Bk.c9 st.out.kr
      obtain ⟨z0, z1, z2, z3, z4, z5, z6, z7, z8⟩ := Bk.f9 st.out.kr
      have HE1 : Hid (Bk (setL wr (w.heap.size + 1) 0 [.int .i64 (bt s 1), .int .i64 (bt s 2), .int .i64 (a2 s 3), .int .i64 (a2 s 5), .int .i64 k4, .int .i64 k5, .int .i64 k6, .int .i64 k7, .slice va vn vc]) (w.heap.size + 1) #[.int .i64 (bt s 1), .int .i64 (bt s 2), .int .i64 (a2 s 3), .int .i64 (a2 s 5), .int .i64 k4, .int .i64 k5, .int .i64 k6, .int .i64 k7, .slice va vn vc] 26) := by
        have h := st.out.kr.setL [.int .i64 (bt s 1), .int .i64 (bt s 2), .int .i64 (a2 s 3), .int .i64 (a2 s 5), .int .i64 k4, .int .i64 k5, .int .i64 k6, .int .i64 k7, .slice va vn vc] 0
        rw [ovr9] at h
        exact h
      have HE2 : Hid _ := st.out.fin [.int .i64 (bt s 1), .int .i64 (bt s 2), .int .i64 (a2 s 3), .int .i64 (a2 s 5), .int .i64 k4, .int .i64 k5, .int .i64 k6, .int .i64 k7, .slice va vn vc]
      clear hrb hfa
      go_wp2_with fail
      go_region
      change Exit.then _ _ _ _ (setL wr (w.heap.size + 1) 0 [.int .i64 (bt s 1), .int .i64 (bt s 2), .int .i64 (a2 s 3), .int .i64 (a2 s 5), .int .i64 k4, .int .i64 k5, .int .i64 k6, .int .i64 k7, .slice va vn vc]).drew
      obtain ⟨wz, hwz⟩ : ∃ z, setL wr (w.heap.size + 1) 0 [.int .i64 (bt s 1), .int .i64 (bt s 2), .int .i64 (a2 s 3), .int .i64 (a2 s 5), .int .i64 k4, .int .i64 k5, .int .i64 k6, .int .i64 k7, .slice va vn vc] = z := ⟨_, rfl⟩
      rw [hwz] at HE1 HE2
      rw [hwz]
      clear hwz
      go_wp2
      refine bodyPost_ret (results_cell_tmp Tryd.results30 _ _ (w.heap.size + 1) _ _ _ _ v rfl rfl HE1.out.drew Tryd.underlying26 rfl (by kernel_rfl)) rfl ⟨va, vn, vc, v, by rw [← E4.out.1, ← E4.out.2.1, ← E4.out.2.2.1, ← E4.out.2.2.2.1], by rw [← E4.out.2.2.2.2.1]; exact (HE2.out.1.keep ((Below.refl _ _).drew)).wide (Nat.le_refl _) (Nat.le_refl _), by rw [← E4.out.2.2.2.2.2]; exact HFA.out, HE2.out.2.drew⟩
end Go.Proofs.YtabbicfakkehpaaDoor
