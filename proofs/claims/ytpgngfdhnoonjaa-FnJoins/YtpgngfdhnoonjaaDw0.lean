/- A table that is drawn. -/
import Derived.Test.YtpgngfdhnoonjaaSp4
import Derived.Test.YtpgngfdhnoonjaaSp2
import Derived.Test.YtpgngfdhnoonjaaC3
namespace Go.Proofs.Ytpgngfdhnoonjaa.Tb
open Go.RowKit Wire Go.Deep
set_option linter.unusedVariables false
set_option linter.unusedSimpArgs false
theorem lsAt_mv {g N : Nat} {w w1 : World} {a : Option Addr} {cap : Nat} {zs : List Int} {ad : Option Addr} {ms : List Rw} (h : LsAt tyRw w ad ms) (hc : CurAt w g N a cap zs) (mv : Mv g w w1) : LsAt tyRw w1 ad ms := by
  rcases h with h | ⟨bk, off, ha, hl, hcell⟩
  · exact .inl h
  · by_cases hz : ms.length = 0
    · exact .inl (List.length_eq_zero_iff.1 hz)
    · have hg : ¬ bk = g := by
        rintro rfl
        obtain ⟨k, sd, hb, _⟩ := hc.st
        obtain ⟨ci, h1, h2⟩ := hcell 0 (by show 0 < ms.length; omega)
        have h3 : ci = rwV (ms.getD 0 rw0) := h2
        subst h3
        have h4 := (CellsAt.rw h1).2.2.2
        rw [cell_of_row _ _ _ _ _ _ hb] at h4
        simp at h4
      refine .inr ⟨bk, off, ha, Nat.lt_of_lt_of_le hl mv.size, fun i hi => ?_⟩
      obtain ⟨ci, h1, h2⟩ := hcell i hi
      exact ⟨ci, h1.block (mv.block bk hl hg), h2⟩
theorem OwR.mv {B g : Nat} {w w1 : World} {v : Value} {C : List Rw} (h : OwR B w v C) (m : Mv g w w1) (hg : g < B) : OwR B w1 v C := by
  obtain ⟨h1, h2⟩ := h
  refine ⟨h1, ?_⟩
  rcases h2 with h2 | ⟨q, cp, cur, e, hq, hr, rest⟩
  · exact .inl h2
  · exact .inr ⟨q, cp, cur, e, hq, (m.block q (Array.getElem?_eq_some_iff.1 hr).1 (by omega)).trans hr, rest⟩
theorem mv_set {g k : Nat} {w w1 : World} (h : Mv g w w1) (hk : w.heap.size ≤ k) (i : Nat) (v : Value) : Mv g w (w1.setCell ⟨k, i, none⟩ v) :=
  ⟨h.os, h.tape, h.output, by simpa [World.setCell] using h.size, fun j hj hg => (heap_setCell_other _ _ _ _ (by show ¬ j = k; omega)).trans (h.block j hj hg)⟩
theorem mv_grown {g : Nat} {w w1 w2 : World} {r : Option Nat} (h : Mv g w w1) (k : w1.grownBy w2 r) (hr : ∀ j, r = some j → w.heap.size ≤ j) : Mv g w w2 :=
  ⟨k.os.trans h.os, k.tape.trans h.tape, k.output.trans h.output, Nat.le_trans h.size k.size, fun j hj hg => (k.block j (Nat.lt_of_lt_of_le hj h.size) (fun e => by have := hr j e.symm; omega)).trans (h.block j hj hg)⟩
theorem cur_back {w0 wr wx : World} {g N : Nat} {a : Option Addr} {cap : Nat} {zs : List Int} (hc : CurAt wr g N a cap zs) (hb : wx.heap[g]? = wr.heap[g]?) (hr : RowU w0 g a zs) (mv : Mv g w0 wx) : CurAt wx g N a cap zs := by
  obtain ⟨⟨k, sd, h1, h2⟩, _, hl⟩ := hc
  exact ⟨⟨k, sd, hb.trans h1, h2⟩, hr.keep mv, hl⟩
theorem lsAt_set {w : World} {bk off : Nat} {ms : List Rw} (h : LsAt tyRw w (some ⟨bk, off, none⟩) ms) {k j : Nat} (hk : k < ms.length) (hj : j < 4) (r : Rw) (v : Value) (hr : rwV r = (rwV (ms.getD k rw0)).set j v) : LsAt tyRw (w.setCell ⟨bk, off + k * 4 + j, none⟩ v) (some ⟨bk, off, none⟩) (ms.set k r) := by
  refine .inr ⟨bk, off, rfl, by simpa [World.setCell] using (rwAt_cell h hk).1, fun i hi => ?_⟩
  have hi2 : i < ms.length := by
    have h2 : i < (ms.set k r).length := hi
    simpa using h2
  obtain ⟨_, hc⟩ := rwAt_cell h hi2
  refine ⟨rwV ((ms.set k r).getD i rw0), fun q u hq => ?_, rfl⟩
  have hq4 : q < 4 := by have := (List.getElem?_eq_some_iff.1 hq).1; simpa [rwV] using this
  show (w.setCell ⟨bk, off + k * 4 + j, none⟩ v).cell? ⟨bk, off + i * 4 + q, none⟩ = some u
  rw [getD_set' hi2] at hq
  by_cases hik : i = k
  · subst hik
    rw [if_pos rfl, hr] at hq
    obtain ⟨u0, hu0⟩ : ∃ u0, (rwV (ms.getD i rw0))[q]? = some u0 := by
      rw [List.getElem?_set] at hq
      exact ⟨_, List.getElem?_eq_getElem (by simpa [rwV] using hq4)⟩
    have h3 := cell_set (j := off + i * 4 + j) (v := v) (hc q u0 hu0)
    rw [h3]
    by_cases hqj : q = j
    · subst hqj
      rw [if_pos rfl]
      rw [List.getElem?_set_self (by simpa [rwV] using hq4)] at hq
      exact hq
    · rw [if_neg (by omega)]
      rw [List.getElem?_set_ne (by omega), hu0] at hq
      exact hq
  · rw [if_neg (fun e => hik e.symm)] at hq
    have h3 := cell_set (j := off + k * 4 + j) (v := v) (hc q u hq)
    rw [h3, if_neg (by omega)]
theorem OwR.open {B : Nat} {w : World} {v : Value} {C : List Rw} (h : OwR B w v C) (hn : 0 < C.length) : ∃ g o c, v = .slice (some ⟨g, o, none⟩) C.length c ∧ B ≤ g ∧ LsAt tyRw w (some ⟨g, o, none⟩) C ∧ C.length ≤ c ∧ ∀ i, w.frozen? ⟨g, i, none⟩ = false := by
  obtain ⟨g, c, rfl⟩ := h.form hn
  have h2 := OwR.at h
  obtain ⟨⟨cu, hcu⟩, _, hB⟩ := owns_cells h
  exact ⟨g, 0, c, rfl, hB, h2.1, h2.2.2.1, fun i => frozen_of_row w _ _ _ _ hcu⟩
/-- a table that is read -/
def TX (w : World) (v : Value) (ms : List Rw) : Prop := ∃ ad ct, v = .slice ad ms.length ct ∧ LsAt tyRw w ad ms ∧ ms.length ≤ ct ∧ (ad = none → ct = 0)
theorem TX.mv {g N : Nat} {w w1 : World} {a : Option Addr} {cap : Nat} {zs : List Int} {v : Value} {ms : List Rw} (h : TX w v ms) (hc : CurAt w g N a cap zs) (m : Mv g w w1) : TX w1 v ms := by
  obtain ⟨ad, ct, rfl, h1, h2, h3⟩ := h
  exact ⟨ad, ct, rfl, lsAt_mv h1 hc m, h2, h3⟩
theorem TX.keep {w w1 : World} {v : Value} {ms : List Rw} (h : TX w v ms) (hb : Below w.heap.size w w1) : TX w1 v ms := by
  obtain ⟨ad, ct, rfl, h1, h2, h3⟩ := h
  exact ⟨ad, ct, rfl, h1.keep hb, h2, h3⟩
theorem OwR.tx {B : Nat} {w : World} {v : Value} {C : List Rw} (h : OwR B w v C) : TX w v C := by
  obtain ⟨a, c, rfl⟩ := h.slice
  have h2 := OwR.at h
  exact ⟨a, c, rfl, h2.1, h2.2.2.1, h2.2.2.2⟩
/-- the cursor, and the space's variable -/
structure TS (w wr : World) (g N : Nat) (a : Option Addr) (cap : Nat) (zs : List Int) (b d : Int) : Prop where
  mv : Mv g w wr
  cur : CurAt wr g N a cap zs
  sp : Wire.Bk wr w.heap.size #[.int .i64 b, .int .i64 d] 25
  lt : g < w.heap.size
section
variable {w wr w1 : World} {g N M : Nat} {a : Option Addr} {cap : Nat} {zs : List Int} {b d : Int}
theorem TS.step (h : TS w wr g N a cap zs b d) (m : Mv g wr w1) (hc : CurAt w1 g M a cap zs) : TS w w1 g M a cap zs b d :=
  ⟨h.mv.trans m, hc, (m.block _ (Wire.Bk.lt h.sp) (by have := h.lt; omega)).trans h.sp, h.lt⟩
theorem TS.keep (h : TS w wr g N a cap zs b d) (hb : Below wr.heap.size wr w1) : TS w w1 g N a cap zs b d := h.step (Mv.of_below hb) (h.cur.keep hb)
theorem TS.more (h : TS w wr g N a cap zs b d) (hn : N ≤ M) : TS w wr g M a cap zs b d := ⟨h.mv, h.cur.more hn, h.sp, h.lt⟩
theorem TS.new (hc : CurAt w g N a cap zs) : TS w (w.alloc (.cells #[.int .i64 b, .int .i64 d] 25)) g N a cap zs b d :=
  ⟨Mv.of_below (belA _ _), hc.keep (belA _ _), Wire.Bk.new _ _ _, hc.lt⟩
end
theorem ptL_len (b d : Int) (ms : List Rw) (key val : Int) : (ptL b d ms key val).length ≤ 9 := by
  unfold ptL
  split
  · rename_i h; exact put_len (ptB_gt h) _
  · simp
theorem dpL_len (b d : Int) (ms : List Rw) (key : Int) : (dpL b d ms key).length ≤ 9 := by
  unfold dpL
  split
  · rename_i h; exact put_len (dpB_gt h) _
  · simp
theorem ints_new3' (w : World) (x y z : Int) : ∀ i, i < [x, y, z].length → (w.alloc (.cells #[.int .i64 x, .int .i64 y, .int .i64 z] 3)).cell? ⟨w.heap.size, 0 + i, none⟩ = some (.int .i64 ([x, y, z].getD i 0)) := by
  intro i hi
  rw [cell_of_row _ _ _ _ _ _ (heap_alloc_new w (.cells #[.int .i64 x, .int .i64 y, .int .i64 z] 3))]
  match i, hi with
  | 0, _ => rfl
  | 1, _ => rfl
  | 2, _ => rfl
/-- what a drawn table is -/
def TabDrew (w : World) (g N : Nat) (a : Option Addr) (cap : Nat) (zs : List Int) (e : Ending) (w' : World) : Prop :=
  ∃ (ad : Option Addr) (nt ct : Nat) (ms : List Rw), e = .returned (.slice ad nt ct) ∧ ms.length = nt ∧ nt ≤ 10 ∧ LsAt tyRw w' ad ms ∧ nt ≤ ct ∧ (ad = none → ct = 0) ∧ Mv g w w' ∧ CurAt w' g N a cap zs
set_option maxRecDepth 100000 in
set_option maxHeartbeats 12800000 in
theorem table_any (b d : Int) (w : World) (g n : Nat) (a : Option Addr) (cap : Nat) (zs : List Int) (hc : CurAt w g n a cap zs) (hn : n ≤ 100000) :
    Calls Try.prog 44 #[.pointer (some ⟨g, 0, none⟩), .agg #[.int .i64 b, .int .i64 d]] w (TabDrew w g (n + 100) a cap zs) := by
  have HS0 : Hid (TS w (w.alloc (.cells #[.int .i64 b, .int .i64 d] 25)) g n a cap zs b d) := TS.new hc
  have HR0 : Hid (RowU w g a zs) := hc.row
  have HG0 : Hid (g < w.heap.size) := hc.lt
  clear hc
  go_enter Try.func44, Try.ntmps44
  go_wp2_with fail
  refine (pick_any _ _ _ _ _ _ _ HS0.out.cur (by omega) (by omega) (by omega)).mono ?_
  rintro e w1 ⟨v1, rfl, p1, p2, mv1, hc1⟩
  obtain ⟨k1, rfl⟩ := Int.eq_ofNat_of_zero_le p1
  have HS1 : Hid (TS w w1 g (n + 2) a cap zs b d) := HS0.out.step mv1 hc1
  clear HS0 mv1 hc1 p1
  have hk1 : k1 ≤ 9 := by omega
  clear p2
  go_wp2_with fail
  go_loopw [5, 6] (fun vt vn wr => ∃ (j : Nat) (v : Value) (ms : List Rw), vt = v ∧ vn = .int .i64 j ∧ j ≤ k1 ∧ ms.length ≤ 9 ∧ Hid (TX wr v ms) ∧ Hid (TS w wr g (n + 2 + 6 * (k1 - j)) a cap zs b d)) (fun _ vn _ => (intOf vn).toNat)
  case atStart => exact ⟨k1, _, [], rfl, rfl, Nat.le_refl _, by simp, ⟨none, 0, rfl, .inl rfl, Nat.le_refl _, fun _ => rfl⟩, HS1.out.more (by omega)⟩
  case round =>
    obtain ⟨j, v, ms, hv, rfl, hj, hml, HT, HS⟩ := hrel
    clear HS1
    have hv' := hv.symm
    clear hv
    subst hv'
    by_cases hj0 : 0 < j
    · go_wp2_with fail
      refine (pick_any _ _ _ _ _ _ _ HS.out.cur (by omega) (by omega) (by omega)).mono ?_
      rintro e w2 ⟨v2, rfl, p1, p2, mv2, hc2⟩
      have HT2 : Hid (TX w2 v ms) := HT.out.mv HS.out.cur mv2
      have HS2 : Hid (TS w w2 g (n + 2 + 6 * (k1 - j) + 2) a cap zs b d) := HS.out.step mv2 hc2
      clear HT HS mv2 hc2
      go_wp2_with fail
      refine (one_any _ _ _ _ _ _ _ HS2.out.cur (by omega) (by omega) (by omega)).mono ?_
      rintro e w3 ⟨v3, rfl, mv3, hc3⟩
      have HT3 : Hid (TX w3 v ms) := HT2.out.mv HS2.out.cur mv3
      have HS3 : Hid (TS w w3 g (n + 2 + 6 * (k1 - j) + 2 + 2) a cap zs b d) := HS2.out.step mv3 hc3
      clear HT2 HS2 mv3 hc3
      cases v3
      · obtain ⟨ad, ct, rfl, hr3, hct3, h03⟩ := HT3.out
        have HL3 : Hid (LsAt tyRw w3 ad ms) := hr3
        have H03 : Hid (ad = none → ct = 0) := h03
        clear hr3 h03
        go_wp2_with fail
        have HSD : Hid (TS w w3.drew g (n + 2 + 6 * (k1 - j) + 2 + 2) a cap zs b d) := HS3.out.keep ((Below.refl _ _).drew)
        have HLD : Hid (LsAt tyRw w3.drew ad ms) := HL3.out.keep ((Below.refl _ _).drew)
        go_region_held (fun w' => w'.cell? ⟨w.heap.size, 0, none⟩ = some (.int .i64 b) ∧ w'.cell? ⟨w.heap.size, 1, none⟩ = some (.int .i64 d)) (with_reducible (first | exact Wire.Bk.c2 HSD.out.sp | exact Wire.Bk.c2 HS4.out.sp | exact Wire.Bk.c2 HSX.out.sp)) (first | (go_at_call 46; refine (pick_any _ _ _ _ _ _ _ HSD.out.cur (by omega) (by omega) (by omega)).mono ?_; rintro e w4 ⟨x4, rfl, q1, q2, mv4, hc4⟩; have HS4 : Hid (TS w w4 g (n + 2 + 6 * (k1 - j) + 2 + 2 + 2) a cap zs b d) := HSD.out.step mv4 hc4) | (go_at_call 16; refine (lPutRow_any b d ad ct ms.length ms (v2 * 2) x4 w4 rfl (by omega) hct3 H03.out (lsAt_mv HLD.out HSD.out.cur mv4)).mono ?_; rintro e w5 ⟨a5, n5, c5, rfl, hn5, hr5, hc5, h05, hb5⟩; have HSX : Hid (TS w w5 g (n + 2 + 6 * (k1 - j) + 2 + 2 + 2) a cap zs b d) := HS4.out.keep hb5))
        have HR9 : Hid (TX w5 (.slice a5 n5 c5) (ptL b d ms (v2 * 2) x4)) := by subst hn5; exact ⟨a5, c5, rfl, hr5, hc5, h05⟩
        have HLN : Hid ((ptL b d ms (v2 * 2) x4).length ≤ 9) := ptL_len _ _ _ _ _
        have HS5 : Hid (TS w w5 g (n + 2 + 6 * (k1 - j) + 2 + 2 + 2) a cap zs b d) := HS4.out.keep hb5
        have HT5 : Hid (TX w5 (.slice ad ms.length ct) ms) := ((HT3.out.keep ((Below.refl _ _).drew)).mv HSD.out.cur mv4).keep hb5
        clear hr5 hc5 h05 hb5 HS4 mv4 hc4 HT3 HS3 HL3 H03 hn5 HSD HLD
        generalize ptB b d ms (v2 * 2) x4 = ok
        generalize ptL b d ms (v2 * 2) x4 = ms5 at HR9 HLN
        cases ok
        · go_wp2
          go_roundw
          case rel => exact ⟨j - 1, _, ms, rfl, by go_num, by omega, hml, HT5, HS5.out.more (by omega)⟩
          case measure => simp [intOf]; omega
        · go_wp2
          go_roundw
          case rel => exact ⟨j - 1, _, ms5, rfl, by go_num, by omega, HLN.out, HR9, HS5.out.more (by omega)⟩
          case measure => simp [intOf]; omega
      · obtain ⟨ad, ct, rfl, hr3, hct3, h03⟩ := HT3.out
        obtain ⟨s0, s1⟩ := Wire.Bk.c2 HS3.out.sp
        have HLN : Hid ((dpL b d ms (v2 * 2)).length ≤ 9) := dpL_len _ _ _ _
        have CD := lDropRow_any b d ad ct ms.length ms (v2 * 2) w3 rfl (by omega) hct3 h03 hr3
        clear hr3 h03
        go_wp2_with fail
        refine CD.mono ?_
        rintro e w5 ⟨a5, n5, c5, rfl, hn5, hr5, hc5, h05, hb5⟩
        have HR9 : Hid (TX w5 (.slice a5 n5 c5) (dpL b d ms (v2 * 2))) := by subst hn5; exact ⟨a5, c5, rfl, hr5, hc5, h05⟩
        have HS5 : Hid (TS w w5 g (n + 2 + 6 * (k1 - j) + 2 + 2) a cap zs b d) := HS3.out.keep hb5
        have HT5 : Hid (TX w5 (.slice ad ms.length ct) ms) := HT3.out.keep hb5
        clear hr5 hc5 h05 hb5 HT3 HS3 hn5 CD s0 s1
        generalize dpB b d ms (v2 * 2) = ok
        generalize dpL b d ms (v2 * 2) = ms5 at HR9 HLN
        cases ok
        · go_wp2
          go_roundw
          case rel => exact ⟨j - 1, _, ms, rfl, by go_num, by omega, hml, HT5, HS5.out.more (by omega)⟩
          case measure => simp [intOf]; omega
        · go_wp2
          go_roundw
          case rel => exact ⟨j - 1, _, ms5, rfl, by go_num, by omega, HLN.out, HR9, HS5.out.more (by omega)⟩
          case measure => simp [intOf]; omega
    · have hj1 : j = 0 := by omega
      subst hj1
      obtain ⟨ad, ct, rfl, hr3, hct3, h03⟩ := HT.out
      have HL0 : Hid (OwR w.heap.size (wr.alloc (.cells #[] 37)) (.slice (some ⟨wr.heap.size, 0, none⟩) 0 0) []) := own_lit4 wr HS.out.mv.size
      have hrA := hr3.keep (belA wr (.cells #[] 37))
      by_cases hz : ms.length = 0
      · have hzd : decide (0 < ms.length) = false := decide_eq_false (by omega)
        clear hz
        go_wp2_with (first | (at_builtin; refine wpList_app rfl _ _ rfl w.heap.size _ [] rfl HL0.out ad ms.length ct ms rfl rfl hrA h03 (by simp) (by omega) (by have := HS.out.mv.size; simp; omega) ?_; intro v5 w5 hown hgrow; replace hown : OwR w.heap.size w5 v5 ms := hown; obtain ⟨a5, c5, rfl⟩ := hown.slice) | fail)
        have HO5 : Hid (OwR w.heap.size w5 (.slice a5 ms.length c5) ms) := hown
        have hb5 : Below wr.heap.size wr w5 := grown_bel' (belA wr (.cells #[] 37)) hgrow (by simp) (fun k hk => by have h2 : some wr.heap.size = some k := hk; cases h2; exact Nat.le_refl _)
        have HS5 : Hid (TS w w5 g (n + 2 + 6 * k1) a cap zs b d) := (HS.out.keep hb5).more (by omega)
        clear hown hgrow HL0 hrA hr3 h03 HT HS hb5 hct3
        obtain ⟨q1, q2, q3, q4⟩ := OwR.at HO5.out
        have Q1 : Hid (LsAt tyRw w5 a5 ms) := q1
        have Q4 : Hid (a5 = none → c5 = 0) := q4
        clear q1 q2 q4
        go_ret
        exact ⟨a5, _, c5, ms, rfl, rfl, by omega, Q1.out, q3, Q4.out, HS5.out.mv, HS5.out.cur.more (by omega)⟩
      · have hzd : decide (0 < ms.length) = true := decide_eq_true (by omega)
        go_wp2_with (first | (at_builtin; refine wpList_app rfl _ _ rfl w.heap.size _ [] rfl HL0.out ad ms.length ct ms rfl rfl hrA h03 (by simp) (by omega) (by have := HS.out.mv.size; simp; omega) ?_; intro v5 w5 hown hgrow; replace hown : OwR w.heap.size w5 v5 ms := hown; obtain ⟨a5, c5, rfl⟩ := hown.slice) | fail)
        have HO5 : Hid (OwR w.heap.size w5 (.slice a5 ms.length c5) ms) := hown
        have hb5 : Below wr.heap.size wr w5 := grown_bel' (belA wr (.cells #[] 37)) hgrow (by simp) (fun k hk => by have h2 : some wr.heap.size = some k := hk; cases h2; exact Nat.le_refl _)
        have HS5 : Hid (TS w w5 g (n + 2 + 6 * k1) a cap zs b d) := (HS.out.keep hb5).more (by omega)
        clear hown hgrow HL0 hrA hr3 h03 HT HS hb5 hct3
        obtain ⟨g5, o5, _, hv5, hg5, hl5, hcc5, hf5⟩ := HO5.out.open (by omega)
        cases hv5
        clear hl5 hf5
        refine (pick_any _ _ _ _ _ _ _ HS5.out.cur (by omega) (by omega) (by omega)).mono ?_
        rintro e w6 ⟨v6, rfl, p1, p2, mv6, hc6⟩
        obtain ⟨k6, rfl⟩ := Int.eq_ofNat_of_zero_le p1
        have hk6 : k6 < ms.length := by omega
        have HO6 : Hid (OwR w.heap.size w6 (.slice (some ⟨g5, o5, none⟩) ms.length c5) ms) := HO5.out.mv mv6 HG0.out
        have HS6 : Hid (TS w w6 g (n + 2 + 6 * k1 + 2) a cap zs b d) := HS5.out.step mv6 hc6
        clear HO5 HS5 mv6 hc6 p1 p2
        go_wp2_with fail
        refine (pick_any _ _ _ _ _ _ _ HS6.out.cur (by omega) (by omega) (by omega)).mono ?_
        rintro e w7 ⟨v7, rfl, p1, p2, mv7, hc7⟩
        have HO7 : Hid (OwR w.heap.size w7 (.slice (some ⟨g5, o5, none⟩) ms.length c5) ms) := HO6.out.mv mv7 HG0.out
        have HS7 : Hid (TS w w7 g (n + 2 + 6 * k1 + 2 + 2) a cap zs b d) := HS6.out.step mv7 hc7
        clear HO6 HS6 mv7 hc7
        by_cases e0 : v7 = 0
        · subst e0
          go_wp2_with fail
          refine (among_any [0, 1000000, 1000001] w7.heap.size 3 _ _ _ _ _ _ (HS7.out.keep (belA _ _)).cur (by omega) (by simp) (by simp) (by simp) (by have := HS7.out.mv.size; have := HG0.out; omega) (ints_new3' _ _ _ _)).mono ?_
          rintro e w8 ⟨v8, rfl, hmem, mv8, hc8⟩
          have HO8 : Hid (OwR w.heap.size w8 (.slice (some ⟨g5, o5, none⟩) ms.length c5) ms) := (HO7.out.alloc _).mv mv8 HG0.out
          have HS8 : Hid (TS w w8 g (n + 2 + 6 * k1 + 2 + 2 + 2) a cap zs b d) := (HS7.out.keep (belA _ _)).step mv8 hc8
          clear HO7 HS7 mv8 hc8 hmem
          obtain ⟨_, _, _, hfo, _, hl8, _, hf8⟩ := HO8.out.open (by omega)
          cases hfo
          have hfr := hf8 (o5 + k6 * 4 + 1)
          obtain ⟨hgl, hcr⟩ := rwAt_cell hl8 hk6
          obtain ⟨c0, c1, c2, c3⟩ := CellsAt.rw hcr
          have HL9 : Hid (LsAt tyRw (w8.setCell ⟨g5, o5 + k6 * 4 + 1, none⟩ (.int .i64 v8)) (some ⟨g5, o5, none⟩) (ms.set k6 ⟨(ms.getD k6 rw0).x0, v8, (ms.getD k6 rw0).x2, (ms.getD k6 rw0).b⟩)) := lsAt_set hl8 hk6 (by omega) _ _ rfl
          have HM9 : Hid (Mv g w (w8.setCell ⟨g5, o5 + k6 * 4 + 1, none⟩ (.int .i64 v8))) := mv_set HS8.out.mv hg5 _ _
          have HC9 : Hid (CurAt (w8.setCell ⟨g5, o5 + k6 * 4 + 1, none⟩ (.int .i64 v8)) g (n + 100) a cap zs) := cur_back (HS8.out.cur.more (by omega)) (heap_setCell_other _ _ _ _ (by have := HG0.out; show ¬ g = g5; omega)) HR0.out HM9.out
          clear hl8 hcr hf8 HS8 HO8 c0 c2 c3
          go_wp2
          go_ret
          exact ⟨_, _, c5, _, rfl, by simp, by omega, HL9.out, hcc5, (fun hh => by cases hh), HM9.out, HC9.out⟩
        · by_cases e1 : v7 = 1
          · subst e1
            obtain ⟨_, _, _, hfo, _, hl8, _, hf8⟩ := HO7.out.open (by omega)
            cases hfo
            have hfr := hf8 (o5 + k6 * 4 + 3)
            obtain ⟨hgl, hcr⟩ := rwAt_cell hl8 hk6
            obtain ⟨c0, c1, c2, c3⟩ := CellsAt.rw hcr
            have HL9 : Hid (LsAt tyRw (w7.setCell ⟨g5, o5 + k6 * 4 + 3, none⟩ (.bool (!(ms.getD k6 rw0).b))) (some ⟨g5, o5, none⟩) (ms.set k6 ⟨(ms.getD k6 rw0).x0, (ms.getD k6 rw0).x1, (ms.getD k6 rw0).x2, !(ms.getD k6 rw0).b⟩)) := lsAt_set hl8 hk6 (by omega) _ _ rfl
            have HM9 : Hid (Mv g w (w7.setCell ⟨g5, o5 + k6 * 4 + 3, none⟩ (.bool (!(ms.getD k6 rw0).b)))) := mv_set HS7.out.mv hg5 _ _
            have HC9 : Hid (CurAt (w7.setCell ⟨g5, o5 + k6 * 4 + 3, none⟩ (.bool (!(ms.getD k6 rw0).b))) g (n + 100) a cap zs) := cur_back (HS7.out.cur.more (by omega)) (heap_setCell_other _ _ _ _ (by have := HG0.out; show ¬ g = g5; omega)) HR0.out HM9.out
            clear hl8 hcr hf8 HS7 HO7 c0 c1 c2
            generalize ms.getD k6 rw0 = r at c3 HL9 HM9 HC9
            go_wp2
            go_ret
            exact ⟨_, _, c5, _, rfl, by simp, by omega, HL9.out, hcc5, (fun hh => by cases hh), HM9.out, HC9.out⟩
          · by_cases e2 : v7 = 2
            · subst e2
              obtain ⟨_, _, _, hfo, _, hl8, _, hf8⟩ := HO7.out.open (by omega)
              cases hfo
              obtain ⟨hgl, hcr⟩ := rwAt_cell hl8 hk6
              obtain ⟨c0, c1, c2, c3⟩ := CellsAt.rw hcr
              clear hl8 hcr hf8
              generalize ms.getD k6 rw0 = r at c0 c1 c2 c3
              have HRN : Hid (LsAt tyRw (w7.alloc (.cells #[.int .i64 r.x0, .int .i64 r.x1, .int .i64 r.x2, .bool r.b] 37)) (some ⟨w7.heap.size, 0, none⟩) [r]) := row_at_new w7 r
              have HOA : Hid (OwR w.heap.size (w7.alloc (.cells #[.int .i64 r.x0, .int .i64 r.x1, .int .i64 r.x2, .bool r.b] 37)) (.slice (some ⟨g5, o5, none⟩) ms.length c5) ms) := HO7.out.alloc _
              have HSZ : Hid (w.heap.size ≤ (w7.alloc (.cells #[.int .i64 r.x0, .int .i64 r.x1, .int .i64 r.x2, .bool r.b] 37)).heap.size) := by have := HS7.out.mv.size; unfold Hid; simp; omega
              go_wp2_with (first | (at_builtin; refine wpList_app rfl _ _ rfl w.heap.size _ ms rfl HOA.out (some ⟨w7.heap.size, 0, none⟩) 1 1 [r] rfl rfl HRN.out (fun hh => by cases hh) (by omega) (by omega) HSZ.out ?_; intro v9 w9 hown hgrow) | fail)
              have HO9 : Hid (OwR w.heap.size w9 v9 (ms ++ [r])) := hown
              have HM9 : Hid (Mv g w w9) := mv_grown ((HS7.out.keep (belA _ _)).mv) hgrow (fun k hk => HOA.out.lo k hk)
              have HC9 : Hid (CurAt w9 g (n + 100) a cap zs) := cur_back (HS7.out.cur.more (by omega)) ((hgrow.block g (by have := HSZ.out; have := HG0.out; omega) (fun he => by have := HOA.out.lo g he.symm; have := HG0.out; omega)).trans ((belA w7 (.cells #[.int .i64 r.x0, .int .i64 r.x1, .int .i64 r.x2, .bool r.b] 37)).block g HS7.out.cur.lt)) HR0.out HM9.out
              clear hown hgrow HRN HOA HSZ HO7 HS7 c0 c1 c2 c3
              obtain ⟨a9, c9, rfl⟩ := HO9.out.slice
              obtain ⟨q1, q2, q3, q4⟩ := OwR.at HO9.out
              have Q1 : Hid (LsAt tyRw w9 a9 (ms ++ [r])) := q1
              have Q4 : Hid (a9 = none → c9 = 0) := q4
              clear q1 q2 q4
              have hl9 : (ms ++ [r]).length ≤ 10 := by simp; omega
              go_wp2
              go_ret
              exact ⟨a9, _, c9, ms ++ [r], rfl, rfl, hl9, Q1.out, q3, Q4.out, HM9.out, HC9.out⟩
            · obtain ⟨q1, q2, q3, q4⟩ := OwR.at HO7.out
              have Q1 : Hid (LsAt tyRw w7 (some ⟨g5, o5, none⟩) ms) := q1
              clear q1 q2 q4
              go_wp2
              go_ret
              exact ⟨_, _, c5, ms, rfl, rfl, by omega, Q1.out, q3, (fun hh => by cases hh), HS7.out.mv, HS7.out.cur.more (by omega)⟩
end Go.Proofs.Ytpgngfdhnoonjaa.Tb
