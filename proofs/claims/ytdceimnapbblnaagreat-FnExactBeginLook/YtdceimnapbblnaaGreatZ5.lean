/- The specification's GoodNet. Looks put to their places, and lists of looks, in numbers. Bytes laid behind one another: an append tells which block has turned. GoodMsg of the program: what its helpers answer. GoodMsg of the program. GoodMsg: the program answers as the specification. The program's helpers at nets: lists asked, looks gathered. The program's GoodNet. The program's GoodNet, whole. GoodNet, both sides, as the laws call them. -/
import Derived.Laws.AppendOwn
import Derived.Laws.OwnMore
import Derived.ArgAppend
import Derived.Test.YtdceimnapbblnaaGreatZ0
import Derived.Test.YtdceimnapbblnaaGreatZ1
import Derived.Test.YtdceimnapbblnaaGreatZ2
import Derived.Test.YtdceimnapbblnaaGreatZ3
import Derived.Test.YtdceimnapbblnaaGreatZ4
namespace Go.Proofs.YtdceimnapbblnaaGreat
open Go.RowKit Go.Deep
set_option linter.unusedVariables false
set_option linter.unusedSimpArgs false
/-- one block: what came in -/
structure B1 (w wr : World) (A : Array Value) (TA : TypeId) : Prop where
  bel : Below w.heap.size w wr
  ka : Wire.Bk wr w.heap.size A TA
theorem B1.keep {w wr w1 : World} {A : Array Value} {TA : TypeId} (h : B1 w wr A TA) (hb : Below wr.heap.size wr w1) : B1 w w1 A TA := ⟨belt h.bel hb, h.ka.keep hb⟩
theorem b10 (w : World) (A : Array Value) (TA : TypeId) : B1 w (w.alloc (.cells A TA)) A TA := ⟨belA _ _, Wire.Bk.new _ _ _⟩
theorem lmemb (b d : Int) (a : Option Addr) (cap : Nat) (ps : List Pr) (w : World) (hm : ps.length ≤ 1048576) (hr : PeersAt w a ps) :
    Calls Tryz.prog 147 #[.agg #[.int .i64 b, .int .i64 d, .slice a ps.length cap]] w fun e w' => ∃ a1 cap1, e = .returned (.slice a1 ps.length cap1) ∧ RowAt w' a1 (idsP ps) ∧ Below w.heap.size w w' := by
  refine (lmembers_any b d a cap ps w hm hr).mono ?_
  rintro e w2 ⟨v1, rfl, hown1, hw1⟩
  obtain ⟨a1, cap1, rfl, hc1, hrow1⟩ := own_rowAt hown1
  rw [idsP_len]
  exact ⟨a1, cap1, rfl, hrow1, hw1⟩
theorem lhasN (a : Option Addr) (cap n : Nat) (zs : List Int) (x : Int) (w : World) (hn : zs.length = n) (hm : n ≤ maxLen) (hr : RowAt w a zs) : Calls Tryz.prog 87 #[.slice a n cap, .int .i64 x] w fun e w' => e = .returned (.bool (hasB zs x)) ∧ w' = w := by
  subst hn
  exact lhas_any a cap zs x w hm hr
def lkL (ms : List Mg) (rs : List Rp) : List Int := lkM ms ++ lkR rs
theorem lkL_len (ms : List Mg) (rs : List Rp) : (lkL ms rs).length = ms.length + rs.length := by unfold lkL; rw [List.length_append, lkM_len, lkR_len]
theorem lkL_m {ms : List Mg} {rs : List Rp} {i : Nat} (h : i < ms.length) : (lkL ms rs).getD i 0 = (ms.getD i mg0).x1 := by
  rw [← lkM_get h]
  unfold lkL
  rw [List.getD_eq_getElem?_getD, List.getElem?_append_left (by rw [lkM_len]; exact h), List.getD_eq_getElem?_getD]
theorem lkL_r {ms : List Mg} {rs : List Rp} {i : Nat} (h : i < rs.length) : (lkL ms rs).getD (ms.length + i) 0 = (rs.getD i rp0).x0 := by
  rw [← lkR_get h]
  unfold lkL
  rw [List.getD_eq_getElem?_getD, List.getElem?_append_right (by rw [lkM_len]; omega), lkM_len, List.getD_eq_getElem?_getD]
  congr 3
  omega
theorem take_snoc {L : List Int} {k : Nat} (h : k < L.length) : L.take (k + 1) = L.take k ++ [L.getD k 0] := by
  rw [List.take_add_one, List.getD_eq_getElem?_getD, List.getElem?_eq_getElem h]; rfl
theorem goodN_m {b d ttl : Int} {ps : List Pr} {ms : List Mg} {gs : List Int} {rs : List Rp} {k : Nat} (hk : k < ms.length) (h : okMg b d (idsP ps) (ms.getD k mg0) = false) : goodN b d ttl ps ms gs rs = false := by
  have : decide (∀ i, i < ms.length → okMg b d (idsP ps) (ms.getD i mg0) = true) = false := decide_eq_false (fun hh => by rw [hh k hk] at h; cases h)
  unfold goodN
  rw [this]
  simp
theorem goodN_a {b d ttl : Int} {ps : List Pr} {ms : List Mg} {gs : List Int} {rs : List Rp} {k : Nat} (hk : k < ms.length + rs.length) (h : ¬ (hasB gs ((lkL ms rs).getD k 0) = true ∧ hasB ((lkL ms rs).take k) ((lkL ms rs).getD k 0) = false)) : goodN b d ttl ps ms gs rs = false := by
  have : appB gs (lkM ms ++ lkR rs) = false := decide_eq_false (fun hh => h (hh k (by rw [← lkL_len] at hk; exact hk)))
  unfold goodN
  rw [this]
  simp
theorem goodN_yes {b d ttl : Int} {ps : List Pr} {ms : List Mg} {gs : List Int} {rs : List Rp} (h1 : goodP b d ps = true) (h2 : inB ttl 0 1000 = true) (h3 : ms.length ≤ 12) (h4 : gs.length ≤ 12) (h5 : risB gs 0 255 = true) (h6 : ∀ i, i < ms.length → okMg b d (idsP ps) (ms.getD i mg0) = true)
    (h7 : ∀ i, i < ms.length + rs.length → hasB gs ((lkL ms rs).getD i 0) = true ∧ hasB ((lkL ms rs).take i) ((lkL ms rs).getD i 0) = false) : goodN b d ttl ps ms gs rs = true := by
  have a1 : appB gs (lkM ms ++ lkR rs) = true := decide_eq_true (fun i hi => h7 i (by rw [← lkL_len]; exact hi))
  unfold goodN
  rw [h1, h2, h5, a1, decide_eq_true h3, decide_eq_true h4, decide_eq_true h6]; rfl
set_option maxRecDepth 100000 in
set_option maxHeartbeats 12800000 in
theorem lgoodN_any (b d ttl : Int) (ap am ag ar : Option Addr) (cp cm cg cr : Nat) (ps : List Pr) (ms : List Mg) (gs : List Int) (rs : List Rp) (w : World) (hb : BigN ps ms gs rs) (hr : NetAt w ap am ag ar ps ms gs rs) :
    Calls Tryz.prog 88 #[.agg #[.int .i64 b, .int .i64 d, .slice ap ps.length cp, .int .i64 ttl, .slice am ms.length cm, .slice ag gs.length cg, .slice ar rs.length cr]] w fun e w' => e = .returned (.bool (goodN b d ttl ps ms gs rs)) ∧ Below w.heap.size w w' := by
  obtain ⟨i0, hi, hz0, hz1, hz2⟩ := info_parts'
  have HBG : Hid (BigN ps ms gs rs) := hb
  have HR : Hid (NetAt w ap am ag ar ps ms gs rs) := hr
  have hpl : ps.length ≤ 1048576 := by have := hb.p; omega
  have hml : ms.length ≤ 1048576 := by have := hb.m; omega
  have hgl : gs.length ≤ 1048576 := hb.g
  have hrl : rs.length ≤ 1048576 := hb.r
  have hil := idsP_len ps
  clear hr hb
  go_enter Tryz.func88, Tryz.ntmps88
  go_wp2_with fail
  refine (lmemb b d ap cp ps _ hpl (HR.out.keep (belA _ _)).p).mono ?_
  rintro e w1 ⟨a1, cap1, rfl, hI, HW⟩
  have BX1 : Hid (B1 w w1 #[.int .i64 b, .int .i64 d, .slice ap ps.length cp, .int .i64 ttl, .slice am ms.length cm, .slice ag gs.length cg, .slice ar rs.length cr] 36) := (b10 w _ _).keep HW
  have HI1 : Hid (RowAt w1 a1 (idsP ps)) := hI
  clear HW hI
  obtain ⟨q0, q1, q2, q3, q4, q5, q6⟩ := Wire.Bk.m7 BX1.out.ka
  have qlt := BX1.out.ka.lt
  go_wp2_with fail
  refine (lgood_any b d ap cp ps _ hpl (HR.out.keep BX1.out.bel).p).mono ?_
  rintro e w2 ⟨rfl, HW⟩
  have BX2 : Hid (B1 w w2 #[.int .i64 b, .int .i64 d, .slice ap ps.length cp, .int .i64 ttl, .slice am ms.length cm, .slice ag gs.length cg, .slice ar rs.length cr] 36) := BX1.out.keep HW
  have HI2 : Hid (RowAt w2 a1 (idsP ps)) := HI1.out.keep HW
  clear HW BX1 HI1 q0 q1 q2 q3 q4 q5 q6 qlt
  obtain ⟨q0, q1, q2, q3, q4, q5, q6⟩ := Wire.Bk.m7 BX2.out.ka
  have qlt := BX2.out.ka.lt
  cases hG : goodP b d ps
  · have HV : Hid (goodN b d ttl ps ms gs rs = false) := by unfold Hid goodN; rw [hG]; rfl
    clear hG
    go_wp2
    go_ret
    exact ⟨ret_bool HV.out.symm, BX2.out.bel⟩
  have HG : Hid (goodP b d ps = true) := hG
  clear hG
  go_wp2_with fail
  refine (lin_any ttl 0 1000 _).mono ?_
  rintro e wx ⟨rfl, hx⟩
  have hx' := hx.symm
  subst hx'
  clear hx
  cases hT : inB ttl 0 1000
  · have HV : Hid (goodN b d ttl ps ms gs rs = false) := by unfold Hid goodN; rw [hT]; simp
    clear hT
    go_wp2
    go_ret
    exact ⟨ret_bool HV.out.symm, BX2.out.bel⟩
  have HT : Hid (inB ttl 0 1000 = true) := hT
  clear hT
  by_cases hM : ms.length ≤ 12
  case neg =>
    have HV : Hid (goodN b d ttl ps ms gs rs = false) := by unfold Hid goodN; rw [decide_eq_false hM]; simp
    go_wp2
    go_ret
    exact ⟨ret_bool HV.out.symm, BX2.out.bel⟩
  by_cases hS : gs.length ≤ 12
  case neg =>
    have HV : Hid (goodN b d ttl ps ms gs rs = false) := by unfold Hid goodN; rw [decide_eq_false hS]; simp
    go_wp2
    go_ret
    exact ⟨ret_bool HV.out.symm, BX2.out.bel⟩
  go_wp2_with fail
  refine (lrising_any ag cg gs 0 255 _ (by unfold maxLen; omega) (HR.out.keep BX2.out.bel).g).mono ?_
  rintro e wx ⟨rfl, hx⟩
  have hx' := hx.symm
  subst hx'
  clear hx
  cases hE : risB gs 0 255
  · have HV : Hid (goodN b d ttl ps ms gs rs = false) := by unfold Hid goodN; rw [hE]; simp
    clear hE
    go_wp2
    go_ret
    exact ⟨ret_bool HV.out.symm, BX2.out.bel⟩
  have HE : Hid (risB gs 0 255 = true) := hE
  have HR2 : Hid (NetAt w2 ap am ag ar ps ms gs rs) := HR.out.keep BX2.out.bel
  clear hE HR
  go_wp2_with fail
  clear q0 q1 q2 q3 q4 q5 q6
  go_loopw [4, 43] (fun vs vi wr => ∃ (vo : Value) (k : Nat), vs = vo ∧ k ≤ ms.length ∧ vi = .int .i64 k ∧ Hid (wr.ownsRow w2.heap.size 3 1 vo ((lkL ms rs).take k).length (((lkL ms rs).take k).map (Value.int .i64))) ∧ Hid (Below w2.heap.size w2 wr) ∧ Hid (∀ i, i < k → okMg b d (idsP ps) (ms.getD i mg0) = true) ∧ Hid (∀ i, i < k → hasB gs ((lkL ms rs).getD i 0) = true ∧ hasB ((lkL ms rs).take i) ((lkL ms rs).getD i 0) = false)) (fun _ vi _ => ms.length - (intOf vi).toNat)
  case atStart => exact ⟨_, 0, rfl, Nat.zero_le _, rfl, World.ownsRow_nil _ _ _ _, Below.refl _ _, fun i hi => by omega, fun i hi => by omega⟩
  case round =>
    obtain ⟨vo, k, hvo, hk, rfl, HO, HB, HOK, HAP⟩ := hrel
    have hvo := hvo.symm
    subst hvo
    obtain ⟨T, hT⟩ : ∃ T, T = (lkL ms rs).take k := ⟨_, rfl⟩
    rw [← hT] at HO
    have HTE : Hid (T = (lkL ms rs).take k) := hT
    clear hT
    have BX : Hid (B1 w wr #[.int .i64 b, .int .i64 d, .slice ap ps.length cp, .int .i64 ttl, .slice am ms.length cm, .slice ag gs.length cg, .slice ar rs.length cr] 36) := BX2.out.keep HB.out
    have HRr : Hid (NetAt wr ap am ag ar ps ms gs rs) := HR2.out.keep HB.out
    obtain ⟨q0, q1, q2, q3, q4, q5, q6⟩ := Wire.Bk.m7 BX.out.ka
    have qlt := BX.out.ka.lt
    obtain ⟨am', cm', rfl, hcm, hrow⟩ := own_rowAt HO.out
    have HMET : Hid (RowAt wr am' T) := hrow
    clear hrow
    by_cases hlt : k < ms.length
    · obtain ⟨bk, off, rfl⟩ := lsAt_form HRr.out.m (by show 0 < ms.length; omega)
      obtain ⟨hb1, ab, cb, hc, hrb, hn, hcb⟩ := msAt_cell HRr.out.m hlt
      obtain ⟨c0, c1, c2, c3, c4, c5, c6, c7, c8⟩ := hc.m9
      have HNO : Hid (okMg b d (idsP ps) (ms.getD k mg0) = false → goodN b d ttl ps ms gs rs = false) := goodN_m hlt
      have HNA : Hid (¬ (hasB gs ((lkL ms rs).getD k 0) = true ∧ hasB T ((lkL ms rs).getD k 0) = false) → goodN b d ttl ps ms gs rs = false) := by rw [HTE.out]; exact goodN_a (by omega)
      have HX1 : Hid ((lkL ms rs).getD k 0 = (ms.getD k mg0).x1) := lkL_m hlt
      have HTK : Hid ((lkL ms rs).take (k + 1) = T ++ [(lkL ms rs).getD k 0]) := by rw [HTE.out]; exact take_snoc (by rw [lkL_len]; omega)
      have hle : T.length ≤ 2097152 := by rw [HTE.out, List.length_take, lkL_len]; omega
      have HML : Hid ((ms.getD k mg0).l.length ≤ 1048576) := by have := lsum_mem hlt; have := HBG.out.m; unfold Hid; omega
      clear hc hcb hn
      obtain ⟨p, hp⟩ : ∃ p, p = ms.getD k mg0 := ⟨_, rfl⟩
      have HP : Hid (p = ms.getD k mg0) := hp
      rw [← hp] at c0 c1 c2 c3 c4 c5 c6 c7 c8 hrb HML HNO HX1
      clear hp
      obtain ⟨x0, x1, x2, x3, x4, x5, x6, x7, l⟩ := p
      have HRB : Hid (RowAt wr ab l) := hrb
      have HX1 : Hid ((lkL ms rs).getD k 0 = x1) := HX1
      rw [HX1.out] at HNA HTK
      have HML : Hid (l.length ≤ 1048576) := HML
      clear hrb
      go_wp2_with fail
      refine (Wire.lGoodMsg_any b d x0 x1 x2 x3 x4 x5 x6 x7 ab cb l.length l _ rfl (by have := HML.out; unfold maxLen; omega) (HRB.out.keep (belA _ _))).mono ?_
      rintro e w3 ⟨rfl, HW⟩
      have K3 : Hid (Wire.Bk w3 wr.heap.size #[.int .i64 x0, .int .i64 x1, .int .i64 x2, .int .i64 x3, .int .i64 x4, .int .i64 x5, .int .i64 x6, .int .i64 x7, .slice ab l.length cb] 102) := (Wire.Bk.new _ _ _).keep HW
      have HB3 : Hid (Below wr.heap.size wr w3) := belt (belA _ _) HW
      have HW3 : Hid (Below (wr.heap.size + 1) (wr.alloc (.cells #[.int .i64 x0, .int .i64 x1, .int .i64 x2, .int .i64 x3, .int .i64 x4, .int .i64 x5, .int .i64 x6, .int .i64 x7, .slice ab l.length cb] 102)) w3) := by have h := HW; simp only [World.size_alloc] at h; exact h
      have BX3 : Hid (B1 w w3 #[.int .i64 b, .int .i64 d, .slice ap ps.length cp, .int .i64 ttl, .slice (some ⟨bk, off, none⟩) ms.length cm, .slice ag gs.length cg, .slice ar rs.length cr] 36) := BX.out.keep HB3.out
      clear HW q0 q1 q2 q3 q4 q5 q6 qlt c0 c1 c2 c3 c4 c5 c6 c7 c8 BX
      obtain ⟨q0, q1, q2, q3, q4, q5, q6⟩ := Wire.Bk.m7 BX3.out.ka
      have qlt := BX3.out.ka.lt
      obtain ⟨m0, m1, m2, m3, m4, m5, m6, m7, m8⟩ := Wire.Bk.c9 K3.out
      have mlt := K3.out.lt
      cases h1 : Wire.gmB b d x0 x1 x2 x3 x4 x5 x6 x7 l
      · have HV : Hid (goodN b d ttl ps ms gs rs = false) := HNO.out (by unfold okMg; rw [h1]; rfl)
        clear h1
        go_wp2
        go_ret
        exact ⟨ret_bool HV.out.symm, BX3.out.bel⟩
      go_wp2_with fail
      refine (lin_any x0 1 3 _).mono ?_
      rintro e wx ⟨rfl, hx⟩
      have hx' := hx.symm
      subst hx'
      clear hx
      cases h2 : inB x0 1 3
      · have HV : Hid (goodN b d ttl ps ms gs rs = false) := HNO.out (by unfold okMg; rw [h2]; simp)
        clear h1 h2
        go_wp2
        go_ret
        exact ⟨ret_bool HV.out.symm, BX3.out.bel⟩
      go_wp2_with fail
      refine (lhasN a1 cap1 ps.length (idsP ps) x2 w3 hil (by unfold maxLen; omega) ((HI2.out.keep HB.out).keep HB3.out)).mono ?_
      rintro e wx ⟨rfl, hx⟩
      have hx' := hx.symm
      subst hx'
      clear hx
      cases h3 : hasB (idsP ps) x2
      · have HV : Hid (goodN b d ttl ps ms gs rs = false) := HNO.out (by unfold okMg; rw [h3]; simp)
        clear h1 h2 h3
        go_wp2
        go_ret
        exact ⟨ret_bool HV.out.symm, BX3.out.bel⟩
      go_wp2_with fail
      refine (lhasN a1 cap1 ps.length (idsP ps) x3 w3 hil (by unfold maxLen; omega) ((HI2.out.keep HB.out).keep HB3.out)).mono ?_
      rintro e wx ⟨rfl, hx⟩
      have hx' := hx.symm
      subst hx'
      clear hx
      cases h4 : hasB (idsP ps) x3
      · have HV : Hid (goodN b d ttl ps ms gs rs = false) := HNO.out (by unfold okMg; rw [h4]; simp)
        clear h1 h2 h3 h4
        go_wp2
        go_ret
        exact ⟨ret_bool HV.out.symm, BX3.out.bel⟩
      go_wp2_with fail
      refine (lhasN ag cg gs.length gs x1 w3 rfl (by unfold maxLen; omega) (HRr.out.keep HB3.out).g).mono ?_
      rintro e wx ⟨rfl, hx⟩
      have hx' := hx.symm
      subst hx'
      clear hx
      cases h5 : hasB gs x1
      · have HV : Hid (goodN b d ttl ps ms gs rs = false) := HNA.out (fun hh => by rw [h5] at hh; cases hh.1)
        clear h1 h2 h3 h4 h5
        go_wp2
        go_ret
        exact ⟨ret_bool HV.out.symm, BX3.out.bel⟩
      go_wp2_with fail
      refine (lhasN am' cm' T.length T x1 w3 rfl (by unfold maxLen; omega) (HMET.out.keep HB3.out)).mono ?_
      rintro e wx ⟨rfl, hx⟩
      have hx' := hx.symm
      subst hx'
      clear hx
      cases h6 : hasB T x1
      case true =>
        have HV : Hid (goodN b d ttl ps ms gs rs = false) := HNA.out (fun hh => by rw [h6] at hh; cases hh.2)
        clear h1 h2 h3 h4 h5 h6
        go_wp2
        go_ret
        exact ⟨ret_bool HV.out.symm, BX3.out.bel⟩
      have HOK2 : Hid (∀ i, i < k + 1 → okMg b d (idsP ps) (ms.getD i mg0) = true) := fun i hi => by
        by_cases he : i = k
        · subst he; rw [← HP.out]; unfold okMg; rw [h1, h2, h3, h4]; rfl
        · exact HOK.out i (by omega)
      have HAP2 : Hid (∀ i, i < k + 1 → hasB gs ((lkL ms rs).getD i 0) = true ∧ hasB ((lkL ms rs).take i) ((lkL ms rs).getD i 0) = false) := fun i hi => by
        by_cases he : i = k
        · subst he; rw [HX1.out, ← HTE.out]; exact ⟨h5, h6⟩
        · exact HAP.out i (by omega)
      have HBz : Hid (Below w2.heap.size w2 w3) := belt HB.out HB3.out
      have HOz : Hid (w3.ownsRow w2.heap.size 3 1 (.slice am' T.length cm') T.length (T.map (Value.int .i64))) := own_blocks HO.out (fun q hq => HB3.out.block q ((HO.out.lt q hq).2))
      clear h1 h2 h3 h4 h5 h6 HNO HNA HOK HAP
      go_wp2_with (at_builtin; refine wpList_append_own _ rfl (.tmp 87) (.tmp 90) 30 rfl w2.heap.size 3 i0 (.int .i64 0) 1 8 Tryz.underlying30 hi hz0 hz1 hz2 rfl (by decide) _ _ _ rfl (HOz.out.alloc _) ⟨w3.heap.size, 0, none⟩ 1 1 [.int .i64 x1] rfl rfl (cell_one_new _ _ _) (by simp [Value.oneCell']) (by unfold maxLen; omega) (by omega) (alloc_size HBz.out) ?_; intro v5 w5 hown5 hgrow5 _; have HB5 : Hid (Below w2.heap.size w2 w5) := grown_bel (HBz.out.alloc HBz.out.size _) hgrow5 (alloc_size HBz.out) (fun k hk => (HOz.out.lt k hk).1); have HO5 : Hid (w5.ownsRow w2.heap.size 3 1 v5 ((lkL ms rs).take (k + 1)).length (((lkL ms rs).take (k + 1)).map (Value.int .i64))) := own_snoc HTK.out hown5; clear hown5 hgrow5)
      go_roundw
      case rel => exact ⟨_, k + 1, rfl, by omega, by go_num, HO5, HB5, HOK2, HAP2⟩
      case measure => simp [intOf]; omega
    · have hke : k = ms.length := by omega
      subst hke
      go_wp2_with fail
      clear q0 q1 q2 q3 q4 q5 q6 HMET qlt BX HRr
      go_loopw [4, 96] (fun vs vi w' => ∃ (vo : Value) (j : Nat), vs = vo ∧ j ≤ rs.length ∧ vi = .int .i64 j ∧ Hid (w'.ownsRow w2.heap.size 3 1 vo ((lkL ms rs).take (ms.length + j)).length (((lkL ms rs).take (ms.length + j)).map (Value.int .i64))) ∧ Hid (Below w2.heap.size w2 w') ∧ Hid (∀ i, i < ms.length + j → hasB gs ((lkL ms rs).getD i 0) = true ∧ hasB ((lkL ms rs).take i) ((lkL ms rs).getD i 0) = false)) (fun _ vi _ => rs.length - (intOf vi).toNat)
      case atStart => exact ⟨_, 0, rfl, Nat.zero_le _, rfl, by rw [Nat.add_zero, ← HTE.out]; exact HO, HB, by rw [Nat.add_zero]; exact HAP⟩
      case round =>
        clear HTE HO hcm HB HAP
        obtain ⟨vo, j, hvo, hj, rfl, HO, HB, HAP⟩ := hrel
        have hvo := hvo.symm
        subst hvo
        obtain ⟨T2, hT⟩ : ∃ T2, T2 = (lkL ms rs).take (ms.length + j) := ⟨_, rfl⟩
        rw [← hT] at HO
        have HTE : Hid (T2 = (lkL ms rs).take (ms.length + j)) := hT
        clear hT
        have BX : Hid (B1 w wr #[.int .i64 b, .int .i64 d, .slice ap ps.length cp, .int .i64 ttl, .slice am ms.length cm, .slice ag gs.length cg, .slice ar rs.length cr] 36) := BX2.out.keep HB.out
        have HRr : Hid (NetAt wr ap am ag ar ps ms gs rs) := HR2.out.keep HB.out
        obtain ⟨q0, q1, q2, q3, q4, q5, q6⟩ := Wire.Bk.m7 BX.out.ka
        have qlt := BX.out.ka.lt
        obtain ⟨am', cm', rfl, hcm, hrow⟩ := own_rowAt HO.out
        have HMET : Hid (RowAt wr am' T2) := hrow
        clear hrow
        by_cases hlt : j < rs.length
        · obtain ⟨bk, off, rfl⟩ := lsAt_form HRr.out.r (by show 0 < rs.length; omega)
          obtain ⟨hb1, hc⟩ := rsAt_cell HRr.out.r hlt
          obtain ⟨c0, c1, c2, c3, c4⟩ := hc.r5
          have HNA : Hid (¬ (hasB gs ((lkL ms rs).getD (ms.length + j) 0) = true ∧ hasB T2 ((lkL ms rs).getD (ms.length + j) 0) = false) → goodN b d ttl ps ms gs rs = false) := by rw [HTE.out]; exact goodN_a (k := ms.length + j) (by omega)
          have HX1 : Hid ((lkL ms rs).getD (ms.length + j) 0 = (rs.getD j rp0).x0) := lkL_r hlt
          have HTK : Hid ((lkL ms rs).take (ms.length + (j + 1)) = T2 ++ [(lkL ms rs).getD (ms.length + j) 0]) := by rw [HTE.out]; exact take_snoc (k := ms.length + j) (by rw [lkL_len]; omega)
          have hle : T2.length ≤ 2097152 := by rw [HTE.out, List.length_take, lkL_len]; omega
          clear hc
          generalize rs.getD j rp0 = p at c0 c1 c2 c3 c4 HX1
          obtain ⟨x0, x1, x2, x3, bb⟩ := p
          have HX1 : Hid ((lkL ms rs).getD (ms.length + j) 0 = x0) := HX1
          rw [HX1.out] at HNA HTK
          go_wp2_with fail
          refine (lhasN ag cg gs.length gs x0 _ rfl (by unfold maxLen; omega) (HRr.out.keep (belA _ _)).g).mono ?_
          rintro e wx ⟨rfl, rfl⟩
          cases h5 : hasB gs x0
          · have HV : Hid (goodN b d ttl ps ms gs rs = false) := HNA.out (fun hh => by rw [h5] at hh; cases hh.1)
            clear h5
            go_wp2
            go_ret
            exact ⟨ret_bool HV.out.symm, belt BX.out.bel (belA _ _)⟩
          go_wp2_with fail
          refine (lhasN am' cm' T2.length T2 x0 _ rfl (by unfold maxLen; omega) (HMET.out.keep (belA _ _))).mono ?_
          rintro e wx ⟨rfl, rfl⟩
          cases h6 : hasB T2 x0
          case true =>
            have HV : Hid (goodN b d ttl ps ms gs rs = false) := HNA.out (fun hh => by rw [h6] at hh; cases hh.2)
            clear h5 h6
            go_wp2
            go_ret
            exact ⟨ret_bool HV.out.symm, belt BX.out.bel (belA _ _)⟩
          have HAP2 : Hid (∀ i, i < ms.length + (j + 1) → hasB gs ((lkL ms rs).getD i 0) = true ∧ hasB ((lkL ms rs).take i) ((lkL ms rs).getD i 0) = false) := fun i hi => by
            by_cases he : i = ms.length + j
            · subst he; rw [HX1.out, ← HTE.out]; exact ⟨h5, h6⟩
            · exact HAP.out i (by omega)
          clear h5 h6 HNA HAP
          go_wp2_with (at_builtin; refine wpList_append_own _ rfl (.tmp 112) (.tmp 115) 30 rfl w2.heap.size 3 i0 (.int .i64 0) 1 8 Tryz.underlying30 hi hz0 hz1 hz2 rfl (by decide) _ _ _ rfl ((HO.out.alloc _).alloc _) ⟨wr.heap.size + 1, 0, none⟩ 1 1 [.int .i64 x0] rfl rfl (cell_two_new _ _ _ _) (by simp [Value.oneCell']) (by unfold maxLen; omega) (by omega) (alloc2_size HB.out) ?_; intro v5 w5 hown5 hgrow5 _; have HB5 : Hid (Below w2.heap.size w2 w5) := grown_bel ((HB.out.alloc HB.out.size _).alloc (alloc_size HB.out) _) hgrow5 (alloc2_size HB.out) (fun k hk => (HO.out.lt k hk).1); have HO5 : Hid (w5.ownsRow w2.heap.size 3 1 v5 ((lkL ms rs).take (ms.length + (j + 1))).length (((lkL ms rs).take (ms.length + (j + 1))).map (Value.int .i64))) := own_snoc HTK.out hown5; clear hown5 hgrow5)
          go_roundw
          case rel => exact ⟨_, j + 1, rfl, by omega, by go_num, HO5, HB5, HAP2⟩
          case measure => simp [intOf]; omega
        · have HV : Hid (goodN b d ttl ps ms gs rs = true) := goodN_yes HG.out HT.out hM hS HE.out HOK.out (fun i hi => HAP.out i (by omega))
          go_wp2
          go_ret
          exact ⟨ret_bool HV.out.symm, BX.out.bel⟩
end Go.Proofs.YtdceimnapbblnaaGreat
namespace Go.Proofs.YtdceimnapbblnaaGreat
open Go.RowKit Go.Deep
set_option linter.unusedVariables false
set_option linter.unusedSimpArgs false
/-- a number put to its place, once -/
def putI (l : List Int) (x : Int) : List Int := if memI l x = true then l else joinL l x
def Inc (l : List Int) : Prop := l.Pairwise (· < ·)
theorem tw_dw : ∀ (l : List Int) (x : Int), l.take (blw l x) = l.takeWhile (fun y => decide (y < x)) ∧ l.drop (blw l x) = l.dropWhile (fun y => decide (y < x))
  | [], x => by simp [blw]
  | y :: ys, x => by
    have ih := tw_dw ys x
    unfold blw at ih ⊢
    by_cases h : y < x
    · simp [List.takeWhile_cons, List.dropWhile_cons, h, ih.1, ih.2]
    · simp [List.takeWhile_cons, List.dropWhile_cons, h]
theorem mem_tw {l : List Int} {x y : Int} (h : y ∈ l.takeWhile (fun y => decide (y < x))) : y < x := by
  have := List.all_eq_true.1 (List.all_takeWhile (p := fun y : Int => decide (y < x)) (l := l)) y h
  simpa using this
theorem inc_mem {l : List Int} (h : Inc l) (x : Int) : memI l x = hasB l x := by
  obtain ⟨e1, e2⟩ := tw_dw l x
  rw [Bool.eq_iff_iff, hasB_mem]
  unfold memI
  rw [decide_eq_true_iff]
  constructor
  · rintro ⟨h1, h2⟩
    rw [List.getD_eq_getElem?_getD, List.getElem?_eq_getElem h1] at h2
    simp at h2
    exact h2 ▸ List.getElem_mem h1
  · intro hx
    have hs : l = l.take (blw l x) ++ l.drop (blw l x) := (List.take_append_drop _ _).symm
    have hp : (l.take (blw l x) ++ l.drop (blw l x)).Pairwise (· < ·) := by rw [← hs]; exact h
    obtain ⟨_, p2, _⟩ := List.pairwise_append.1 hp
    have hx2 : x ∈ l.take (blw l x) ++ l.drop (blw l x) := by rw [← hs]; exact hx
    have hd : x ∈ l.drop (blw l x) := by
      rcases List.mem_append.1 hx2 with q | q
      · rw [e1] at q
        have := mem_tw q
        omega
      · exact q
    cases hdr : l.drop (blw l x) with
    | nil => rw [hdr] at hd; simp at hd
    | cons y ys =>
      have hlt : blw l x < l.length := by
        have : (l.drop (blw l x)).length = ys.length + 1 := by rw [hdr]; rfl
        rw [List.length_drop] at this
        omega
      have hy : l.getD (blw l x) 0 = y := by
        have h0 : (l.drop (blw l x))[0]? = some y := by rw [hdr]; rfl
        rw [List.getElem?_drop, Nat.add_zero] at h0
        rw [List.getD_eq_getElem?_getD, h0]; rfl
      refine ⟨hlt, ?_⟩
      rw [hy]
      rw [hdr] at hd p2
      rcases List.mem_cons.1 hd with q | q
      · exact q.symm
      · exfalso
        have h1 : y < x := (List.pairwise_cons.1 p2).1 x q
        have h2 : (l.dropWhile (fun y => decide (y < x))).head? = some y := by rw [← e2, hdr]; rfl
        have h3 := List.head?_dropWhile_not (fun y => decide (y < x)) l
        rw [h2] at h3
        simp at h3
        omega
theorem joinL_mem (l : List Int) (x y : Int) : y ∈ joinL l x ↔ y ∈ l ∨ y = x := by
  unfold joinL
  constructor
  · intro h
    rcases List.mem_append.1 h with q | q
    · exact .inl (List.mem_of_mem_take q)
    · rcases List.mem_cons.1 q with q | q
      · exact .inr q
      · exact .inl (List.mem_of_mem_drop q)
  · rintro (h | rfl)
    · rw [← List.take_append_drop (blw l x) l] at h
      rcases List.mem_append.1 h with q | q
      · exact List.mem_append_left _ q
      · exact List.mem_append_right _ (List.mem_cons_of_mem _ q)
    · exact List.mem_append_right _ (by simp)
theorem joinL_inc {l : List Int} {x : Int} (h : Inc l) (hx : ¬ x ∈ l) : Inc (joinL l x) := by
  obtain ⟨e1, e2⟩ := tw_dw l x
  have hp : (l.take (blw l x) ++ l.drop (blw l x)).Pairwise (· < ·) := by rw [List.take_append_drop]; exact h
  obtain ⟨p1, p2, p3⟩ := List.pairwise_append.1 hp
  have lo : ∀ y ∈ l.take (blw l x), y < x := fun y hy => by
    rw [e1] at hy
    exact mem_tw hy
  have hi : ∀ y ∈ l.drop (blw l x), x < y := fun y hy => by
    cases hdr : l.drop (blw l x) with
    | nil => rw [hdr] at hy; simp at hy
    | cons z zs =>
      have h2 : (l.dropWhile (fun y => decide (y < x))).head? = some z := by rw [← e2, hdr]; rfl
      have h3 := List.head?_dropWhile_not (fun y => decide (y < x)) l
      rw [h2] at h3
      simp at h3
      have hz : ¬ z = x := fun e => hx (by rw [← e]; exact List.mem_of_mem_drop (by rw [hdr]; simp))
      rw [hdr] at hy p2
      rcases List.mem_cons.1 hy with q | q
      · omega
      · have := (List.pairwise_cons.1 p2).1 y q
        omega
  unfold Inc joinL
  refine List.pairwise_append.2 ⟨p1, List.pairwise_cons.2 ⟨hi, p2⟩, fun a ha b hb => ?_⟩
  rcases List.mem_cons.1 hb with q | q
  · rw [q]; exact lo a ha
  · exact p3 a ha b q
theorem putI_mem {l : List Int} (h : Inc l) (x y : Int) : y ∈ putI l x ↔ y ∈ l ∨ y = x := by
  unfold putI
  split
  · rename_i hm
    rw [inc_mem h, hasB_mem] at hm
    exact ⟨.inl, fun hh => hh.elim id (fun e => e ▸ hm)⟩
  · exact joinL_mem l x y
theorem putI_inc {l : List Int} (h : Inc l) (x : Int) : Inc (putI l x) := by
  unfold putI
  split
  · exact h
  · rename_i hm
    exact joinL_inc h (fun hx => hm (by rw [inc_mem h]; exact hasB_mem.2 hx))
def putL (l L : List Int) : List Int := L.foldl putI l
theorem putL_inc : ∀ (L : List Int) {l : List Int}, Inc l → Inc (putL l L)
  | [], _, h => h
  | x :: L, _, h => putL_inc L (putI_inc h x)
theorem putL_mem : ∀ (L : List Int) {l : List Int}, Inc l → ∀ y, y ∈ putL l L ↔ y ∈ l ∨ y ∈ L
  | [], _, _, y => by simp [putL]
  | x :: L, l, h, y => by
    have := putL_mem L (putI_inc h x) y
    show y ∈ putL (putI l x) L ↔ _
    rw [this, putI_mem h]
    simp only [List.mem_cons]
    constructor
    · rintro ((h | h) | h)
      · exact .inl h
      · exact .inr (.inl h)
      · exact .inr (.inr h)
    · rintro (h | h | h)
      · exact .inl (.inl h)
      · exact .inl (.inr h)
      · exact .inr h
theorem putI_len (l : List Int) (x : Int) : (putI l x).length ≤ l.length + 1 ∧ ¬ putI l x = [] := by
  unfold putI
  split
  · rename_i hm
    refine ⟨by omega, fun h => ?_⟩
    have := (of_decide_eq_true hm).1
    rw [h] at this
    simp at this
  · refine ⟨by rw [joinL_len]; exact Nat.le_refl _, fun h => ?_⟩
    have := joinL_len l x
    rw [h] at this
    simp at this
theorem putL_len : ∀ (L l : List Int), (putL l L).length ≤ l.length + L.length
  | [], l => by simp [putL]
  | x :: L, l => by
    have h1 := putL_len L (putI l x)
    have h2 := (putI_len l x).1
    show (putL (putI l x) L).length ≤ _
    simp only [List.length_cons]
    omega
theorem putL_snoc (l L : List Int) (x : Int) : putL l (L ++ [x]) = putI (putL l L) x := by unfold putL; rw [List.foldl_append]; rfl
theorem putL_app (l L M : List Int) : putL l (L ++ M) = putL (putL l L) M := by unfold putL; rw [List.foldl_append]
theorem inc_nil : Inc [] := List.Pairwise.nil
/-- the specification's l1Put at a list of one's own -/
theorem lputP_any (B : Nat) (v : Value) (l : List Int) (x : Int) (w : World) (hS : OwnM B w v l) (hN : l = [] → v = .slice none 0 0) (hl : l.length ≤ 16) (hB : B ≤ w.heap.size) :
    Calls Tryz.prog 86 #[v, .int .i64 x] w fun e w' => ∃ v' : Value, e = .returned v' ∧ OwnM B w' v' (putI l x) ∧ Below w.heap.size w w' := by
  rcases hS.form with ⟨rfl, rfl⟩ | ⟨g, cap, rfl, hc, os⟩
  · refine (lput_nil x w).mono ?_
    rintro e w1 ⟨v', he, ho, hb⟩
    exact ⟨v', he, ho.mono hB, hb⟩
  · by_cases h0 : l.length = 0
    · have : l = [] := List.length_eq_zero_iff.1 h0
      exact absurd (hN this) (by simp)
    · refine (lputO_any g 0 cap l x w (by omega) hl hc os.rowAt).mono ?_
      rintro e w1 (⟨hm, he, hw⟩ | ⟨hm, g2, cp2, he, ho, hb⟩)
      · subst hw
        exact ⟨_, he, by unfold putI; rw [if_pos hm]; exact hS, Below.refl _ _⟩
      · refine ⟨_, he, ?_, hb⟩
        unfold putI
        rw [if_neg (by rw [hm]; simp)]
        unfold OwnM
        rw [joinL_len]
        exact Joins.ownsRow_le ho hB
/-- the looks that are lost -/
def lostP (L : List Int) (x : Int) : Bool := !hasB L x
def lostL (b d ttl : Int) (ps : List Pr) (ms : List Mg) (gs : List Int) (rs : List Rp) : List Int := if goodN b d ttl ps ms gs rs = true then gs.filter (lostP (lkL ms rs)) else []
theorem filter_step (p : Int → Bool) {gs : List Int} {k : Nat} (hk : k < gs.length) : (gs.take (k + 1)).filter p = (gs.take k).filter p ++ (if p (gs.getD k 0) = true then [gs.getD k 0] else []) := by
  rw [take_snoc hk, List.filter_append]
  congr 1
  by_cases h : p (gs.getD k 0) = true
  · rw [if_pos h]; simp only [List.filter_cons, h, if_true, List.filter_nil]
  · rw [if_neg h]
    simp only [List.filter_cons, List.filter_nil]
    rw [if_neg h]
theorem lostL_big {b d ttl : Int} {ps : List Pr} {ms : List Mg} {gs : List Int} {rs : List Rp} (h : gs.length ≤ 1048576) : (lostL b d ttl ps ms gs rs).length ≤ 1048576 := by
  unfold lostL
  split
  · exact Nat.le_trans (List.length_filter_le _ _) h
  · simp
/-- a list that is owned, as the laws see it -/
theorem own_ls {B : Nat} {w : World} {v : Value} {l : List Int} (h : w.ownsRow B 3 1 v l.length (l.map (Value.int .i64))) : ∃ a c, v = .slice a l.length c ∧ OwnLs B w.heap.size w a l.length l := by
  by_cases h0 : 0 < l.length
  · obtain ⟨g, cap, rfl⟩ := Joins.ownsRow_form h h0
    obtain ⟨os, _, hc⟩ := OwnS.of_owns h
    exact ⟨_, cap, rfl, rfl, .inr ⟨g, rfl, os.lt, os⟩⟩
  · have hl : l = [] := List.eq_nil_of_length_eq_zero (by omega)
    subst hl
    rcases Joins.ownsRow_forms h with ⟨h1, _⟩ | ⟨g, cap, h1⟩
    · exact ⟨none, 0, h1, rfl, .inl rfl⟩
    · exact ⟨_, cap, h1, rfl, .inl rfl⟩
end Go.Proofs.YtdceimnapbblnaaGreat
namespace Go.Proofs.YtdceimnapbblnaaGreat
open Go.RowKit
set_option linter.unusedVariables false
/-- from v to v': nothing old has turned but v's block, and v' lies there or in new memory -/
structure Gw (w w' : World) (v v' : Value) : Prop where
  os : w'.os = w.os
  tape : w'.tape = w.tape
  output : w'.output = w.output
  size : w.heap.size ≤ w'.heap.size
  block : ∀ k, k < w.heap.size → v.ownBlock ≠ some k → w'.heap[k]? = w.heap[k]?
  own : v'.ownBlock = v.ownBlock ∨ ∀ k, v'.ownBlock = some k → w.heap.size ≤ k
theorem Gw.refl (w : World) (v : Value) : Gw w w v v := ⟨rfl, rfl, rfl, Nat.le_refl _, fun _ _ _ => rfl, .inl rfl⟩
theorem Gw.trans {w w1 w2 : World} {v v1 v2 : Value} (h : Gw w w1 v v1) (k : Gw w1 w2 v1 v2) : Gw w w2 v v2 := by
  have ho := h.own
  have hs := h.size
  refine ⟨k.os.trans h.os, k.tape.trans h.tape, k.output.trans h.output, Nat.le_trans h.size k.size, fun j hj hv => ?_, ?_⟩
  · refine (k.block j (by omega) ?_).trans (h.block j hj hv)
    rcases ho with ho | ho
    · rw [ho]; exact hv
    · intro hc
      have := ho j hc
      omega
  · rcases k.own with k1 | k1
    · rcases ho with ho | ho
      · exact .inl (k1.trans ho)
      · exact .inr (fun j hj => ho j (by rw [← k1]; exact hj))
    · exact .inr (fun j hj => Nat.le_trans hs (k1 j hj))
theorem Gw.alloc {w w1 : World} {v v1 : Value} (h : Gw w w1 v v1) (o : Obj) : Gw w (w1.alloc o) v v1 :=
  ⟨h.os, h.tape, h.output, by simp; have := h.size; omega, fun k hk hv => (heap_alloc_old _ _ (by have := h.size; omega)).trans (h.block k hk hv), h.own⟩
theorem Gw.drew {w w1 : World} {v v1 : Value} (h : Gw w w1 v v1) : Gw w w1.drew v v1 := ⟨h.os, h.tape, h.output, h.size, h.block, h.own⟩
theorem Gw.below {w w1 : World} {v v1 : Value} {B : Nat} (h : Gw w w1 v v1) (hB : B ≤ w.heap.size) (hv : ∀ k, v.ownBlock = some k → B ≤ k) : Below B w w1 :=
  ⟨h.os, h.tape, h.output, h.size, fun k hk => h.block k (by omega) (fun hc => by have := hv k hc; omega)⟩
theorem Gw.calls {w w1 w2 : World} {v v1 : Value} (h : Gw w w1 v v1) (hb : Below w1.heap.size w1 w2) : Gw w w2 v v1 :=
  ⟨hb.os.trans h.os, hb.tape.trans h.tape, hb.output.trans h.output, Nat.le_trans h.size hb.size, fun k hk hv => (hb.block k (by have := h.size; omega)).trans (h.block k hk hv), h.own⟩
theorem RowAt.gw {w w1 : World} {v v1 : Value} {a : Option Addr} {zs : List Int} (hr : RowAt w a zs) (h : Gw w w1 v v1) (hv : ∀ b off, a = some ⟨b, off, none⟩ → v.ownBlock ≠ some b) : RowAt w1 a zs := by
  rcases hr with rfl | ⟨b, off, rfl, hb, hc⟩
  · exact .inl rfl
  · refine .inr ⟨b, off, rfl, Nat.lt_of_lt_of_le hb h.size, fun i hi => ?_⟩
    rw [← hc i hi]
    exact World.cell?_of_block (h.block b hb (hv b off rfl))
section
variable {P : Program} (w : World)
/-- the append of the shelf, and it tells whether the row stayed in its block -/
theorem run_append_gw (base : Nat) (t ty e : TypeId) (i : TypeInfo) (z : Value) (size bytes : Nat) (ht : P.underlying t = some (.slice e)) (hi : P.info? e = some i) (hz : i.zero = some z)
    (hsize : i.size = size) (hby : i.bytes = bytes) (hzs : z.cells.size = size) (hsz : 0 < size)
    (v : Value) (n : Nat) (xs : List Value) (hown : w.ownsRow base e size v n xs)
    (a : Addr) (m c : Nat) (news : List Value) (hl : news.length = m * size) (hnews : ∀ j u, news[j]? = some u → w.cell? (a.add j) = some u) (h1 : ∀ u ∈ news, u.oneCell' = true)
    (h63 : n + m ≤ maxLen) (hbytes : (n + m) * bytes ≤ 140737488355328) (hbase : base ≤ w.heap.size) :
    ∃ v' w', (Builtin.append_ #[t, t] ty #[v, .slice (some a) m c]).run P w = .ok v' w' ∧ w'.ownsRow base e size v' (n + m) (xs ++ news) ∧ Gw w w' v v' := by
  obtain ⟨v', w', hr, ho, hg, _⟩ := run_append_own (P := P) w base t ty e i z size bytes ht hi hz hsize hby hzs hsz v n xs hown a m c news hl hnews h1 h63 hbytes hbase
  refine ⟨v', w', hr, ho, ⟨hg.os, hg.tape, hg.output, hg.size, fun k hk hv => hg.block k hk (fun e => hv e.symm), ?_⟩⟩
  subst hsize
  subst hby
  rcases hown.2 with ⟨rfl, rfl⟩ | ⟨g, cap, cur, rfl, hbg, hgg, hnc, hcm, hcs, htake⟩
  · by_cases hm : m = 0
    · subst hm
      have hr2 : (Builtin.append_ #[t, t] ty #[.slice none 0 0, .slice (some a) 0 c]).run P w = .ok (.slice none 0 0) w := by
        simp [Builtin.append_, run_underlying ht, sizeOf, typeInfo, hi, Builtin.lenOf, Builtin.firstCells, loadCells, loadCellsFrom]
      rw [hr2] at hr
      simp at hr
      rw [← hr.1]
      exact .inl rfl
    · have hr2 := run_append_nil (P := P) w t ty e i z ht hi hz a m c news hl hnews (by omega) (by simp only [maxLen] at h63; omega) (by have hb := hbytes; simp only [Nat.zero_add] at hb; omega)
      rw [hr2] at hr
      simp at hr
      rw [← hr.1]
      exact .inr (fun k hk => by simp [Value.ownBlock] at hk; omega)
  · by_cases hroom : n + m ≤ cap
    · have hfit : n * i.size + news.length ≤ cur.size := by rw [hl, hcs, ← Nat.add_mul]; exact Nat.mul_le_mul_right _ hroom
      have hr2 := run_append_room (P := P) w t ty e i ht hi g n cap cur hgg a m c news hl hnews h1 hroom hfit
      rw [hr2] at hr
      simp at hr
      rw [← hr.1]
      exact .inl rfl
    · have holds : ∀ j u, xs[j]? = some u → w.cell? ((⟨g, 0, none⟩ : Addr).add j) = some u := hown.cells (g := g) rfl
      have hr2 := run_append_grow (P := P) w t ty e i z ht hi hz ⟨g, 0, none⟩ n cap xs hown.1 holds a m c news hl hnews (by omega) (by simp only [maxLen] at h63; omega) (growslice_fits (by omega) hbytes)
      rw [hr2] at hr
      simp at hr
      rw [← hr.1]
      exact .inr (fun k hk => by simp [Value.ownBlock] at hk; omega)
theorem wp_append_gw {o : Oper} {a : Act} {K : Act → World → Prop} {Q : Exit → Act → World → Prop} (s x : Operand) (t : TypeId)
    (ho : o.op = .call { callee := .builtin .append, args := #[s, x], argTypes := #[t, t] })
    (base : Nat) (e : TypeId) (i : TypeInfo) (z : Value) (size bytes : Nat) (ht : P.underlying t = some (.slice e)) (hi : P.info? e = some i) (hz : i.zero = some z)
    (hsize : i.size = size) (hby : i.bytes = bytes) (hzs : z.cells.size = size) (hsz : 0 < size)
    (v : Value) (n : Nat) (xs : List Value) (hs : a.eval s = v) (hown : w.ownsRow base e size v n xs)
    (ad : Addr) (m c : Nat) (news : List Value) (hx : a.eval x = .slice (some ad) m c) (hl : news.length = m * size) (hnews : ∀ j u, news[j]? = some u → w.cell? (ad.add j) = some u) (h1 : ∀ u ∈ news, u.oneCell' = true)
    (h63 : n + m ≤ maxLen) (hbytes : (n + m) * bytes ≤ 140737488355328) (hbase : base ≤ w.heap.size)
    (h : ∀ v' w', w'.ownsRow base e size v' (n + m) (xs ++ news) → Gw w w' v v' → K (a.put o.dst v') w') : o.wp P a w K Q := by
  obtain ⟨v', w', hr, h2, h3⟩ := run_append_gw (P := P) w base t o.type e i z size bytes ht hi hz hsize hby hzs hsz v n xs hown ad m c news hl hnews h1 h63 hbytes hbase
  unfold Oper.wp execOp
  simp only [ho, resolve, invoke, builtin, Sem.run_bind, Sem.run_pure, Result.andThen_ok, List.map_toArray, List.map_cons, List.map_nil, hs, hx, hr]
  exact h v' w' h2 h3
theorem wpList_append_gw {ops : Array Oper} {rest : List Oper} {o : Oper} {a : Act} {Q : Exit → Act → World → Prop} (hgd : o.guard = none) (s x : Operand) (t : TypeId)
    (ho : o.op = .call { callee := .builtin .append, args := #[s, x], argTypes := #[t, t] })
    (base : Nat) (e : TypeId) (i : TypeInfo) (z : Value) (size bytes : Nat) (ht : P.underlying t = some (.slice e)) (hi : P.info? e = some i) (hz : i.zero = some z)
    (hsize : i.size = size) (hby : i.bytes = bytes) (hzs : z.cells.size = size) (hsz : 0 < size)
    (v : Value) (n : Nat) (xs : List Value) (hs : a.eval s = v) (hown : w.ownsRow base e size v n xs)
    (ad : Addr) (m c : Nat) (news : List Value) (hx : a.eval x = .slice (some ad) m c) (hl : news.length = m * size) (hnews : ∀ j u, news[j]? = some u → w.cell? (ad.add j) = some u) (h1 : ∀ u ∈ news, u.oneCell' = true)
    (h63 : n + m ≤ maxLen) (hbytes : (n + m) * bytes ≤ 140737488355328) (hbase : base ≤ w.heap.size)
    (h : ∀ v' w', w'.ownsRow base e size v' (n + m) (xs ++ news) → Gw w w' v v' → wpList P ops Q rest (a.put o.dst v') w') : wpList P ops Q (o :: rest) a w := by
  refine wpList_plain hgd fun _ hK => ?_
  obtain ⟨v', w', hr, h2, h3⟩ := run_append_gw (P := P) w base t o.type e i z size bytes ht hi hz hsize hby hzs hsz v n xs hown ad m c news hl hnews h1 h63 hbytes hbase
  unfold Oper.wp execOp
  simp only [ho, resolve, invoke, builtin, Sem.run_bind, Sem.run_pure, Result.andThen_ok, List.map_toArray, List.map_cons, List.map_nil, hs, hx, hr]
  exact hK _ _ (h v' w' h2 h3)
end
end Go.Proofs.YtdceimnapbblnaaGreat
namespace Go.Proofs.YtdceimnapbblnaaGreat.Wire
open Go.RowKit
set_option linter.unusedVariables false
set_option linter.unusedSimpArgs false
def vf (x4 x5 x6 x7 f : Int) : Int := if f = 1 then x4 else if f = 2 then x5 else if f = 3 then x6 else x7
def fo (f : Int) : Nat := if f = 1 then 4 else if f = 2 then 5 else if f = 3 then 6 else 7
def mo (b d f : Int) : Int := if f = 3 then b / d else if f = 4 then 1000 else sz b - 1
theorem vf_cell (x0 x1 x2 x3 x4 x5 x6 x7 f : Int) (s : Value) : (#[.int .i64 x0, .int .i64 x1, .int .i64 x2, .int .i64 x3, .int .i64 x4, .int .i64 x5, .int .i64 x6, .int .i64 x7, s] : Array Value)[fo f]? = some (.int .i64 (vf x4 x5 x6 x7 f)) := by
  unfold fo vf
  by_cases h1 : f = 1
  · simp [h1]
  by_cases h2 : f = 2
  · simp [h2]
  by_cases h3 : f = 3
  · simp [h3]
  · simp [h1, h2, h3]
set_option maxHeartbeats 800000 in
theorem numberAt_any (g : Nat) (f : Int) (w : World) :
    Calls Tryz.prog 210 #[.pointer (some ⟨g, 0, none⟩), .int .i64 f] w fun e w' => e = .returned (.pointer (some ⟨g, fo f, none⟩)) ∧ w' = w := by
  by_cases h1 : f = 1
  · have hv : Hid (fo f = 4) := by subst h1; rfl
    rw [hv.out]
    subst h1
    go_enter Tryz.func210, Tryz.ntmps210
    go_wp2
    go_ret
    exact ⟨rfl, rfl⟩
  by_cases h2 : f = 2
  · have hv : Hid (fo f = 5) := by subst h2; rfl
    rw [hv.out]
    subst h2
    go_enter Tryz.func210, Tryz.ntmps210
    go_wp2
    go_ret
    exact ⟨rfl, rfl⟩
  by_cases h3 : f = 3
  · have hv : Hid (fo f = 6) := by subst h3; rfl
    rw [hv.out]
    subst h3
    go_enter Tryz.func210, Tryz.ntmps210
    go_wp2
    go_ret
    exact ⟨rfl, rfl⟩
  have hv : Hid (fo f = 7) := by unfold Hid fo; rw [if_neg h1, if_neg h2, if_neg h3]
  have g1 : (f == 1) = false := beq_eq_false_iff_ne.2 h1
  have g2 : (f == 2) = false := beq_eq_false_iff_ne.2 h2
  have g3 : (f == 3) = false := beq_eq_false_iff_ne.2 h3
  clear h1 h2 h3
  rw [hv.out]
  go_enter Tryz.func210, Tryz.ntmps210
  go_wp2
  go_ret
  exact ⟨rfl, rfl⟩
set_option maxHeartbeats 800000 in
theorem mostOf_any (b d f : Int) (w : World) (hg : gsB b d = true) :
    Calls Tryz.prog 211 #[.agg #[.int .i64 b, .int .i64 d], .int .i64 f] w fun e w' => e = .returned (.int .i64 (mo b d f)) ∧ Below w.heap.size w w' := by
  obtain ⟨hb1, hb2, hd1, hd2, _⟩ := gsB_true hg
  obtain ⟨hs1, hs2⟩ := sz_bd hb1 hb2
  by_cases h3 : f = 3
  · have hv : Hid (mo b d f = b / d) := by subst h3; rfl
    subst h3
    go_enter Tryz.func211, Tryz.ntmps211
    go_wp2_with (go_at_call 220; refine (count_any _ _ _ hb1 hb2 hd1 hd2).mono ?_; rintro e w1 ⟨rfl, hw1⟩)
    go_ret
    exact ⟨ret_int hv.out.symm, bel1 hw1 (by simp)⟩
  by_cases h4 : f = 4
  · have hv : Hid (mo b d f = 1000) := by subst h4; rfl
    subst h4
    go_enter Tryz.func211, Tryz.ntmps211
    go_wp2
    go_ret
    exact ⟨ret_int hv.out.symm, (Below.refl _ _).alloc (Nat.le_refl _) _⟩
  have hv : Hid (mo b d f = sz b - 1) := by unfold Hid mo; rw [if_neg h3, if_neg h4]
  have g3 : (f == 3) = false := beq_eq_false_iff_ne.2 h3
  have g4 : (f == 4) = false := beq_eq_false_iff_ne.2 h4
  clear h3 h4
  go_enter Tryz.func211, Tryz.ntmps211
  go_wp2_with (go_at_call 140; refine (size_any _ _ _ hb1 hb2).mono ?_; rintro e w1 ⟨rfl, hw1⟩)
  go_ret
  exact ⟨ret_int hv.out.symm, bel1 hw1 (by simp)⟩
def toldB (b : Int) (l : List Int) : Bool := decide (l.length ≤ 4) && allB l 0 (sz b - 1)
set_option maxHeartbeats 1600000 in
theorem isTold_any (b d : Int) (a : Option Addr) (cap n : Nat) (l : List Int) (w : World) (hg : gsB b d = true) (hn : l.length = n) (hm : n ≤ maxLen) (hr : RowAt w a l) :
    Calls Tryz.prog 208 #[.agg #[.int .i64 b, .int .i64 d], .slice a n cap] w fun e w' => e = .returned (.bool (toldB b l)) ∧ Below w.heap.size w w' := by
  subst hn
  have HR : Hid (RowAt w a l) := hr
  have HG : Hid (gsB b d = true) := hg
  clear hr hg
  unfold maxLen at hm
  have HN : ∀ x, numB b d x = inB x 0 (sz b - 1) := fun x => by unfold numB; rw [HG.out]; rfl
  by_cases hl : l.length ≤ 4
  · have HV : Hid (toldB b l = allB l 0 (sz b - 1)) := by unfold Hid toldB; rw [decide_eq_true hl]; rfl
    have hcop : RowAt (w.alloc (.cells #[.int .i64 b, .int .i64 d] 25)) a l := HR.out.keep ((Below.refl _ _).alloc (Nat.le_refl _) _)
    have hk : Bk (w.alloc (.cells #[.int .i64 b, .int .i64 d] 25)) w.heap.size #[.int .i64 b, .int .i64 d] 25 := Bk.new _ _ _
    have HC : Hid (RowAt (w.alloc (.cells #[.int .i64 b, .int .i64 d] 25)) a l) := hcop
    have HK : Hid (Bk (w.alloc (.cells #[.int .i64 b, .int .i64 d] 25)) w.heap.size #[.int .i64 b, .int .i64 d] 25) := hk
    have HB : Hid (Below w.heap.size w (w.alloc (.cells #[.int .i64 b, .int .i64 d] 25))) := (Below.refl _ _).alloc (Nat.le_refl _) _
    clear hcop hk HR
    go_enter Tryz.func208, Tryz.ntmps208
    go_wp2_with fail
    generalize w.alloc (.cells #[.int .i64 b, .int .i64 d] 25) = w1 at *
    go_loopw [12] (fun vi wr => ∃ k : Nat, k ≤ l.length ∧ vi = .int .i64 k ∧ Hid (allB (l.take k) 0 (sz b - 1) = true) ∧ Hid (Below w1.heap.size w1 wr)) (fun vi _ => l.length - (intOf vi).toNat)
    case atStart => exact ⟨0, Nat.zero_le _, rfl, by unfold Hid allB; simp, Below.refl _ _⟩
    case round =>
      obtain ⟨k, hk, rfl, hs, hb⟩ := hrel
      obtain ⟨s0, s1⟩ := Bk.c2 (HK.out.keep hb.out)
      by_cases hlt : k < l.length
      · have hrow := HC.out.keep hb.out
        obtain ⟨bk, off, rfl⟩ := rowAt_form hrow (by omega)
        have hc1 := (rowAt_cell hrow (by omega)).2 k hlt
        clear hrow
        cases hv : inB (l.getD k 0) 0 (sz b - 1)
        · have HF : Hid (toldB b l = false) := by unfold Hid; rw [HV.out]; exact allB_false hlt hv
          have HN1 := HN (l.getD k 0)
          rw [hv] at HN1
          clear HN hv
          generalize l.getD k 0 = y at hc1 HN1
          go_wp2_with (go_at_call 81; refine (isNumber_any _ _ _ _).mono ?_; rintro e w2 ⟨rfl, hw2⟩; rw [HN1])
          go_ret
          exact ⟨ret_bool HF.out.symm, belt HB.out (belt hb.out hw2)⟩
        · have HT : Hid (allB (l.take (k + 1)) 0 (sz b - 1) = true) := allB_take hlt hs.out hv
          have HN1 := HN (l.getD k 0)
          rw [hv] at HN1
          clear hv
          generalize l.getD k 0 = y at hc1 HN1
          go_wp2_with (go_at_call 81; refine (isNumber_any _ _ _ _).mono ?_; rintro e w2 ⟨rfl, hw2⟩; rw [HN1])
          go_roundw
          case rel => exact ⟨k + 1, by omega, by go_num, HT, belt hb.out hw2⟩
          case measure => simp [intOf]; omega
      · have HF : Hid (toldB b l = true) := by
          unfold Hid
          rw [HV.out, ← hs.out, List.take_of_length_le (by omega)]
        go_wp2
        go_ret
        exact ⟨ret_bool HF.out.symm, belt HB.out hb.out⟩
  · have HV : Hid (toldB b l = false) := by unfold Hid toldB; rw [decide_eq_false hl]; rfl
    go_enter Tryz.func208, Tryz.ntmps208
    go_wp2
    go_ret
    exact ⟨ret_bool HV.out.symm, (Below.refl _ _).alloc (Nat.le_refl _) _⟩
theorem hasB_take {F : List Int} {j : Nat} (hj : j < F.length) (g : Int) : hasB (F.take (j + 1)) g = (hasB (F.take j) g || decide (F.getD j 0 = g)) := by
  unfold hasB
  rw [Bool.eq_iff_iff]
  simp only [Bool.or_eq_true, decide_eq_true_eq, List.length_take]
  have e : ∀ i n, i < n → i < F.length → (F.take n).getD i 0 = F.getD i 0 := fun i n h1 h2 => by
    simp [List.getD_eq_getElem?_getD, List.getElem?_take_of_lt h1]
  constructor
  · rintro ⟨i, hi, h⟩
    by_cases hij : i = j
    · subst hij; right; rw [← e i (i + 1) (by omega) hj]; exact h
    · left; exact ⟨i, by omega, by rw [e i j (by omega) (by omega)]; rw [e i (j + 1) (by omega) (by omega)] at h; exact h⟩
  · rintro (⟨i, hi, h⟩ | h)
    · exact ⟨i, by omega, by rw [e i (j + 1) (by omega) (by omega)]; rw [e i j (by omega) (by omega)] at h; exact h⟩
    · exact ⟨j, by omega, by rw [e j (j + 1) (by omega) hj]; exact h⟩
theorem hasB_nil (g : Int) : hasB [] g = false := decide_eq_false (fun ⟨i, h, _⟩ => by simp at h)
def pv (F : List Int) (j : Nat) (f x : Int) : Int := if hasB (F.take j) f = true then x else 0
def pS (F : List Int) (j : Nat) (s : Value) : Value := if hasB (F.take j) 5 = true then s else .slice none 0 0
def pC (F : List Int) (j : Nat) (x0 x1 x2 x3 x4 x5 x6 x7 : Int) (s : Value) : Array Value := #[.int .i64 x0, .int .i64 x1, .int .i64 x2, .int .i64 x3, .int .i64 (pv F j 1 x4), .int .i64 (pv F j 2 x5), .int .i64 (pv F j 3 x6), .int .i64 (pv F j 4 x7), pS F j s]
theorem pv_no {F : List Int} {j : Nat} (hj : j < F.length) {f : Int} (h : ¬ F.getD j 0 = f) (x : Int) : pv F (j + 1) f x = pv F j f x := by unfold pv; rw [hasB_take hj, decide_eq_false h, Bool.or_false]
theorem pv_yes {F : List Int} {j : Nat} (hj : j < F.length) {f : Int} (h : F.getD j 0 = f) (x : Int) : pv F (j + 1) f x = x := by unfold pv; rw [hasB_take hj, decide_eq_true h, Bool.or_true]; rfl
theorem pS_no {F : List Int} {j : Nat} (hj : j < F.length) (h : ¬ F.getD j 0 = 5) (x : Value) : pS F (j + 1) x = pS F j x := by unfold pS; rw [hasB_take hj, decide_eq_false h, Bool.or_false]
theorem pS_yes {F : List Int} {j : Nat} (hj : j < F.length) (h : F.getD j 0 = 5) (x : Value) : pS F (j + 1) x = x := by unfold pS; rw [hasB_take hj, decide_eq_true h, Bool.or_true]; rfl
theorem pC_zero (F : List Int) (x0 x1 x2 x3 x4 x5 x6 x7 : Int) (s : Value) : pC F 0 x0 x1 x2 x3 x4 x5 x6 x7 s = #[.int .i64 x0, .int .i64 x1, .int .i64 x2, .int .i64 x3, .int .i64 0, .int .i64 0, .int .i64 0, .int .i64 0, .slice none 0 0] := by
  unfold pC pv pS
  simp [hasB_nil]
theorem pC_step {F : List Int} {j : Nat} (hj : j < F.length) (x0 x1 x2 x3 x4 x5 x6 x7 : Int) (s : Value) (h1 : 1 ≤ F.getD j 0) (h2 : F.getD j 0 ≤ 5) (h5 : ¬ F.getD j 0 = 5) :
    (pC F j x0 x1 x2 x3 x4 x5 x6 x7 s).setIfInBounds (fo (F.getD j 0)) (.int .i64 (vf x4 x5 x6 x7 (F.getD j 0))) = pC F (j + 1) x0 x1 x2 x3 x4 x5 x6 x7 s := by
  have : F.getD j 0 = 1 ∨ F.getD j 0 = 2 ∨ F.getD j 0 = 3 ∨ F.getD j 0 = 4 := by omega
  unfold pC
  rcases this with h | h | h | h
  · rw [pv_yes hj h, pv_no hj (f := 2) (by omega), pv_no hj (f := 3) (by omega), pv_no hj (f := 4) (by omega), pS_no hj h5, h]; rfl
  · rw [pv_no hj (f := 1) (by omega), pv_yes hj h, pv_no hj (f := 3) (by omega), pv_no hj (f := 4) (by omega), pS_no hj h5, h]; rfl
  · rw [pv_no hj (f := 1) (by omega), pv_no hj (f := 2) (by omega), pv_yes hj h, pv_no hj (f := 4) (by omega), pS_no hj h5, h]; rfl
  · rw [pv_no hj (f := 1) (by omega), pv_no hj (f := 2) (by omega), pv_no hj (f := 3) (by omega), pv_yes hj h, pS_no hj h5, h]; rfl
theorem pC_list {F : List Int} {j : Nat} (hj : j < F.length) (x0 x1 x2 x3 x4 x5 x6 x7 : Int) (s : Value) (h5 : F.getD j 0 = 5) :
    (pC F j x0 x1 x2 x3 x4 x5 x6 x7 s).setIfInBounds 8 s = pC F (j + 1) x0 x1 x2 x3 x4 x5 x6 x7 s := by
  unfold pC
  rw [pv_no hj (f := 1) (by omega), pv_no hj (f := 2) (by omega), pv_no hj (f := 3) (by omega), pv_no hj (f := 4) (by omega), pS_yes hj h5]; rfl
theorem fld_mem (k : Int) (j : Nat) (hj : j < (fld k).length) : 1 ≤ (fld k).getD j 0 ∧ (fld k).getD j 0 ≤ 5 := by
  revert hj
  unfold fld
  repeat' split
  all_goals (intro hj; simp at hj)
  all_goals (have hj4 : j = 0 ∨ j = 1 ∨ j = 2 ∨ j = 3 := by omega)
  all_goals (rcases hj4 with rfl | rfl | rfl | rfl)
  all_goals (first | omega | simp)
end Go.Proofs.YtdceimnapbblnaaGreat.Wire
namespace Go.Proofs.YtdceimnapbblnaaGreat.Wire
open Go.RowKit Go.Deep
set_option linter.unusedVariables false
set_option linter.unusedSimpArgs false
/-- onlyFields at work: block g is the message, the next two are the answer and the copy -/
structure OFS (w wr : World) (P : Array Value) (T : Nat) (aF : Option Addr) (nF : Nat) (F : List Int) : Prop where
  bel : Below w.heap.size w wr
  kr : Bk wr w.heap.size #[.int .i64 0, .int .i64 0, .int .i64 0, .int .i64 0, .int .i64 0, .int .i64 0, .int .i64 0, .int .i64 0, .slice none 0 0] 102
  kx : Bk wr (w.heap.size + 1) P 102
  fl : OwnLs (w.heap.size + 2) T wr aF nF F
theorem OFS.put {w wr : World} {P : Array Value} {T : Nat} {aF : Option Addr} {nF : Nat} {F : List Int} (h : OFS w wr P T aF nF F) (i : Nat) (v : Value) : OFS w (wr.setCell ⟨w.heap.size + 1, i, none⟩ v) (P.setIfInBounds i v) T aF nF F :=
  ⟨h.bel.setCell (p := ⟨w.heap.size + 1, i, none⟩) (by simp) v, h.kr.oth (by omega) i v, h.kx.set i v, h.fl.blocks (fun k h1 h2 h3 => heap_setCell_other _ _ _ _ (by simp; omega))⟩
set_option maxRecDepth 100000 in
set_option maxHeartbeats 3200000 in
theorem onlyFields_any (g : Nat) (x0 x1 x2 x3 x4 x5 x6 x7 : Int) (sa : Option Addr) (sn sc : Nat) (w : World) (hg : Bk w g #[.int .i64 x0, .int .i64 x1, .int .i64 x2, .int .i64 x3, .int .i64 x4, .int .i64 x5, .int .i64 x6, .int .i64 x7, .slice sa sn sc] 102) :
    Calls Tryz.prog 213 #[.pointer (some ⟨g, 0, none⟩)] w fun e w' => e = .returned (.agg (pC (fld x0) (fld x0).length x0 x1 x2 x3 x4 x5 x6 x7 (.slice sa sn sc))) ∧ Below w.heap.size w w' := by
  have HG : Hid (Bk w g #[.int .i64 x0, .int .i64 x1, .int .i64 x2, .int .i64 x3, .int .i64 x4, .int .i64 x5, .int .i64 x6, .int .i64 x7, .slice sa sn sc] 102) := hg
  have hlt := hg.lt
  clear hg
  go_enter Tryz.func213, Tryz.ntmps213
  go_wp2_with fail
  have HG1 : Hid (Bk (w.alloc (.cells #[.int .i64 0, .int .i64 0, .int .i64 0, .int .i64 0, .int .i64 0, .int .i64 0, .int .i64 0, .int .i64 0, .slice none 0 0] 102)) g #[.int .i64 x0, .int .i64 x1, .int .i64 x2, .int .i64 x3, .int .i64 x4, .int .i64 x5, .int .i64 x6, .int .i64 x7, .slice sa sn sc] 102) := HG.out.alloc _
  have HB1 : Hid (Below w.heap.size w (w.alloc (.cells #[.int .i64 0, .int .i64 0, .int .i64 0, .int .i64 0, .int .i64 0, .int .i64 0, .int .i64 0, .int .i64 0, .slice none 0 0] 102))) := (Below.refl _ _).alloc (Nat.le_refl _) _
  have HR1 : Hid (Bk (w.alloc (.cells #[.int .i64 0, .int .i64 0, .int .i64 0, .int .i64 0, .int .i64 0, .int .i64 0, .int .i64 0, .int .i64 0, .slice none 0 0] 102)) w.heap.size #[.int .i64 0, .int .i64 0, .int .i64 0, .int .i64 0, .int .i64 0, .int .i64 0, .int .i64 0, .int .i64 0, .slice none 0 0] 102) := Bk.new _ _ _
  have hs1 : (w.alloc (.cells #[.int .i64 0, .int .i64 0, .int .i64 0, .int .i64 0, .int .i64 0, .int .i64 0, .int .i64 0, .int .i64 0, .slice none 0 0] 102)).heap.size = w.heap.size + 1 := by simp
  generalize w.alloc (.cells #[.int .i64 0, .int .i64 0, .int .i64 0, .int .i64 0, .int .i64 0, .int .i64 0, .int .i64 0, .int .i64 0, .slice none 0 0] 102) = w1 at *
  refine wp_region_held_drew (S := fun w' => Below w1.heap.size w1 w') (by kernel_rfl) ((Below.refl _ _).drew) (fun hs0 => ?_)
  refine wpAnyH_take (i := 0) (oi := _) (v := _) rfl (by kernel_rfl) (by kernel_rfl) (by kernel_rfl) (fun _ _ _ h => h) (.inl ⟨by rfl, by intro w hSw; go_simp; with_reducible rfl⟩) hs0 ?_
  simp only [Act.put, List.setIfInBounds_toArray, List.set_cons_zero, List.set_cons_succ]
  refine wpAnyH_take (i := 1) (oi := _) (v := _) rfl (by kernel_rfl) (by kernel_rfl) (by kernel_rfl) (fun _ _ _ h => h) (.inl ⟨by rfl, by intro w hSw; go_simp; with_reducible rfl⟩) hs0 ?_
  simp only [Act.put, List.setIfInBounds_toArray, List.set_cons_zero, List.set_cons_succ]
  refine wpAnyH_take (i := 2) (oi := _) (v := _) rfl (by kernel_rfl) (by kernel_rfl) (by kernel_rfl) (fun _ _ _ h => h) (.inl ⟨by rfl, by intro w hSw; go_simp; with_reducible rfl⟩) hs0 ?_
  simp only [Act.put, List.setIfInBounds_toArray, List.set_cons_zero, List.set_cons_succ]
  refine wpAnyH_take (i := 3) (oi := _) (v := _) rfl (by kernel_rfl) (by kernel_rfl) (by kernel_rfl) (fun _ _ _ h => h) (.inl ⟨by rfl, by intro w' hSw; have hc := Bk.cell (HG1.out.keep hSw) 0; simp at hc; go_simp; with_reducible rfl⟩) hs0 ?_
  simp only [Act.put, List.setIfInBounds_toArray, List.set_cons_zero, List.set_cons_succ]
  refine wpAnyH_take (i := 4) (oi := _) (v := _) rfl (by kernel_rfl) (by kernel_rfl) (by kernel_rfl) (fun _ _ _ h => h) (.inl ⟨by rfl, by intro w hSw; go_simp; with_reducible rfl⟩) hs0 ?_
  simp only [Act.put, List.setIfInBounds_toArray, List.set_cons_zero, List.set_cons_succ]
  refine wpAnyH_take (i := 5) (oi := _) (v := _) rfl (by kernel_rfl) (by kernel_rfl) (by kernel_rfl) (fun _ _ _ h => h) (.inl ⟨by rfl, by intro w hSw; go_simp; with_reducible rfl⟩) hs0 ?_
  simp only [Act.put, List.setIfInBounds_toArray, List.set_cons_zero, List.set_cons_succ]
  refine wpAnyH_take (i := 6) (oi := _) (v := _) rfl (by kernel_rfl) (by kernel_rfl) (by kernel_rfl) (fun _ _ _ h => h) (.inl ⟨by rfl, by intro w hSw; go_simp; with_reducible rfl⟩) hs0 ?_
  simp only [Act.put, List.setIfInBounds_toArray, List.set_cons_zero, List.set_cons_succ]
  refine wpAnyH_take (i := 7) (oi := _) (v := _) rfl (by kernel_rfl) (by kernel_rfl) (by kernel_rfl) (fun _ _ _ h => h) (.inl ⟨by rfl, by intro w' hSw; have hc := Bk.cell (HG1.out.keep hSw) 1; simp at hc; go_simp; with_reducible rfl⟩) hs0 ?_
  simp only [Act.put, List.setIfInBounds_toArray, List.set_cons_zero, List.set_cons_succ]
  refine wpAnyH_take (i := 8) (oi := _) (v := _) rfl (by kernel_rfl) (by kernel_rfl) (by kernel_rfl) (fun _ _ _ h => h) (.inl ⟨by rfl, by intro w hSw; go_simp; with_reducible rfl⟩) hs0 ?_
  simp only [Act.put, List.setIfInBounds_toArray, List.set_cons_zero, List.set_cons_succ]
  refine wpAnyH_take (i := 9) (oi := _) (v := _) rfl (by kernel_rfl) (by kernel_rfl) (by kernel_rfl) (fun _ _ _ h => h) (.inl ⟨by rfl, by intro w hSw; go_simp; with_reducible rfl⟩) hs0 ?_
  simp only [Act.put, List.setIfInBounds_toArray, List.set_cons_zero, List.set_cons_succ]
  refine wpAnyH_take (i := 10) (oi := _) (v := _) rfl (by kernel_rfl) (by kernel_rfl) (by kernel_rfl) (fun _ _ _ h => h) (.inl ⟨by rfl, by intro w hSw; go_simp; with_reducible rfl⟩) hs0 ?_
  simp only [Act.put, List.setIfInBounds_toArray, List.set_cons_zero, List.set_cons_succ]
  refine wpAnyH_take (i := 11) (oi := _) (v := _) rfl (by kernel_rfl) (by kernel_rfl) (by kernel_rfl) (fun _ _ _ h => h) (.inl ⟨by rfl, by intro w' hSw; have hc := Bk.cell (HG1.out.keep hSw) 2; simp at hc; go_simp; with_reducible rfl⟩) hs0 ?_
  simp only [Act.put, List.setIfInBounds_toArray, List.set_cons_zero, List.set_cons_succ]
  refine wpAnyH_take (i := 12) (oi := _) (v := _) rfl (by kernel_rfl) (by kernel_rfl) (by kernel_rfl) (fun _ _ _ h => h) (.inl ⟨by rfl, by intro w hSw; go_simp; with_reducible rfl⟩) hs0 ?_
  simp only [Act.put, List.setIfInBounds_toArray, List.set_cons_zero, List.set_cons_succ]
  refine wpAnyH_take (i := 13) (oi := _) (v := _) rfl (by kernel_rfl) (by kernel_rfl) (by kernel_rfl) (fun _ _ _ h => h) (.inl ⟨by rfl, by intro w hSw; go_simp; with_reducible rfl⟩) hs0 ?_
  simp only [Act.put, List.setIfInBounds_toArray, List.set_cons_zero, List.set_cons_succ]
  refine wpAnyH_take (i := 14) (oi := _) (v := _) rfl (by kernel_rfl) (by kernel_rfl) (by kernel_rfl) (fun _ _ _ h => h) (.inl ⟨by rfl, by intro w hSw; go_simp; with_reducible rfl⟩) hs0 ?_
  simp only [Act.put, List.setIfInBounds_toArray, List.set_cons_zero, List.set_cons_succ]
  refine wpAnyH_take (i := 15) (oi := _) (v := _) rfl (by kernel_rfl) (by kernel_rfl) (by kernel_rfl) (fun _ _ _ h => h) (.inl ⟨by rfl, by intro w' hSw; have hc := Bk.cell (HG1.out.keep hSw) 3; simp at hc; go_simp; with_reducible rfl⟩) hs0 ?_
  simp only [Act.put, List.setIfInBounds_toArray, List.set_cons_zero, List.set_cons_succ]
  refine wpAnyH_take (i := 16) (oi := _) (v := _) rfl (by kernel_rfl) (by kernel_rfl) (by kernel_rfl) (fun _ _ _ h => h) (.inl ⟨by rfl, by intro w hSw; go_simp; with_reducible rfl⟩) hs0 ?_
  simp only [Act.put, List.setIfInBounds_toArray, List.set_cons_zero, List.set_cons_succ]
  refine wpAnyH_ready (rs := [17]) (by kernel_rfl) (by simp) ?_
  refine AllReadyH.cons rfl (fun K hK => ?_) AllReadyH.nil
  go_simp
  refine hK.out _ _ (((Below.refl _ _).alloc (Nat.le_refl _) _).drew) (fun _ => ?_)
  clear hK K
  refine wpAnyH_ready (rs := [18]) (by kernel_rfl) (by simp) ?_
  refine AllReadyH.cons rfl (fun K hK => ?_) AllReadyH.nil
  go_simp
  refine hK.out _ _ (((Below.refl _ _).alloc (Nat.le_refl _) _).drew) (fun _ => ?_)
  clear hK K
  refine wpAnyH_done (by kernel_rfl) ?_ _
  have S2 : Hid (OFS w (w1.alloc (.cells #[.int .i64 x0, .int .i64 x1, .int .i64 x2, .int .i64 x3, .int .i64 0, .int .i64 0, .int .i64 0, .int .i64 0, .slice none 0 0] 102)).drew #[.int .i64 x0, .int .i64 x1, .int .i64 x2, .int .i64 x3, .int .i64 0, .int .i64 0, .int .i64 0, .int .i64 0, .slice none 0 0] 0 none 0 []) := by
    have k := Bk.new w1 #[.int .i64 x0, .int .i64 x1, .int .i64 x2, .int .i64 x3, .int .i64 0, .int .i64 0, .int .i64 0, .int .i64 0, .slice none 0 0] 102
    rw [hs1] at k
    exact ⟨(HB1.out.alloc (by omega) _).drew, (HR1.out.alloc _).drew, k.drew, rfl, .inl rfl⟩
  generalize (w1.alloc (.cells #[.int .i64 x0, .int .i64 x1, .int .i64 x2, .int .i64 x3, .int .i64 0, .int .i64 0, .int .i64 0, .int .i64 0, .slice none 0 0] 102)).drew = w2 at *
  clear HG1 HB1 HR1 hs1 hs0
  obtain ⟨q0, q1, q2, q3, q4, q5, q6, q7, q8⟩ := Bk.c9 (HG.out.keepN S2.out.bel hlt)
  go_wp2_with fail
  refine (fieldsOf_any x0 _).mono ?_
  rintro e w3 ⟨aF, nF, cF, rfl, hnF, hcF, oF, hw⟩
  clear q0 q1 q2 q3 q4 q5 q6 q7 q8
  have S3 : Hid (OFS w w3 (pC (fld x0) 0 x0 x1 x2 x3 x4 x5 x6 x7 (.slice sa sn sc)) w3.heap.size aF nF (fld x0)) := by
    rw [pC_zero]
    have hl := S2.out.kx.lt
    exact ⟨S2.out.bel.trans (hw.mono S2.out.bel.size), S2.out.kr.keep hw, S2.out.kx.keep hw, oF.wide (by omega) (Nat.le_refl _)⟩
  clear S2 hw oF
  generalize w3.heap.size = T3 at S3
  go_wp2_with fail
  have hF4 := fld_big x0
  go_loopw [29] (fun vi wr => ∃ j : Nat, j ≤ nF ∧ vi = .int .i64 j ∧ Hid (OFS w wr (pC (fld x0) j x0 x1 x2 x3 x4 x5 x6 x7 (.slice sa sn sc)) T3 aF nF (fld x0))) (fun vi _ => nF - (intOf vi).toNat)
  case atStart => exact ⟨0, Nat.zero_le _, rfl, S3⟩
  case round =>
    obtain ⟨j, hj, rfl, S⟩ := hrel
    by_cases hlt2 : j < nF
    · have hmem := fld_mem x0 j (by omega)
      obtain ⟨bk, off, hform⟩ := rowAt_form S.out.fl.rowAt (by omega)
      subst hform
      have hc1 := (rowAt_cell S.out.fl.rowAt (by omega)).2 j (by omega)
      by_cases h5 : (fld x0).getD j 0 = 5
      · have SN : Hid (OFS w (wr.setCell ⟨w.heap.size + 1, 8, none⟩ (.slice sa sn sc)) (pC (fld x0) (j + 1) x0 x1 x2 x3 x4 x5 x6 x7 (.slice sa sn sc)) T3 (some ⟨bk, off, none⟩) nF (fld x0)) := by
          have h := S.out.put 8 (.slice sa sn sc)
          rw [pC_list (by omega) _ _ _ _ _ _ _ _ (.slice sa sn sc) h5] at h
          exact h
        have hf : (((fld x0).getD j 0) == 5) = true := by rw [h5]; rfl
        have hs8 : wr.cell? ⟨g, 8, none⟩ = some (.slice sa sn sc) := (HG.out.keepN S.out.bel hlt).cell 8
        have hx8 := S.out.kx.cell 8
        have hf8 := S.out.kx.fr 8
        obtain ⟨vo, hvo⟩ : ∃ vo, pS (fld x0) j (.slice sa sn sc) = vo := ⟨_, rfl⟩
        have hx8' : (pC (fld x0) j x0 x1 x2 x3 x4 x5 x6 x7 (.slice sa sn sc))[8]? = some (pS (fld x0) j (.slice sa sn sc)) := rfl
        rw [hx8', hvo] at hx8
        clear hx8' h5 hvo
        generalize (fld x0).getD j 0 = f at hc1 hf hmem
        go_wp2
        go_roundw
        case rel => exact ⟨j + 1, by omega, by go_num, SN⟩
        case measure => simp [intOf]; omega
      · have SN : Hid (OFS w (wr.setCell ⟨w.heap.size + 1, fo ((fld x0).getD j 0), none⟩ (.int .i64 (vf x4 x5 x6 x7 ((fld x0).getD j 0)))) (pC (fld x0) (j + 1) x0 x1 x2 x3 x4 x5 x6 x7 (.slice sa sn sc)) T3 (some ⟨bk, off, none⟩) nF (fld x0)) := by
          have h := S.out.put (fo ((fld x0).getD j 0)) (.int .i64 (vf x4 x5 x6 x7 ((fld x0).getD j 0)))
          rw [pC_step (by omega) _ _ _ _ _ _ _ _ (.slice sa sn sc) hmem.1 hmem.2 h5] at h
          exact h
        have hf : (((fld x0).getD j 0) == 5) = false := beq_eq_false_iff_ne.2 h5
        have hs8 : wr.cell? ⟨g, fo ((fld x0).getD j 0), none⟩ = some (.int .i64 (vf x4 x5 x6 x7 ((fld x0).getD j 0))) := ((HG.out.keepN S.out.bel hlt).cell _).trans (vf_cell _ _ _ _ _ _ _ _ _ _)
        obtain ⟨vx, hx8⟩ : ∃ vx, wr.cell? ⟨w.heap.size + 1, fo ((fld x0).getD j 0), none⟩ = some vx := ⟨_, (S.out.kx.cell _).trans (vf_cell _ _ _ _ _ _ _ _ _ _)⟩
        have hf8 := S.out.kx.fr (fo ((fld x0).getD j 0))
        clear h5
        generalize (fld x0).getD j 0 = f at *
        go_wp2_with fail
        refine (numberAt_any _ _ _).mono ?_
        rintro e wx ⟨rfl, hx⟩
        have hx' := hx.symm
        clear hx
        subst hx'
        go_wp2_with fail
        refine (numberAt_any _ _ _).mono ?_
        rintro e wx ⟨rfl, hx⟩
        have hx' := hx.symm
        clear hx
        subst hx'
        go_wp2
        go_roundw
        case rel => exact ⟨j + 1, by omega, by go_num, SN⟩
        case measure => simp [intOf]; omega
    · obtain rfl : j = (fld x0).length := by omega
      obtain ⟨pa, pn, pc, hps⟩ : ∃ pa pn pc, pS (fld x0) (fld x0).length (.slice sa sn sc) = .slice pa pn pc := by
        unfold pS
        split
        · exact ⟨_, _, _, rfl⟩
        · exact ⟨_, _, _, rfl⟩
      have KX : Hid (Bk wr (w.heap.size + 1) #[.int .i64 x0, .int .i64 x1, .int .i64 x2, .int .i64 x3, .int .i64 (pv (fld x0) (fld x0).length 1 x4), .int .i64 (pv (fld x0) (fld x0).length 2 x5), .int .i64 (pv (fld x0) (fld x0).length 3 x6), .int .i64 (pv (fld x0) (fld x0).length 4 x7), .slice pa pn pc] 102) := by
        have h := S.out.kx
        unfold pC at h
        rw [hps] at h
        exact h
      have KR : Hid (Bk wr w.heap.size #[.int .i64 0, .int .i64 0, .int .i64 0, .int .i64 0, .int .i64 0, .int .i64 0, .int .i64 0, .int .i64 0, .slice none 0 0] 102) := S.out.kr
      have KB : Hid (Below w.heap.size w wr) := S.out.bel
      have KP : Hid (pC (fld x0) (fld x0).length x0 x1 x2 x3 x4 x5 x6 x7 (.slice sa sn sc) = #[.int .i64 x0, .int .i64 x1, .int .i64 x2, .int .i64 x3, .int .i64 (pv (fld x0) (fld x0).length 1 x4), .int .i64 (pv (fld x0) (fld x0).length 2 x5), .int .i64 (pv (fld x0) (fld x0).length 3 x6), .int .i64 (pv (fld x0) (fld x0).length 4 x7), .slice pa pn pc]) := by
        unfold Hid pC
        rw [hps]
      clear S S3 hps
      generalize pv (fld x0) (fld x0).length 1 x4 = z4 at *
      generalize pv (fld x0) (fld x0).length 2 x5 = z5 at *
      generalize pv (fld x0) (fld x0).length 3 x6 = z6 at *
      generalize pv (fld x0) (fld x0).length 4 x7 = z7 at *
      have l2 := KX.out.lt
      obtain ⟨r0, r1, r2, r3, r4, r5, r6, r7, r8⟩ := Bk.c9 KX.out
      obtain ⟨t0, t1, t2, t3, t4, t5, t6, t7, t8⟩ := Bk.c9 KR.out
      obtain ⟨f0, f1, f2, f3, f4, f5, f6, f7, f8⟩ := Bk.f9 KR.out
      go_wp2
      have E1 := KR.out.setL [.int .i64 x0, .int .i64 x1, .int .i64 x2, .int .i64 x3, .int .i64 z4, .int .i64 z5, .int .i64 z6, .int .i64 z7, .slice pa pn pc] 0
      rw [ovr9] at E1
      have E2 := setL_below (g := w.heap.size) (Nat.le_refl w.heap.size) [.int .i64 x0, .int .i64 x1, .int .i64 x2, .int .i64 x3, .int .i64 z4, .int .i64 z5, .int .i64 z6, .int .i64 z7, .slice pa pn pc] 0 KB.out
      refine bodyPost_ret (results_cell_row Tryz.results213 _ _ w.heap.size _ _ _ _ rfl E1 Tryz.underlying102 rfl (by kernel_rfl)) rfl ⟨by rw [KP.out], E2⟩
end Go.Proofs.YtdceimnapbblnaaGreat.Wire
namespace Go.Proofs.YtdceimnapbblnaaGreat.Wire
open Go.RowKit Go.Deep
set_option linter.unusedVariables false
set_option linter.unusedSimpArgs false
theorem pv_all (F : List Int) (f x : Int) : pv F F.length f x = if hasB F f = true then x else 0 := by unfold pv; rw [List.take_length]
theorem has_ok {b d x0 x4 x5 x6 x7 f : Int} (F : ∀ j, j < (fld x0).length → (fld x0).getD j 0 = 5 ∨ inB (vf x4 x5 x6 x7 ((fld x0).getD j 0)) 0 (mo b d ((fld x0).getD j 0)) = true) (h5 : ¬ f = 5) (h : hasB (fld x0) f = true) : inB (vf x4 x5 x6 x7 f) 0 (mo b d f) = true := by
  obtain ⟨i, hi, he⟩ := of_decide_eq_true h
  rcases F i hi with h | h
  · omega
  · rwa [he] at h
def lO (x0 : Int) (l : List Int) : List Int := if hasB (fld x0) 5 = true then l else []
theorem gm_end {b d x0 x1 x2 x3 x4 x5 x6 x7 : Int} {l : List Int} (A : numsB b d [x2, x3] = true) (B : inB x0 1 8 = true) (C : inB x1 0 255 = true) (T : toldB b l = true)
    (F : ∀ j, j < (fld x0).length → (fld x0).getD j 0 = 5 ∨ inB (vf x4 x5 x6 x7 ((fld x0).getD j 0)) 0 (mo b d ((fld x0).getD j 0)) = true) :
    gmB b d x0 x1 x2 x3 x4 x5 x6 x7 l = (hdB x0 x1 x2 x3 x4 x5 x6 x7 x0 x1 x2 x3 (pv (fld x0) (fld x0).length 1 x4) (pv (fld x0) (fld x0).length 2 x5) (pv (fld x0) (fld x0).length 3 x6) (pv (fld x0) (fld x0).length 4 x7) && sameB l (lO x0 l)) := by
  have G := numsB_gs A
  have k1 : fldB b d x0 x4 x5 x6 x7 l 1 = decide (x4 = pv (fld x0) (fld x0).length 1 x4) := by
    rw [pv_all]; unfold fldB
    cases e : hasB (fld x0) 1
    · simp [noF]
    · have := has_ok F (by omega) e
      simp [vf, mo] at this
      simp [okF, numB, G, this]
  have k2 : fldB b d x0 x4 x5 x6 x7 l 2 = decide (x5 = pv (fld x0) (fld x0).length 2 x5) := by
    rw [pv_all]; unfold fldB
    cases e : hasB (fld x0) 2
    · simp [noF]
    · have := has_ok F (by omega) e
      simp [vf, mo] at this
      simp [okF, numB, G, this]
  have k3 : fldB b d x0 x4 x5 x6 x7 l 3 = decide (x6 = pv (fld x0) (fld x0).length 3 x6) := by
    rw [pv_all]; unfold fldB
    cases e : hasB (fld x0) 3
    · simp [noF]
    · have := has_ok F (by omega) e
      simp [vf, mo] at this
      simp [okF, this]
  have k4 : fldB b d x0 x4 x5 x6 x7 l 4 = decide (x7 = pv (fld x0) (fld x0).length 4 x7) := by
    rw [pv_all]; unfold fldB
    cases e : hasB (fld x0) 4
    · simp [noF]
    · have := has_ok F (by omega) e
      simp [vf, mo] at this
      simp [okF, this]
  have k5 : fldB b d x0 x4 x5 x6 x7 l 5 = sameB l (lO x0 l) := by
    unfold fldB lO sameB
    unfold toldB at T
    cases e : hasB (fld x0) 5
    · simp [noF]
    · simp [okF, numsB, G]
      simpa using T
  unfold gmB
  rw [A, B, C, k1, k2, k3, k4, k5]
  unfold hdB
  rw [Bool.eq_iff_iff]
  simp
  intro _
  simp only [and_assoc]
theorem pC_form (x0 x1 x2 x3 x4 x5 x6 x7 : Int) (a : Option Addr) (n cap : Nat) (l : List Int) (hn : l.length = n) : ∃ pa pn pc, pC (fld x0) (fld x0).length x0 x1 x2 x3 x4 x5 x6 x7 (.slice a n cap) = #[.int .i64 x0, .int .i64 x1, .int .i64 x2, .int .i64 x3, .int .i64 (pv (fld x0) (fld x0).length 1 x4), .int .i64 (pv (fld x0) (fld x0).length 2 x5), .int .i64 (pv (fld x0) (fld x0).length 3 x6), .int .i64 (pv (fld x0) (fld x0).length 4 x7), .slice pa pn pc] ∧ (lO x0 l).length = pn ∧ (∀ w, RowAt w a l → RowAt w pa (lO x0 l)) := by
  unfold pC pS lO
  rw [List.take_length]
  cases hasB (fld x0) 5
  · exact ⟨none, 0, 0, rfl, rfl, fun w h => .inl rfl⟩
  · exact ⟨a, n, cap, rfl, hn, fun w h => h⟩
theorem gm_told {b d x0 x1 x2 x3 x4 x5 x6 x7 : Int} {l : List Int} (T : toldB b l = false) : gmB b d x0 x1 x2 x3 x4 x5 x6 x7 l = false := by
  refine gmB_n4 (f := 5) (by omega) (by omega) ?_
  unfold fldB
  unfold toldB at T
  cases e : hasB (fld x0) 5
  · simp [noF]
    intro h
    subst h
    simp [allB] at T
  · simp [okF, numsB]
    intro h1 h2
    simp at T
    exact T h1
theorem gm_field {b d x0 x1 x2 x3 x4 x5 x6 x7 : Int} {l : List Int} {j : Nat} (hj : j < (fld x0).length) (h5 : ¬ (fld x0).getD j 0 = 5) (h : inB (vf x4 x5 x6 x7 ((fld x0).getD j 0)) 0 (mo b d ((fld x0).getD j 0)) = false) : gmB b d x0 x1 x2 x3 x4 x5 x6 x7 l = false := by
  obtain ⟨m1, m2⟩ := fld_mem x0 j hj
  have hh : hasB (fld x0) ((fld x0).getD j 0) = true := decide_eq_true ⟨j, hj, rfl⟩
  refine gmB_n4 (f := (fld x0).getD j 0) m1 m2 ?_
  unfold fldB
  rw [hh]
  have : (fld x0).getD j 0 = 1 ∨ (fld x0).getD j 0 = 2 ∨ (fld x0).getD j 0 = 3 ∨ (fld x0).getD j 0 = 4 := by omega
  rcases this with e | e | e | e <;> rw [e] at h ⊢ <;> simp [vf, mo] at h <;> simp [okF, numB, h]
theorem gm_gs {b d x0 x1 x2 x3 x4 x5 x6 x7 : Int} {l : List Int} (h : gsB b d = false) : gmB b d x0 x1 x2 x3 x4 x5 x6 x7 l = false := gmB_n1 (by unfold numsB; rw [h]; rfl)
theorem gm_to {b d x0 x1 x2 x3 x4 x5 x6 x7 : Int} {l : List Int} (h : numB b d x2 = false) : gmB b d x0 x1 x2 x3 x4 x5 x6 x7 l = false := gmB_n1 (by rw [numsB_2, h]; rfl)
theorem gm_from {b d x0 x1 x2 x3 x4 x5 x6 x7 : Int} {l : List Int} (h : numB b d x3 = false) : gmB b d x0 x1 x2 x3 x4 x5 x6 x7 l = false := gmB_n1 (by rw [numsB_2, h]; simp)
theorem gm_x1 {b d x0 x1 x2 x3 x4 x5 x6 x7 : Int} {l : List Int} (h : ¬ (0 ≤ x1 ∧ x1 ≤ 255)) : gmB b d x0 x1 x2 x3 x4 x5 x6 x7 l = false := gmB_n3 (inB_no h)
set_option maxRecDepth 100000 in
set_option maxHeartbeats 6400000 in
theorem GoodMsg_any (b d : Int) (x0 x1 x2 x3 x4 x5 x6 x7 : Int) (a : Option Addr) (cap n : Nat) (l : List Int) (w : World) (hn : l.length = n) (hm : n ≤ maxLen) (hr : RowAt w a l) :
    Calls Tryz.prog 136 #[.agg #[.int .i64 b, .int .i64 d], .agg #[.int .i64 x0, .int .i64 x1, .int .i64 x2, .int .i64 x3, .int .i64 x4, .int .i64 x5, .int .i64 x6, .int .i64 x7, .slice a n cap]] w fun e w' => e = .returned (.bool (gmB b d x0 x1 x2 x3 x4 x5 x6 x7 l)) ∧ Below w.heap.size w w' := by
  have HR : Hid (RowAt w a l) := hr
  clear hr
  cases hg0 : gsB b d
  · have hg : Hid (gsB b d = false) := hg0
    have hv : Hid (gmB b d x0 x1 x2 x3 x4 x5 x6 x7 l = false) := gm_gs hg0
    clear hg0
    go_enter Tryz.func136, Tryz.ntmps136
    go_wp2_with fail
    refine (good_any _ _ _).mono ?_
    rintro e w1 ⟨rfl, HW⟩
    rw [hg.out]
    obtain ⟨KA, KB, HB⟩ := bkAB HW
    have S_1 : Hid (Bk w1 w.heap.size #[.int .i64 b, .int .i64 d] 25) := KA
    have M_1 : Hid (Bk w1 (w.heap.size + 1) #[.int .i64 x0, .int .i64 x1, .int .i64 x2, .int .i64 x3, .int .i64 x4, .int .i64 x5, .int .i64 x6, .int .i64 x7, .slice a n cap] 102) := KB
    have BEL_1 : Hid (Below w.heap.size w w1) := HB
    clear HW KA KB HB
    obtain ⟨qS0, qS1⟩ := Bk.c2 S_1.out
    have lS := Bk.lt S_1.out
    obtain ⟨qM0, qM1, qM2, qM3, qM4, qM5, qM6, qM7, qM8⟩ := Bk.c9 M_1.out
    have lM := Bk.lt M_1.out
    go_wp2
    go_ret
    exact ⟨ret_bool hv.out.symm, BEL_1.out⟩
  have hg : Hid (gsB b d = true) := hg0
  have hgt : Hid (gsB b d = true) := hg0
  clear hg0
  cases hk0 : kdB x0
  · have hk : Hid (kdB x0 = false) := hk0
    have hv : Hid (gmB b d x0 x1 x2 x3 x4 x5 x6 x7 l = false) := gmB_n2 hk0
    clear hk0
    go_enter Tryz.func136, Tryz.ntmps136
    go_wp2_with fail
    refine (good_any _ _ _).mono ?_
    rintro e w1 ⟨rfl, HW⟩
    rw [hg.out]
    obtain ⟨KA, KB, HB⟩ := bkAB HW
    have S_1 : Hid (Bk w1 w.heap.size #[.int .i64 b, .int .i64 d] 25) := KA
    have M_1 : Hid (Bk w1 (w.heap.size + 1) #[.int .i64 x0, .int .i64 x1, .int .i64 x2, .int .i64 x3, .int .i64 x4, .int .i64 x5, .int .i64 x6, .int .i64 x7, .slice a n cap] 102) := KB
    have BEL_1 : Hid (Below w.heap.size w w1) := HB
    clear HW KA KB HB
    obtain ⟨qS0, qS1⟩ := Bk.c2 S_1.out
    have lS := Bk.lt S_1.out
    obtain ⟨qM0, qM1, qM2, qM3, qM4, qM5, qM6, qM7, qM8⟩ := Bk.c9 M_1.out
    have lM := Bk.lt M_1.out
    go_wp2_with fail
    refine (isKind_any _ _).mono ?_
    rintro e vx ⟨rfl, hx⟩
    have hx' := hx.symm
    clear hx
    subst hx'
    clear qS0 qS1 lS qM0 qM1 qM2 qM3 qM4 qM5 qM6 qM7 qM8 lM
    rw [hk.out]
    obtain ⟨qS0, qS1⟩ := Bk.c2 S_1.out
    have lS := Bk.lt S_1.out
    obtain ⟨qM0, qM1, qM2, qM3, qM4, qM5, qM6, qM7, qM8⟩ := Bk.c9 M_1.out
    have lM := Bk.lt M_1.out
    go_wp2
    go_ret
    exact ⟨ret_bool hv.out.symm, BEL_1.out⟩
  have hk : Hid (kdB x0 = true) := hk0
  have hk1 : Hid (inB x0 1 8 = true) := hk0
  clear hk0
  by_cases hx1 : 0 ≤ x1
  case neg =>
    have hv : Hid (gmB b d x0 x1 x2 x3 x4 x5 x6 x7 l = false) := gm_x1 (by omega)
    go_enter Tryz.func136, Tryz.ntmps136
    go_wp2_with fail
    refine (good_any _ _ _).mono ?_
    rintro e w1 ⟨rfl, HW⟩
    rw [hg.out]
    obtain ⟨KA, KB, HB⟩ := bkAB HW
    have S_1 : Hid (Bk w1 w.heap.size #[.int .i64 b, .int .i64 d] 25) := KA
    have M_1 : Hid (Bk w1 (w.heap.size + 1) #[.int .i64 x0, .int .i64 x1, .int .i64 x2, .int .i64 x3, .int .i64 x4, .int .i64 x5, .int .i64 x6, .int .i64 x7, .slice a n cap] 102) := KB
    have BEL_1 : Hid (Below w.heap.size w w1) := HB
    clear HW KA KB HB
    obtain ⟨qS0, qS1⟩ := Bk.c2 S_1.out
    have lS := Bk.lt S_1.out
    obtain ⟨qM0, qM1, qM2, qM3, qM4, qM5, qM6, qM7, qM8⟩ := Bk.c9 M_1.out
    have lM := Bk.lt M_1.out
    go_wp2_with fail
    refine (isKind_any _ _).mono ?_
    rintro e vx ⟨rfl, hx⟩
    have hx' := hx.symm
    clear hx
    subst hx'
    clear qS0 qS1 lS qM0 qM1 qM2 qM3 qM4 qM5 qM6 qM7 qM8 lM
    rw [hk.out]
    obtain ⟨qS0, qS1⟩ := Bk.c2 S_1.out
    have lS := Bk.lt S_1.out
    obtain ⟨qM0, qM1, qM2, qM3, qM4, qM5, qM6, qM7, qM8⟩ := Bk.c9 M_1.out
    have lM := Bk.lt M_1.out
    go_wp2
    go_ret
    exact ⟨ret_bool hv.out.symm, BEL_1.out⟩
  by_cases hx2 : x1 ≤ 255
  case neg =>
    have hv : Hid (gmB b d x0 x1 x2 x3 x4 x5 x6 x7 l = false) := gm_x1 (by omega)
    go_enter Tryz.func136, Tryz.ntmps136
    go_wp2_with fail
    refine (good_any _ _ _).mono ?_
    rintro e w1 ⟨rfl, HW⟩
    rw [hg.out]
    obtain ⟨KA, KB, HB⟩ := bkAB HW
    have S_1 : Hid (Bk w1 w.heap.size #[.int .i64 b, .int .i64 d] 25) := KA
    have M_1 : Hid (Bk w1 (w.heap.size + 1) #[.int .i64 x0, .int .i64 x1, .int .i64 x2, .int .i64 x3, .int .i64 x4, .int .i64 x5, .int .i64 x6, .int .i64 x7, .slice a n cap] 102) := KB
    have BEL_1 : Hid (Below w.heap.size w w1) := HB
    clear HW KA KB HB
    obtain ⟨qS0, qS1⟩ := Bk.c2 S_1.out
    have lS := Bk.lt S_1.out
    obtain ⟨qM0, qM1, qM2, qM3, qM4, qM5, qM6, qM7, qM8⟩ := Bk.c9 M_1.out
    have lM := Bk.lt M_1.out
    go_wp2_with fail
    refine (isKind_any _ _).mono ?_
    rintro e vx ⟨rfl, hx⟩
    have hx' := hx.symm
    clear hx
    subst hx'
    clear qS0 qS1 lS qM0 qM1 qM2 qM3 qM4 qM5 qM6 qM7 qM8 lM
    rw [hk.out]
    obtain ⟨qS0, qS1⟩ := Bk.c2 S_1.out
    have lS := Bk.lt S_1.out
    obtain ⟨qM0, qM1, qM2, qM3, qM4, qM5, qM6, qM7, qM8⟩ := Bk.c9 M_1.out
    have lM := Bk.lt M_1.out
    go_wp2
    go_ret
    exact ⟨ret_bool hv.out.symm, BEL_1.out⟩
  have h1 : Hid (inB x1 0 255 = true) := inB_yes hx1 hx2
  cases h20 : numB b d x2
  · have h2 : Hid (numB b d x2 = false) := h20
    have hv : Hid (gmB b d x0 x1 x2 x3 x4 x5 x6 x7 l = false) := gm_to h20
    clear h20
    go_enter Tryz.func136, Tryz.ntmps136
    go_wp2_with fail
    refine (good_any _ _ _).mono ?_
    rintro e w1 ⟨rfl, HW⟩
    rw [hg.out]
    obtain ⟨KA, KB, HB⟩ := bkAB HW
    have S_1 : Hid (Bk w1 w.heap.size #[.int .i64 b, .int .i64 d] 25) := KA
    have M_1 : Hid (Bk w1 (w.heap.size + 1) #[.int .i64 x0, .int .i64 x1, .int .i64 x2, .int .i64 x3, .int .i64 x4, .int .i64 x5, .int .i64 x6, .int .i64 x7, .slice a n cap] 102) := KB
    have BEL_1 : Hid (Below w.heap.size w w1) := HB
    clear HW KA KB HB
    obtain ⟨qS0, qS1⟩ := Bk.c2 S_1.out
    have lS := Bk.lt S_1.out
    obtain ⟨qM0, qM1, qM2, qM3, qM4, qM5, qM6, qM7, qM8⟩ := Bk.c9 M_1.out
    have lM := Bk.lt M_1.out
    go_wp2_with fail
    refine (isKind_any _ _).mono ?_
    rintro e vx ⟨rfl, hx⟩
    have hx' := hx.symm
    clear hx
    subst hx'
    clear qS0 qS1 lS qM0 qM1 qM2 qM3 qM4 qM5 qM6 qM7 qM8 lM
    rw [hk.out]
    obtain ⟨qS0, qS1⟩ := Bk.c2 S_1.out
    have lS := Bk.lt S_1.out
    obtain ⟨qM0, qM1, qM2, qM3, qM4, qM5, qM6, qM7, qM8⟩ := Bk.c9 M_1.out
    have lM := Bk.lt M_1.out
    go_wp2_with fail
    refine (isNumber_any _ _ _ _).mono ?_
    rintro e w2 ⟨rfl, HW⟩
    clear qS0 qS1 lS qM0 qM1 qM2 qM3 qM4 qM5 qM6 qM7 qM8 lM
    rw [h2.out]
    have S_2 : Hid (Bk w2 w.heap.size #[.int .i64 b, .int .i64 d] 25) := S_1.out.keep (HW)
    have M_2 : Hid (Bk w2 (w.heap.size + 1) #[.int .i64 x0, .int .i64 x1, .int .i64 x2, .int .i64 x3, .int .i64 x4, .int .i64 x5, .int .i64 x6, .int .i64 x7, .slice a n cap] 102) := M_1.out.keep (HW)
    have BEL_2 : Hid (Below w.heap.size w w2) := belt BEL_1.out (HW)
    clear S_1 M_1 BEL_1
    clear HW
    obtain ⟨qS0, qS1⟩ := Bk.c2 S_2.out
    have lS := Bk.lt S_2.out
    obtain ⟨qM0, qM1, qM2, qM3, qM4, qM5, qM6, qM7, qM8⟩ := Bk.c9 M_2.out
    have lM := Bk.lt M_2.out
    go_wp2
    go_ret
    exact ⟨ret_bool hv.out.symm, BEL_2.out⟩
  have h2 : Hid (numB b d x2 = true) := h20
  clear h20
  cases h30 : numB b d x3
  · have h3 : Hid (numB b d x3 = false) := h30
    have hv : Hid (gmB b d x0 x1 x2 x3 x4 x5 x6 x7 l = false) := gm_from h30
    clear h30
    go_enter Tryz.func136, Tryz.ntmps136
    go_wp2_with fail
    refine (good_any _ _ _).mono ?_
    rintro e w1 ⟨rfl, HW⟩
    rw [hg.out]
    obtain ⟨KA, KB, HB⟩ := bkAB HW
    have S_1 : Hid (Bk w1 w.heap.size #[.int .i64 b, .int .i64 d] 25) := KA
    have M_1 : Hid (Bk w1 (w.heap.size + 1) #[.int .i64 x0, .int .i64 x1, .int .i64 x2, .int .i64 x3, .int .i64 x4, .int .i64 x5, .int .i64 x6, .int .i64 x7, .slice a n cap] 102) := KB
    have BEL_1 : Hid (Below w.heap.size w w1) := HB
    clear HW KA KB HB
    obtain ⟨qS0, qS1⟩ := Bk.c2 S_1.out
    have lS := Bk.lt S_1.out
    obtain ⟨qM0, qM1, qM2, qM3, qM4, qM5, qM6, qM7, qM8⟩ := Bk.c9 M_1.out
    have lM := Bk.lt M_1.out
    go_wp2_with fail
    refine (isKind_any _ _).mono ?_
    rintro e vx ⟨rfl, hx⟩
    have hx' := hx.symm
    clear hx
    subst hx'
    clear qS0 qS1 lS qM0 qM1 qM2 qM3 qM4 qM5 qM6 qM7 qM8 lM
    rw [hk.out]
    obtain ⟨qS0, qS1⟩ := Bk.c2 S_1.out
    have lS := Bk.lt S_1.out
    obtain ⟨qM0, qM1, qM2, qM3, qM4, qM5, qM6, qM7, qM8⟩ := Bk.c9 M_1.out
    have lM := Bk.lt M_1.out
    go_wp2_with fail
    refine (isNumber_any _ _ _ _).mono ?_
    rintro e w2 ⟨rfl, HW⟩
    clear qS0 qS1 lS qM0 qM1 qM2 qM3 qM4 qM5 qM6 qM7 qM8 lM
    rw [h2.out]
    have S_2 : Hid (Bk w2 w.heap.size #[.int .i64 b, .int .i64 d] 25) := S_1.out.keep (HW)
    have M_2 : Hid (Bk w2 (w.heap.size + 1) #[.int .i64 x0, .int .i64 x1, .int .i64 x2, .int .i64 x3, .int .i64 x4, .int .i64 x5, .int .i64 x6, .int .i64 x7, .slice a n cap] 102) := M_1.out.keep (HW)
    have BEL_2 : Hid (Below w.heap.size w w2) := belt BEL_1.out (HW)
    clear S_1 M_1 BEL_1
    clear HW
    obtain ⟨qS0, qS1⟩ := Bk.c2 S_2.out
    have lS := Bk.lt S_2.out
    obtain ⟨qM0, qM1, qM2, qM3, qM4, qM5, qM6, qM7, qM8⟩ := Bk.c9 M_2.out
    have lM := Bk.lt M_2.out
    go_wp2_with fail
    refine (isNumber_any _ _ _ _).mono ?_
    rintro e w3 ⟨rfl, HW⟩
    clear qS0 qS1 lS qM0 qM1 qM2 qM3 qM4 qM5 qM6 qM7 qM8 lM
    rw [h3.out]
    have S_3 : Hid (Bk w3 w.heap.size #[.int .i64 b, .int .i64 d] 25) := S_2.out.keep (HW)
    have M_3 : Hid (Bk w3 (w.heap.size + 1) #[.int .i64 x0, .int .i64 x1, .int .i64 x2, .int .i64 x3, .int .i64 x4, .int .i64 x5, .int .i64 x6, .int .i64 x7, .slice a n cap] 102) := M_2.out.keep (HW)
    have BEL_3 : Hid (Below w.heap.size w w3) := belt BEL_2.out (HW)
    clear S_2 M_2 BEL_2
    clear HW
    obtain ⟨qS0, qS1⟩ := Bk.c2 S_3.out
    have lS := Bk.lt S_3.out
    obtain ⟨qM0, qM1, qM2, qM3, qM4, qM5, qM6, qM7, qM8⟩ := Bk.c9 M_3.out
    have lM := Bk.lt M_3.out
    go_wp2
    go_ret
    exact ⟨ret_bool hv.out.symm, BEL_3.out⟩
  have h3 : Hid (numB b d x3 = true) := h30
  clear h30
  have h23 : Hid (numsB b d [x2, x3] = true) := by unfold Hid; rw [numsB_2, h2.out, h3.out]; rfl
  cases ht0 : toldB b l
  · have ht : Hid (toldB b l = false) := ht0
    have hv : Hid (gmB b d x0 x1 x2 x3 x4 x5 x6 x7 l = false) := gm_told ht0
    clear ht0
    go_enter Tryz.func136, Tryz.ntmps136
    go_wp2_with fail
    refine (good_any _ _ _).mono ?_
    rintro e w1 ⟨rfl, HW⟩
    rw [hg.out]
    obtain ⟨KA, KB, HB⟩ := bkAB HW
    have S_1 : Hid (Bk w1 w.heap.size #[.int .i64 b, .int .i64 d] 25) := KA
    have M_1 : Hid (Bk w1 (w.heap.size + 1) #[.int .i64 x0, .int .i64 x1, .int .i64 x2, .int .i64 x3, .int .i64 x4, .int .i64 x5, .int .i64 x6, .int .i64 x7, .slice a n cap] 102) := KB
    have BEL_1 : Hid (Below w.heap.size w w1) := HB
    clear HW KA KB HB
    obtain ⟨qS0, qS1⟩ := Bk.c2 S_1.out
    have lS := Bk.lt S_1.out
    obtain ⟨qM0, qM1, qM2, qM3, qM4, qM5, qM6, qM7, qM8⟩ := Bk.c9 M_1.out
    have lM := Bk.lt M_1.out
    go_wp2_with fail
    refine (isKind_any _ _).mono ?_
    rintro e vx ⟨rfl, hx⟩
    have hx' := hx.symm
    clear hx
    subst hx'
    clear qS0 qS1 lS qM0 qM1 qM2 qM3 qM4 qM5 qM6 qM7 qM8 lM
    rw [hk.out]
    obtain ⟨qS0, qS1⟩ := Bk.c2 S_1.out
    have lS := Bk.lt S_1.out
    obtain ⟨qM0, qM1, qM2, qM3, qM4, qM5, qM6, qM7, qM8⟩ := Bk.c9 M_1.out
    have lM := Bk.lt M_1.out
    go_wp2_with fail
    refine (isNumber_any _ _ _ _).mono ?_
    rintro e w2 ⟨rfl, HW⟩
    clear qS0 qS1 lS qM0 qM1 qM2 qM3 qM4 qM5 qM6 qM7 qM8 lM
    rw [h2.out]
    have S_2 : Hid (Bk w2 w.heap.size #[.int .i64 b, .int .i64 d] 25) := S_1.out.keep (HW)
    have M_2 : Hid (Bk w2 (w.heap.size + 1) #[.int .i64 x0, .int .i64 x1, .int .i64 x2, .int .i64 x3, .int .i64 x4, .int .i64 x5, .int .i64 x6, .int .i64 x7, .slice a n cap] 102) := M_1.out.keep (HW)
    have BEL_2 : Hid (Below w.heap.size w w2) := belt BEL_1.out (HW)
    clear S_1 M_1 BEL_1
    clear HW
    obtain ⟨qS0, qS1⟩ := Bk.c2 S_2.out
    have lS := Bk.lt S_2.out
    obtain ⟨qM0, qM1, qM2, qM3, qM4, qM5, qM6, qM7, qM8⟩ := Bk.c9 M_2.out
    have lM := Bk.lt M_2.out
    go_wp2_with fail
    refine (isNumber_any _ _ _ _).mono ?_
    rintro e w3 ⟨rfl, HW⟩
    clear qS0 qS1 lS qM0 qM1 qM2 qM3 qM4 qM5 qM6 qM7 qM8 lM
    rw [h3.out]
    have S_3 : Hid (Bk w3 w.heap.size #[.int .i64 b, .int .i64 d] 25) := S_2.out.keep (HW)
    have M_3 : Hid (Bk w3 (w.heap.size + 1) #[.int .i64 x0, .int .i64 x1, .int .i64 x2, .int .i64 x3, .int .i64 x4, .int .i64 x5, .int .i64 x6, .int .i64 x7, .slice a n cap] 102) := M_2.out.keep (HW)
    have BEL_3 : Hid (Below w.heap.size w w3) := belt BEL_2.out (HW)
    clear S_2 M_2 BEL_2
    clear HW
    obtain ⟨qS0, qS1⟩ := Bk.c2 S_3.out
    have lS := Bk.lt S_3.out
    obtain ⟨qM0, qM1, qM2, qM3, qM4, qM5, qM6, qM7, qM8⟩ := Bk.c9 M_3.out
    have lM := Bk.lt M_3.out
    go_wp2_with fail
    refine (isTold_any b d a cap n l _ hgt.out hn hm (HR.out.keep BEL_3.out)).mono ?_
    rintro e w4 ⟨rfl, HW⟩
    clear qS0 qS1 lS qM0 qM1 qM2 qM3 qM4 qM5 qM6 qM7 qM8 lM
    rw [ht.out]
    have S_4 : Hid (Bk w4 w.heap.size #[.int .i64 b, .int .i64 d] 25) := S_3.out.keep (HW)
    have M_4 : Hid (Bk w4 (w.heap.size + 1) #[.int .i64 x0, .int .i64 x1, .int .i64 x2, .int .i64 x3, .int .i64 x4, .int .i64 x5, .int .i64 x6, .int .i64 x7, .slice a n cap] 102) := M_3.out.keep (HW)
    have BEL_4 : Hid (Below w.heap.size w w4) := belt BEL_3.out (HW)
    clear S_3 M_3 BEL_3
    clear HW
    obtain ⟨qS0, qS1⟩ := Bk.c2 S_4.out
    have lS := Bk.lt S_4.out
    obtain ⟨qM0, qM1, qM2, qM3, qM4, qM5, qM6, qM7, qM8⟩ := Bk.c9 M_4.out
    have lM := Bk.lt M_4.out
    go_wp2
    go_ret
    exact ⟨ret_bool hv.out.symm, BEL_4.out⟩
  have ht : Hid (toldB b l = true) := ht0
  clear ht0
  go_enter Tryz.func136, Tryz.ntmps136
  go_wp2_with fail
  refine (good_any _ _ _).mono ?_
  rintro e w1 ⟨rfl, HW⟩
  rw [hg.out]
  obtain ⟨KA, KB, HB⟩ := bkAB HW
  have S_1 : Hid (Bk w1 w.heap.size #[.int .i64 b, .int .i64 d] 25) := KA
  have M_1 : Hid (Bk w1 (w.heap.size + 1) #[.int .i64 x0, .int .i64 x1, .int .i64 x2, .int .i64 x3, .int .i64 x4, .int .i64 x5, .int .i64 x6, .int .i64 x7, .slice a n cap] 102) := KB
  have BEL_1 : Hid (Below w.heap.size w w1) := HB
  clear HW KA KB HB
  obtain ⟨qS0, qS1⟩ := Bk.c2 S_1.out
  have lS := Bk.lt S_1.out
  obtain ⟨qM0, qM1, qM2, qM3, qM4, qM5, qM6, qM7, qM8⟩ := Bk.c9 M_1.out
  have lM := Bk.lt M_1.out
  go_wp2_with fail
  refine (isKind_any _ _).mono ?_
  rintro e vx ⟨rfl, hx⟩
  have hx' := hx.symm
  clear hx
  subst hx'
  clear qS0 qS1 lS qM0 qM1 qM2 qM3 qM4 qM5 qM6 qM7 qM8 lM
  rw [hk.out]
  obtain ⟨qS0, qS1⟩ := Bk.c2 S_1.out
  have lS := Bk.lt S_1.out
  obtain ⟨qM0, qM1, qM2, qM3, qM4, qM5, qM6, qM7, qM8⟩ := Bk.c9 M_1.out
  have lM := Bk.lt M_1.out
  go_wp2_with fail
  refine (isNumber_any _ _ _ _).mono ?_
  rintro e w2 ⟨rfl, HW⟩
  clear qS0 qS1 lS qM0 qM1 qM2 qM3 qM4 qM5 qM6 qM7 qM8 lM
  rw [h2.out]
  have S_2 : Hid (Bk w2 w.heap.size #[.int .i64 b, .int .i64 d] 25) := S_1.out.keep (HW)
  have M_2 : Hid (Bk w2 (w.heap.size + 1) #[.int .i64 x0, .int .i64 x1, .int .i64 x2, .int .i64 x3, .int .i64 x4, .int .i64 x5, .int .i64 x6, .int .i64 x7, .slice a n cap] 102) := M_1.out.keep (HW)
  have BEL_2 : Hid (Below w.heap.size w w2) := belt BEL_1.out (HW)
  clear S_1 M_1 BEL_1
  clear HW
  obtain ⟨qS0, qS1⟩ := Bk.c2 S_2.out
  have lS := Bk.lt S_2.out
  obtain ⟨qM0, qM1, qM2, qM3, qM4, qM5, qM6, qM7, qM8⟩ := Bk.c9 M_2.out
  have lM := Bk.lt M_2.out
  go_wp2_with fail
  refine (isNumber_any _ _ _ _).mono ?_
  rintro e w3 ⟨rfl, HW⟩
  clear qS0 qS1 lS qM0 qM1 qM2 qM3 qM4 qM5 qM6 qM7 qM8 lM
  rw [h3.out]
  have S_3 : Hid (Bk w3 w.heap.size #[.int .i64 b, .int .i64 d] 25) := S_2.out.keep (HW)
  have M_3 : Hid (Bk w3 (w.heap.size + 1) #[.int .i64 x0, .int .i64 x1, .int .i64 x2, .int .i64 x3, .int .i64 x4, .int .i64 x5, .int .i64 x6, .int .i64 x7, .slice a n cap] 102) := M_2.out.keep (HW)
  have BEL_3 : Hid (Below w.heap.size w w3) := belt BEL_2.out (HW)
  clear S_2 M_2 BEL_2
  clear HW
  obtain ⟨qS0, qS1⟩ := Bk.c2 S_3.out
  have lS := Bk.lt S_3.out
  obtain ⟨qM0, qM1, qM2, qM3, qM4, qM5, qM6, qM7, qM8⟩ := Bk.c9 M_3.out
  have lM := Bk.lt M_3.out
  go_wp2_with fail
  refine (isTold_any b d a cap n l _ hgt.out hn hm (HR.out.keep BEL_3.out)).mono ?_
  rintro e w4 ⟨rfl, HW⟩
  clear qS0 qS1 lS qM0 qM1 qM2 qM3 qM4 qM5 qM6 qM7 qM8 lM
  rw [ht.out]
  have S_4 : Hid (Bk w4 w.heap.size #[.int .i64 b, .int .i64 d] 25) := S_3.out.keep (HW)
  have M_4 : Hid (Bk w4 (w.heap.size + 1) #[.int .i64 x0, .int .i64 x1, .int .i64 x2, .int .i64 x3, .int .i64 x4, .int .i64 x5, .int .i64 x6, .int .i64 x7, .slice a n cap] 102) := M_3.out.keep (HW)
  have BEL_4 : Hid (Below w.heap.size w w4) := belt BEL_3.out (HW)
  clear S_3 M_3 BEL_3
  clear HW
  obtain ⟨qS0, qS1⟩ := Bk.c2 S_4.out
  have lS := Bk.lt S_4.out
  obtain ⟨qM0, qM1, qM2, qM3, qM4, qM5, qM6, qM7, qM8⟩ := Bk.c9 M_4.out
  have lM := Bk.lt M_4.out
  go_wp2_with fail
  refine (fieldsOf_any x0 _).mono ?_
  rintro e w5 ⟨aF, nF, cF, rfl, hnF, hcF, oF, HW⟩
  clear qS0 qS1 lS qM0 qM1 qM2 qM3 qM4 qM5 qM6 qM7 qM8 lM
  have S_5 : Hid (Bk w5 w.heap.size #[.int .i64 b, .int .i64 d] 25) := S_4.out.keep (HW)
  have M_5 : Hid (Bk w5 (w.heap.size + 1) #[.int .i64 x0, .int .i64 x1, .int .i64 x2, .int .i64 x3, .int .i64 x4, .int .i64 x5, .int .i64 x6, .int .i64 x7, .slice a n cap] 102) := M_4.out.keep (HW)
  have BEL_5 : Hid (Below w.heap.size w w5) := belt BEL_4.out (HW)
  clear S_4 M_4 BEL_4
  have F_5 : Hid (RowAt w5 aF (fld x0)) := oF.rowAt
  clear HW oF
  have hF4 := fld_big x0
  have hF5 : Hid (RowAt w5 aF (fld x0)) := F_5
  go_wp2_with fail
  go_loopw [50] (fun vi wr => ∃ j : Nat, j ≤ nF ∧ vi = .int .i64 j ∧ Hid (∀ i, i < j → (fld x0).getD i 0 = 5 ∨ inB (vf x4 x5 x6 x7 ((fld x0).getD i 0)) 0 (mo b d ((fld x0).getD i 0)) = true) ∧ Hid (Below w5.heap.size w5 wr)) (fun vi _ => nF - (intOf vi).toNat)
  case atStart => exact ⟨0, Nat.zero_le _, rfl, fun i hi => by omega, Below.refl _ _⟩
  case round =>
    obtain ⟨j, hj, rfl, hs, hb⟩ := hrel
    obtain ⟨s0, s1⟩ := Bk.c2 (S_5.out.keep hb.out)
    obtain ⟨q0, q1, q2, q3, q4, q5, q6, q7, q8⟩ := Bk.c9 (M_5.out.keep hb.out)
    by_cases hlt2 : j < nF
    · have hmem := fld_mem x0 j (by omega)
      have hrow := F_5.out.keep hb.out
      obtain ⟨bk, off, hform⟩ := rowAt_form hrow (by omega)
      subst hform
      have hc1 := (rowAt_cell hrow (by omega)).2 j (by omega)
      clear hrow
      by_cases h5 : (fld x0).getD j 0 = 5
      · have SN : Hid (∀ i, i < j + 1 → (fld x0).getD i 0 = 5 ∨ inB (vf x4 x5 x6 x7 ((fld x0).getD i 0)) 0 (mo b d ((fld x0).getD i 0)) = true) := fun i hi => by
          by_cases he : i = j
          · subst he; exact .inl h5
          · exact hs.out i (by omega)
        have hf : (((fld x0).getD j 0) == 5) = true := by rw [h5]; rfl
        clear h5
        generalize (fld x0).getD j 0 = f at hc1 hf hmem
        go_wp2
        go_roundw
        case rel => exact ⟨j + 1, by omega, by go_num, SN, hb⟩
        case measure => simp [intOf]; omega
      · have hf : (((fld x0).getD j 0) == 5) = false := beq_eq_false_iff_ne.2 h5
        have hs8 : wr.cell? ⟨w.heap.size + 1, fo ((fld x0).getD j 0), none⟩ = some (.int .i64 (vf x4 x5 x6 x7 ((fld x0).getD j 0))) := ((M_5.out.keep hb.out).cell _).trans (vf_cell _ _ _ _ _ _ _ _ _ _)
        cases hin : inB (vf x4 x5 x6 x7 ((fld x0).getD j 0)) 0 (mo b d ((fld x0).getD j 0))
        · have hv : Hid (gmB b d x0 x1 x2 x3 x4 x5 x6 x7 l = false) := gm_field (by omega) h5 hin
          have hio := inB_false hin
          clear h5 hin
          generalize vf x4 x5 x6 x7 ((fld x0).getD j 0) = y at hs8 hio
          obtain ⟨m, hm0⟩ : ∃ m, mo b d ((fld x0).getD j 0) = m := ⟨_, rfl⟩
          rw [hm0] at hio
          have HM : Hid (mo b d ((fld x0).getD j 0) = m) := hm0
          clear hm0
          generalize (fld x0).getD j 0 = f at *
          by_cases hy : y < 0
          · clear hio
            go_wp2_with fail
            refine (numberAt_any _ _ _).mono ?_
            rintro e vx ⟨rfl, hx⟩
            have hx' := hx.symm
            clear hx
            subst hx'
            go_wp2
            go_ret
            exact ⟨ret_bool hv.out.symm, belt BEL_5.out hb.out⟩
          · have hym : m < y := by omega
            clear hio
            go_wp2_with fail
            refine (numberAt_any _ _ _).mono ?_
            rintro e vx ⟨rfl, hx⟩
            have hx' := hx.symm
            clear hx
            subst hx'
            go_wp2_with fail
            refine (mostOf_any _ _ _ _ hgt.out).mono ?_
            rintro e w6 ⟨rfl, hw6⟩
            rw [HM.out]
            go_wp2
            go_ret
            exact ⟨ret_bool hv.out.symm, belt BEL_5.out (belt hb.out hw6)⟩
        · have SN : Hid (∀ i, i < j + 1 → (fld x0).getD i 0 = 5 ∨ inB (vf x4 x5 x6 x7 ((fld x0).getD i 0)) 0 (mo b d ((fld x0).getD i 0)) = true) := fun i hi => by
            by_cases he : i = j
            · subst he; exact .inr hin
            · exact hs.out i (by omega)
          have hio := inB_true hin
          clear h5 hin
          generalize vf x4 x5 x6 x7 ((fld x0).getD j 0) = y at hs8 hio
          obtain ⟨m, hm0⟩ : ∃ m, mo b d ((fld x0).getD j 0) = m := ⟨_, rfl⟩
          rw [hm0] at hio
          have HM : Hid (mo b d ((fld x0).getD j 0) = m) := hm0
          clear hm0
          generalize (fld x0).getD j 0 = f at hc1 hf hs8 HM hmem
          obtain ⟨hio1, hio2⟩ := hio
          go_wp2_with fail
          refine (numberAt_any _ _ _).mono ?_
          rintro e vx ⟨rfl, hx⟩
          have hx' := hx.symm
          clear hx
          subst hx'
          go_wp2_with fail
          refine (mostOf_any _ _ _ _ hgt.out).mono ?_
          rintro e w6 ⟨rfl, hw6⟩
          rw [HM.out]
          go_wp2
          go_roundw
          case rel => exact ⟨j + 1, by omega, by go_num, SN, belt hb.out hw6⟩
          case measure => simp [intOf]; omega
    · have hv : Hid (gmB b d x0 x1 x2 x3 x4 x5 x6 x7 l = (hdB x0 x1 x2 x3 x4 x5 x6 x7 x0 x1 x2 x3 (pv (fld x0) (fld x0).length 1 x4) (pv (fld x0) (fld x0).length 2 x5) (pv (fld x0) (fld x0).length 3 x6) (pv (fld x0) (fld x0).length 4 x7) && sameB l (lO x0 l))) := gm_end h23.out hk1.out h1.out ht.out (fun i hi => hs.out i (by omega))
      obtain ⟨pa, pn, pc, hpC, hpn, hprow⟩ := pC_form x0 x1 x2 x3 x4 x5 x6 x7 a n cap l hn
      have HPC : Hid (pC (fld x0) (fld x0).length x0 x1 x2 x3 x4 x5 x6 x7 (.slice a n cap) = _) := hpC
      have HM := M_5.out.keep hb.out
      have HMH : Hid (Bk wr (w.heap.size + 1) _ _) := HM
      have HBW : Hid (Below w.heap.size w wr) := belt BEL_5.out hb.out
      have HRO : Hid (∀ w, RowAt w a l → RowAt w pa (lO x0 l)) := hprow
      clear hpC HM hprow
      generalize pv (fld x0) (fld x0).length 1 x4 = z4 at *
      generalize pv (fld x0) (fld x0).length 2 x5 = z5 at *
      generalize pv (fld x0) (fld x0).length 3 x6 = z6 at *
      generalize pv (fld x0) (fld x0).length 4 x7 = z7 at *
      go_wp2_with fail
      refine wp_region_held_drew (S := fun w' => Below wr.heap.size wr w') (by kernel_rfl) ((Below.refl _ _).drew) (fun hs0 => ?_)
      refine wpAnyH_take (i := 0) (oi := _) (v := _) rfl (by kernel_rfl) (by kernel_rfl) (by kernel_rfl) (fun _ _ _ h => h) (yieldsIf_bk rfl rfl rfl (fun w' h => (HMH.out).keep h) Tryz.underlying102 rfl (by kernel_rfl)) hs0 ?_
      simp only [Act.put, List.setIfInBounds_toArray, List.set_cons_zero, List.set_cons_succ]
      refine wpAnyH_ready (rs := [1]) (by kernel_rfl) (by simp) ?_
      refine AllReadyH.cons rfl (fun K hK => ?_) AllReadyH.nil
      go_simp
      refine (onlyFields_any (w.heap.size + 1) x0 x1 x2 x3 x4 x5 x6 x7 a n cap _ (HMH.out.keep hs0)).mono ?_
      rintro e wa ⟨rfl, hw1⟩
      have hs1 := belt hs0 hw1
      rw [HPC.out]
      refine hK.out _ _ hs1 (fun _ => ?_)
      clear hK K
      refine wpAnyH_ready (rs := [2]) (by kernel_rfl) (by simp) ?_
      refine AllReadyH.cons rfl (fun K hK => ?_) AllReadyH.nil
      go_simp
      refine (SameMsg_any x0 x1 x2 x3 x4 x5 x6 x7 x0 x1 x2 x3 z4 z5 z6 z7 a pa _ _ _ _ l (lO x0 l) _ hn hpn hm (HR.out.keep (belt HBW.out hs1)) (HRO.out _ (HR.out.keep (belt HBW.out hs1)))).mono ?_
      rintro e wb ⟨rfl, hw2⟩
      have hs2 := belt hs1 hw2
      refine hK.out _ _ hs2 (fun _ => ?_)
      clear hK K
      refine wpAnyH_ready (rs := [3]) (by kernel_rfl) (by simp) ?_
      refine AllReadyH.cons rfl (fun K hK => ?_) AllReadyH.nil
      go_simp
      refine hK.out _ _ hs2 (fun _ => ?_)
      clear hK K
      refine wpAnyH_done (by kernel_rfl) ?_ _
      go_wp2
      go_ret
      exact ⟨ret_bool hv.out.symm, belt HBW.out hs2⟩
end Go.Proofs.YtdceimnapbblnaaGreat.Wire
namespace Go.Proofs.YtdceimnapbblnaaGreat
open Go.RowKit Go.Deep
set_option linter.unusedVariables false
set_option linter.unusedSimpArgs false
theorem slIndex_any (a : Option Addr) (cap : Nat) (zs : List Int) (x : Int) (w : World) (hm : zs.length ≤ maxLen) (hr : RowAt w a zs) :
    Calls Tryz.prog 132 #[.slice a zs.length cap, .int .i64 x] w fun e w' => ∃ v : Int, e = .returned (.int .i64 v) ∧ ((hasB zs x = true ∧ 0 ≤ v) ∨ (hasB zs x = false ∧ v < 0)) ∧ w' = w := by
  have HR : Hid (RowAt w a zs) := hr
  clear hr
  unfold maxLen at hm
  go_enter Tryz.func132, Tryz.ntmps132
  go_wp2_with fail
  go_loop [8] (fun v => ∃ k : Nat, k ≤ zs.length ∧ v = .int .i64 k ∧ Hid (∀ i, i < k → ¬ zs.getD i 0 = x)) (fun v => zs.length - (intOf v).toNat)
  case atStart => exact ⟨0, Nat.zero_le _, rfl, fun i hi => by omega⟩
  case round =>
    obtain ⟨k, hk, rfl, HS⟩ := hrel
    by_cases hlt : k < zs.length
    · obtain ⟨bk, off, rfl⟩ := rowAt_form HR.out (by omega)
      have hc := (rowAt_cell HR.out (by omega)).2 k hlt
      by_cases he : zs.getD k 0 = x
      · have HV : Hid (hasB zs x = true) := decide_eq_true ⟨k, hlt, he⟩
        have hb : (x == zs.getD k 0) = true := by simpa using he.symm
        clear he
        generalize zs.getD k 0 = y at hc hb
        go_wp2
        go_ret
        exact ⟨_, rfl, .inl ⟨HV.out, by omega⟩, rfl⟩
      · have hb : (x == zs.getD k 0) = false := by simpa using fun h : x = zs.getD k 0 => he h.symm
        have HS2 : Hid (∀ i, i < k + 1 → ¬ zs.getD i 0 = x) := fun i hi => by
          by_cases hq : i = k
          · subst hq; exact he
          · exact HS.out i (by omega)
        clear he HS
        generalize zs.getD k 0 = y at hc hb
        go_wp2
        go_round
        case rel => exact ⟨k + 1, by omega, by go_num, HS2⟩
        case measure => simp [intOf]; omega
    · have HV : Hid (hasB zs x = false) := decide_eq_false (fun ⟨i, hi, he⟩ => HS.out i (by omega) he)
      go_wp2
      go_ret
      exact ⟨_, rfl, .inr ⟨HV.out, by omega⟩, rfl⟩
theorem slContains_any (a : Option Addr) (cap n : Nat) (zs : List Int) (x : Int) (w : World) (hn : zs.length = n) (hm : n ≤ maxLen) (hr : RowAt w a zs) :
    Calls Tryz.prog 73 #[.slice a n cap, .int .i64 x] w fun e w' => e = .returned (.bool (hasB zs x)) ∧ w' = w := by
  subst hn
  go_enter Tryz.func73, Tryz.ntmps73
  go_wp2_with fail
  refine (slIndex_any a cap zs x _ hm hr).mono ?_
  rintro e w1 ⟨v, rfl, hv, rfl⟩
  rcases hv with ⟨h1, h2⟩ | ⟨h1, h2⟩
  · have HV : Hid (hasB zs x = true) := h1
    clear h1
    go_wp2
    go_ret
    exact ⟨ret_bool HV.out.symm, rfl⟩
  · have HV : Hid (hasB zs x = false) := h1
    clear h1
    go_wp2
    go_ret
    exact ⟨ret_bool (by rw [HV.out]; exact decide_eq_false (by omega)), rfl⟩
theorem isLook_any (x : Int) (w : World) : Calls Tryz.prog 135 #[.int .i64 x] w fun e w' => e = .returned (.bool (inB x 0 255)) ∧ w' = w := by
  by_cases h1 : 0 ≤ x
  · by_cases h2 : x ≤ 255
    · have HV : Hid (inB x 0 255 = true) := inB_yes h1 h2
      go_enter Tryz.func135, Tryz.ntmps135
      go_wp2
      go_ret
      exact ⟨ret_bool HV.out.symm, rfl⟩
    · have HV : Hid (inB x 0 255 = false) := inB_no (fun h => h2 h.2)
      go_enter Tryz.func135, Tryz.ntmps135
      go_wp2
      go_ret
      exact ⟨ret_bool HV.out.symm, rfl⟩
  · have HV : Hid (inB x 0 255 = false) := inB_no (fun h => h1 h.1)
    go_enter Tryz.func135, Tryz.ntmps135
    go_wp2
    go_ret
    exact ⟨ret_bool HV.out.symm, rfl⟩
set_option maxHeartbeats 1600000 in
theorem areBegun_any (a : Option Addr) (cap : Nat) (zs : List Int) (w : World) (hm : zs.length ≤ maxLen) (hr : RowAt w a zs) :
    Calls Tryz.prog 77 #[.slice a zs.length cap] w fun e w' => e = .returned (.bool (decide (zs.length ≤ 12) && risB zs 0 255)) ∧ w' = w := by
  have HR : Hid (RowAt w a zs) := hr
  clear hr
  unfold maxLen at hm
  by_cases hl : zs.length ≤ 12
  · have HD : Hid ((decide (zs.length ≤ 12) && risB zs 0 255) = risB zs 0 255) := by unfold Hid; rw [decide_eq_true hl]; rfl
    rw [HD.out]
    go_enter Tryz.func77, Tryz.ntmps77
    go_wp2_with fail
    go_loop [10] (fun v => ∃ k : Nat, k ≤ zs.length ∧ v = .int .i64 k ∧ Hid (∀ i, i < k → (0 ≤ zs.getD i 0 ∧ zs.getD i 0 ≤ 255) ∧ (0 < i → zs.getD (i - 1) 0 < zs.getD i 0))) (fun v => zs.length - (intOf v).toNat)
    case atStart => exact ⟨0, Nat.zero_le _, rfl, fun i hi => by omega⟩
    case round =>
      obtain ⟨k, hk, rfl, HS⟩ := hrel
      by_cases hlt : k < zs.length
      · obtain ⟨bk, off, rfl⟩ := rowAt_form HR.out (by omega)
        have hc1 := (rowAt_cell HR.out (by omega)).2 k hlt
        have HNO : Hid (¬ ((0 ≤ zs.getD k 0 ∧ zs.getD k 0 ≤ 255) ∧ (0 < k → zs.getD (k - 1) 0 < zs.getD k 0)) → risB zs 0 255 = false) := risB_no hlt
        have HY : Hid (((0 ≤ zs.getD k 0 ∧ zs.getD k 0 ≤ 255) ∧ (0 < k → zs.getD (k - 1) 0 < zs.getD k 0)) → ∀ i, i < k + 1 → (0 ≤ zs.getD i 0 ∧ zs.getD i 0 ≤ 255) ∧ (0 < i → zs.getD (i - 1) 0 < zs.getD i 0)) := fun h i hi => by
          by_cases he : i = k
          · subst he; exact h
          · exact HS.out i (by omega)
        clear HS
        cases hn : inB (zs.getD k 0) 0 255
        · have HV : Hid (risB zs 0 255 = false) := HNO.out (fun g => by rw [inB_yes g.1.1 g.1.2] at hn; cases hn)
          generalize zs.getD k 0 = z at hc1 hn
          clear HNO HY
          go_wp2_with fail
          refine (isLook_any z _).mono ?_
          rw [hn]
          rintro e w1 ⟨rfl, rfl⟩
          clear hn
          go_wp2
          go_ret
          exact ⟨ret_bool HV.out.symm, rfl⟩
        · have hrg := inB_true hn
          by_cases h0 : 0 < k
          · have hc2 := (rowAt_cell HR.out (by omega)).2 (k - 1) (by omega)
            by_cases hx : zs.getD (k - 1) 0 < zs.getD k 0
            · have HS2 := HY.out ⟨hrg, fun _ => hx⟩
              have HS2 : Hid (∀ i, i < k + 1 → (0 ≤ zs.getD i 0 ∧ zs.getD i 0 ≤ 255) ∧ (0 < i → zs.getD (i - 1) 0 < zs.getD i 0)) := HS2
              clear HNO HY hrg
              have hx2 : ¬ zs.getD k 0 ≤ zs.getD (k - 1) 0 := by omega
              clear hx
              generalize zs.getD k 0 = z at hc1 hn hx2
              generalize zs.getD (k - 1) 0 = y at hc2 hx2
              go_wp2_with fail
              refine (isLook_any z _).mono ?_
              rw [hn]
              rintro e w1 ⟨rfl, rfl⟩
              clear hn
              go_wp2
              go_round
              case rel => exact ⟨k + 1, by omega, by go_num, HS2⟩
              case measure => simp [intOf]; omega
            · have HV : Hid (risB zs 0 255 = false) := HNO.out (fun g => hx (g.2 h0))
              clear HNO HY hrg
              have hx2 : zs.getD k 0 ≤ zs.getD (k - 1) 0 := by omega
              clear hx
              generalize zs.getD k 0 = z at hc1 hn hx2
              generalize zs.getD (k - 1) 0 = y at hc2 hx2
              go_wp2_with fail
              refine (isLook_any z _).mono ?_
              rw [hn]
              rintro e w1 ⟨rfl, rfl⟩
              clear hn
              go_wp2
              go_ret
              exact ⟨ret_bool HV.out.symm, rfl⟩
          · have HS2 : Hid (∀ i, i < k + 1 → (0 ≤ zs.getD i 0 ∧ zs.getD i 0 ≤ 255) ∧ (0 < i → zs.getD (i - 1) 0 < zs.getD i 0)) := HY.out ⟨hrg, fun h => absurd h h0⟩
            clear HNO HY hrg
            generalize zs.getD k 0 = z at hc1 hn
            go_wp2_with fail
            refine (isLook_any z _).mono ?_
            rw [hn]
            rintro e w1 ⟨rfl, rfl⟩
            clear hn
            go_wp2
            go_round
            case rel => exact ⟨k + 1, by omega, by go_num, HS2⟩
            case measure => simp [intOf]; omega
      · have HV : Hid (risB zs 0 255 = true) := risB_yes (fun i hi => HS.out i (by omega))
        go_wp2
        go_ret
        exact ⟨ret_bool HV.out.symm, rfl⟩
  · have HD : Hid ((decide (zs.length ≤ 12) && risB zs 0 255) = false) := by unfold Hid; rw [decide_eq_false hl]; rfl
    rw [HD.out]
    go_enter Tryz.func77, Tryz.ntmps77
    go_wp2
    go_ret
    exact ⟨rfl, rfl⟩
set_option maxHeartbeats 1600000 in
theorem looksInBag_any (q : Nat) (a : Option Addr) (cap : Nat) (ms : List Mg) (w : World) (hm : ms.length ≤ 1048576) (hq : q < w.heap.size) (c4 : w.cell? ⟨q, 4, none⟩ = some (.slice a ms.length cap)) (hr : LsAt tyMg w a ms) :
    Calls Tryz.prog 74 #[.pointer (some ⟨q, 0, none⟩)] w fun e w' => e = .returned (.slice (some ⟨w.heap.size, 0, none⟩) ms.length ms.length) ∧ OwnZ w w' w.heap.size (lkM ms) := by
  have hmk := make_ints ms.length hm
  have hil := lkM_len ms
  have HR : Hid (LsAt tyMg w a ms) := hr
  clear hr
  have hc40 : (w.alloc (.cells (zv (List.replicate ms.length 0)) 3)).cell? ⟨q, 4, none⟩ = some (.slice a ms.length cap) := (cell_alloc_old' _ hq trivial).trans c4
  go_enter Tryz.func74, Tryz.ntmps74
  go_wp2_with fail
  clear hmk
  have st0 : OwnZ w (w.alloc (.cells (zv (List.replicate ms.length 0)) 3)) w.heap.size (cop (lkM ms) 0) :=
    ⟨(Below.refl _ _).alloc (Nat.le_refl _) _, Nat.le_refl _, by rw [cop_none, hil]; exact heap_alloc_new _ _⟩
  go_loopw [16] (fun vi wr => ∃ k : Nat, k ≤ ms.length ∧ vi = .int .i64 k ∧ OwnZ w wr w.heap.size (cop (lkM ms) k)) (fun vi _ => ms.length - (intOf vi).toNat)
  case atStart => exact ⟨0, Nat.zero_le _, rfl, st0⟩
  case round =>
    obtain ⟨k, hk, rfl, st⟩ := hrel
    clear st0 hc40
    have hc4 : wr.cell? ⟨q, 4, none⟩ = some (.slice a ms.length cap) := (st.bel.cell (p := ⟨q, 4, none⟩) hq).trans c4
    by_cases hlt : k < ms.length
    · obtain ⟨bk, off, rfl⟩ := lsAt_form HR.out (by show 0 < ms.length; omega)
      obtain ⟨_, ab, cb, hc, _⟩ := msAt_cell (HR.out.keep st.bel) hlt
      have c1 := hc.m9.2.1
      clear hc
      obtain ⟨r0, r1⟩ := st.at k (by rw [cop_len (by omega)]; omega)
      have st2 := st.put k ((lkM ms).getD k 0)
      rw [cop_set (by omega)] at st2
      rw [← lkM_get hlt] at c1
      clear st
      generalize (lkM ms).getD k 0 = x0 at c1 st2
      generalize (cop (lkM ms) k).getD k 0 = y at r0
      go_wp2
      go_roundw
      case rel => exact ⟨k + 1, by omega, by go_num, st2⟩
      case measure => simp [intOf]; omega
    · have hkl : k = (lkM ms).length := by omega
      rw [hkl, cop_all] at st
      go_wp2
      go_ret
      exact ⟨rfl, st⟩
theorem ownZ_row {w wr : World} {g n : Nat} {l : List Int} (h : OwnZ w wr g l) (hn : l.length = n) (hm : n ≤ 1048576) : wr.ownsRow w.heap.size 3 1 (.slice (some ⟨g, 0, none⟩) n n) l.length (l.map (Value.int .i64)) := by
  subst hn
  refine ⟨by simp, .inr ⟨g, l.length, zv l, rfl, h.lo, h.row, Nat.le_refl _, by unfold maxLen; omega, by simp [zv], by simp [zv, List.take_of_length_le]⟩⟩
end Go.Proofs.YtdceimnapbblnaaGreat
namespace Go.Proofs.YtdceimnapbblnaaGreat
open Go.RowKit Go.Deep
set_option linter.unusedVariables false
set_option linter.unusedSimpArgs false
set_option maxRecDepth 100000 in
set_option maxHeartbeats 6400000 in
theorem isOnWay_any (b d : Int) (q : Nat) (ap : Option Addr) (cp : Nat) (ps : List Pr) (bk o : Nat) (x0 x1 x2 x3 x4 x5 x6 x7 : Int) (ab : Option Addr) (cb : Nat) (l : List Int) (w : World) (R : Ring b d (idsP ps)) (hq : q < w.heap.size) (hbk : bk < w.heap.size)
    (k0 : w.cell? ⟨q, 0, none⟩ = some (.int .i64 b)) (k1 : w.cell? ⟨q, 1, none⟩ = some (.int .i64 d)) (k2 : w.cell? ⟨q, 2, none⟩ = some (.slice ap ps.length cp)) (hr : PeersAt w ap ps) (c0 : w.cell? ⟨bk, o, none⟩ = some (.int .i64 x0)) (c1 : w.cell? ⟨bk, o + 1, none⟩ = some (.int .i64 x1)) (c2 : w.cell? ⟨bk, o + 2, none⟩ = some (.int .i64 x2)) (c3 : w.cell? ⟨bk, o + 3, none⟩ = some (.int .i64 x3)) (c4 : w.cell? ⟨bk, o + 4, none⟩ = some (.int .i64 x4)) (c5 : w.cell? ⟨bk, o + 5, none⟩ = some (.int .i64 x5)) (c6 : w.cell? ⟨bk, o + 6, none⟩ = some (.int .i64 x6)) (c7 : w.cell? ⟨bk, o + 7, none⟩ = some (.int .i64 x7)) (c8 : w.cell? ⟨bk, o + 8, none⟩ = some (.slice ab l.length cb)) (hrb : RowAt w ab l) (hl : l.length ≤ 1048576) :
    Calls Tryz.prog 78 #[.pointer (some ⟨q, 0, none⟩), .pointer (some ⟨bk, o, none⟩)] w fun e w' => e = .returned (.bool (okMg b d (idsP ps) ⟨x0, x1, x2, x3, x4, x5, x6, x7, l⟩)) ∧ Below w.heap.size w w' := by
  have HR : Hid (PeersAt w ap ps) := hr
  have RR : Hid (Ring b d (idsP ps)) := R
  have HRB : Hid (RowAt w ab l) := hrb
  have HOK : Hid (okMg b d (idsP ps) ⟨x0, x1, x2, x3, x4, x5, x6, x7, l⟩ = (Wire.gmB b d x0 x1 x2 x3 x4 x5 x6 x7 l && inB x0 1 3 && hasB (idsP ps) x2 && hasB (idsP ps) x3)) := rfl
  have CG : ∀ w1, Below w.heap.size w w1 → Calls Tryz.prog 136 #[.agg #[.int .i64 b, .int .i64 d], .agg #[.int .i64 x0, .int .i64 x1, .int .i64 x2, .int .i64 x3, .int .i64 x4, .int .i64 x5, .int .i64 x6, .int .i64 x7, .slice ab l.length cb]] w1 fun e w' => e = .returned (.bool (Wire.gmB b d x0 x1 x2 x3 x4 x5 x6 x7 l)) ∧ Below w1.heap.size w1 w' := fun w1 hb => Wire.GoodMsg_any b d x0 x1 x2 x3 x4 x5 x6 x7 ab cb l.length l w1 rfl (by unfold maxLen; omega) (HRB.out.keep hb)
  clear hr hrb R
  by_cases h1 : x0 < 1
  · have HV : Hid (okMg b d (idsP ps) ⟨x0, x1, x2, x3, x4, x5, x6, x7, l⟩ = false) := by rw [Hid, HOK.out, inB_no (n := x0) (lo := 1) (hi := 3) (fun h => by omega)]; simp
    have d1 : decide (x0 < 1) = true := decide_eq_true h1
    go_enter Tryz.func78, Tryz.ntmps78
    go_wp2
    have g0 : ∀ p : Kin w.heap.size w, p.v.cell? ⟨bk, o, none⟩ = some (.int .i64 x0) := kin_cell hbk c0
    have g1 : ∀ p : Kin w.heap.size w, p.v.cell? ⟨bk, o + 1, none⟩ = some (.int .i64 x1) := kin_cell hbk c1
    have g2 : ∀ p : Kin w.heap.size w, p.v.cell? ⟨bk, o + 2, none⟩ = some (.int .i64 x2) := kin_cell hbk c2
    have g3 : ∀ p : Kin w.heap.size w, p.v.cell? ⟨bk, o + 3, none⟩ = some (.int .i64 x3) := kin_cell hbk c3
    have g4 : ∀ p : Kin w.heap.size w, p.v.cell? ⟨bk, o + 4, none⟩ = some (.int .i64 x4) := kin_cell hbk c4
    have g5 : ∀ p : Kin w.heap.size w, p.v.cell? ⟨bk, o + 5, none⟩ = some (.int .i64 x5) := kin_cell hbk c5
    have g6 : ∀ p : Kin w.heap.size w, p.v.cell? ⟨bk, o + 6, none⟩ = some (.int .i64 x6) := kin_cell hbk c6
    have g7 : ∀ p : Kin w.heap.size w, p.v.cell? ⟨bk, o + 7, none⟩ = some (.int .i64 x7) := kin_cell hbk c7
    have g8 : ∀ p : Kin w.heap.size w, p.v.cell? ⟨bk, o + 8, none⟩ = some (.slice ab l.length cb) := kin_cell hbk c8
    have y0 : ∀ p : Kin w.heap.size w, p.v.cell? ⟨q, 0, none⟩ = some (.int .i64 b) := kin_cell hq k0
    have y1 : ∀ p : Kin w.heap.size w, p.v.cell? ⟨q, 1, none⟩ = some (.int .i64 d) := kin_cell hq k1
    refine region_kin w.heap.size (by kernel_rfl) (by kernel_rfl) (fun hne => ?_)
    repeat (go_big_quiet_step ((go_at_call 136; exact kin_of (Nat.le_refl _) (CG _ (Kin.bel _)))))
    refine wpQuiet_nil ?_
    intro xw hw'
    obtain ⟨⟨w1, hw1⟩, hw1'⟩ := hw'
    have hw1'' : w1 = xw := hw1'.symm
    subst hw1''
    clear g0 g1 g2 g3 g4 g5 g6 g7 g8 y0 y1 hne
    go_wp2
    go_ret
    exact ⟨ret_bool HV.out.symm, hw1⟩
  have d1 : decide (x0 < 1) = false := decide_eq_false h1
  by_cases h2 : x0 > 3
  · have HV : Hid (okMg b d (idsP ps) ⟨x0, x1, x2, x3, x4, x5, x6, x7, l⟩ = false) := by rw [Hid, HOK.out, inB_no (n := x0) (lo := 1) (hi := 3) (fun h => by omega)]; simp
    have d2 : decide (3 < x0) = true := decide_eq_true h2
    have d3 : decide (x0 > 3) = true := decide_eq_true h2
    clear h1 h2
    go_enter Tryz.func78, Tryz.ntmps78
    go_wp2
    have g0 : ∀ p : Kin w.heap.size w, p.v.cell? ⟨bk, o, none⟩ = some (.int .i64 x0) := kin_cell hbk c0
    have g1 : ∀ p : Kin w.heap.size w, p.v.cell? ⟨bk, o + 1, none⟩ = some (.int .i64 x1) := kin_cell hbk c1
    have g2 : ∀ p : Kin w.heap.size w, p.v.cell? ⟨bk, o + 2, none⟩ = some (.int .i64 x2) := kin_cell hbk c2
    have g3 : ∀ p : Kin w.heap.size w, p.v.cell? ⟨bk, o + 3, none⟩ = some (.int .i64 x3) := kin_cell hbk c3
    have g4 : ∀ p : Kin w.heap.size w, p.v.cell? ⟨bk, o + 4, none⟩ = some (.int .i64 x4) := kin_cell hbk c4
    have g5 : ∀ p : Kin w.heap.size w, p.v.cell? ⟨bk, o + 5, none⟩ = some (.int .i64 x5) := kin_cell hbk c5
    have g6 : ∀ p : Kin w.heap.size w, p.v.cell? ⟨bk, o + 6, none⟩ = some (.int .i64 x6) := kin_cell hbk c6
    have g7 : ∀ p : Kin w.heap.size w, p.v.cell? ⟨bk, o + 7, none⟩ = some (.int .i64 x7) := kin_cell hbk c7
    have g8 : ∀ p : Kin w.heap.size w, p.v.cell? ⟨bk, o + 8, none⟩ = some (.slice ab l.length cb) := kin_cell hbk c8
    have y0 : ∀ p : Kin w.heap.size w, p.v.cell? ⟨q, 0, none⟩ = some (.int .i64 b) := kin_cell hq k0
    have y1 : ∀ p : Kin w.heap.size w, p.v.cell? ⟨q, 1, none⟩ = some (.int .i64 d) := kin_cell hq k1
    refine region_kin w.heap.size (by kernel_rfl) (by kernel_rfl) (fun hne => ?_)
    repeat (go_big_quiet_step ((go_at_call 136; exact kin_of (Nat.le_refl _) (CG _ (Kin.bel _)))))
    refine wpQuiet_nil ?_
    intro xw hw'
    obtain ⟨⟨w1, hw1⟩, hw1'⟩ := hw'
    have hw1'' : w1 = xw := hw1'.symm
    subst hw1''
    clear g0 g1 g2 g3 g4 g5 g6 g7 g8 y0 y1 hne
    go_wp2
    go_ret
    exact ⟨ret_bool HV.out.symm, hw1⟩
  have d2 : decide (3 < x0) = false := decide_eq_false h2
  have d3 : decide (x0 > 3) = false := decide_eq_false h2
  have HI : Hid (inB x0 1 3 = true) := inB_yes (by omega) (by omega)
  cases hg : Wire.gmB b d x0 x1 x2 x3 x4 x5 x6 x7 l
  · have HV : Hid (okMg b d (idsP ps) ⟨x0, x1, x2, x3, x4, x5, x6, x7, l⟩ = false) := by rw [Hid, HOK.out, hg]; rfl
    rw [hg] at CG
    clear hg
    go_enter Tryz.func78, Tryz.ntmps78
    go_wp2
    have g0 : ∀ p : Kin w.heap.size w, p.v.cell? ⟨bk, o, none⟩ = some (.int .i64 x0) := kin_cell hbk c0
    have g1 : ∀ p : Kin w.heap.size w, p.v.cell? ⟨bk, o + 1, none⟩ = some (.int .i64 x1) := kin_cell hbk c1
    have g2 : ∀ p : Kin w.heap.size w, p.v.cell? ⟨bk, o + 2, none⟩ = some (.int .i64 x2) := kin_cell hbk c2
    have g3 : ∀ p : Kin w.heap.size w, p.v.cell? ⟨bk, o + 3, none⟩ = some (.int .i64 x3) := kin_cell hbk c3
    have g4 : ∀ p : Kin w.heap.size w, p.v.cell? ⟨bk, o + 4, none⟩ = some (.int .i64 x4) := kin_cell hbk c4
    have g5 : ∀ p : Kin w.heap.size w, p.v.cell? ⟨bk, o + 5, none⟩ = some (.int .i64 x5) := kin_cell hbk c5
    have g6 : ∀ p : Kin w.heap.size w, p.v.cell? ⟨bk, o + 6, none⟩ = some (.int .i64 x6) := kin_cell hbk c6
    have g7 : ∀ p : Kin w.heap.size w, p.v.cell? ⟨bk, o + 7, none⟩ = some (.int .i64 x7) := kin_cell hbk c7
    have g8 : ∀ p : Kin w.heap.size w, p.v.cell? ⟨bk, o + 8, none⟩ = some (.slice ab l.length cb) := kin_cell hbk c8
    have y0 : ∀ p : Kin w.heap.size w, p.v.cell? ⟨q, 0, none⟩ = some (.int .i64 b) := kin_cell hq k0
    have y1 : ∀ p : Kin w.heap.size w, p.v.cell? ⟨q, 1, none⟩ = some (.int .i64 d) := kin_cell hq k1
    refine region_kin w.heap.size (by kernel_rfl) (by kernel_rfl) (fun hne => ?_)
    repeat (go_big_quiet_step ((go_at_call 136; exact kin_of (Nat.le_refl _) (CG _ (Kin.bel _)))))
    refine wpQuiet_nil ?_
    intro xw hw'
    obtain ⟨⟨w1, hw1⟩, hw1'⟩ := hw'
    have hw1'' : w1 = xw := hw1'.symm
    subst hw1''
    clear g0 g1 g2 g3 g4 g5 g6 g7 g8 y0 y1 hne
    go_wp2
    go_ret
    exact ⟨ret_bool HV.out.symm, hw1⟩
  rw [hg] at CG
  have HG : Hid (Wire.gmB b d x0 x1 x2 x3 x4 x5 x6 x7 l = true) := hg
  clear hg
  go_enter Tryz.func78, Tryz.ntmps78
  go_wp2
  have g0 : ∀ p : Kin w.heap.size w, p.v.cell? ⟨bk, o, none⟩ = some (.int .i64 x0) := kin_cell hbk c0
  have g1 : ∀ p : Kin w.heap.size w, p.v.cell? ⟨bk, o + 1, none⟩ = some (.int .i64 x1) := kin_cell hbk c1
  have g2 : ∀ p : Kin w.heap.size w, p.v.cell? ⟨bk, o + 2, none⟩ = some (.int .i64 x2) := kin_cell hbk c2
  have g3 : ∀ p : Kin w.heap.size w, p.v.cell? ⟨bk, o + 3, none⟩ = some (.int .i64 x3) := kin_cell hbk c3
  have g4 : ∀ p : Kin w.heap.size w, p.v.cell? ⟨bk, o + 4, none⟩ = some (.int .i64 x4) := kin_cell hbk c4
  have g5 : ∀ p : Kin w.heap.size w, p.v.cell? ⟨bk, o + 5, none⟩ = some (.int .i64 x5) := kin_cell hbk c5
  have g6 : ∀ p : Kin w.heap.size w, p.v.cell? ⟨bk, o + 6, none⟩ = some (.int .i64 x6) := kin_cell hbk c6
  have g7 : ∀ p : Kin w.heap.size w, p.v.cell? ⟨bk, o + 7, none⟩ = some (.int .i64 x7) := kin_cell hbk c7
  have g8 : ∀ p : Kin w.heap.size w, p.v.cell? ⟨bk, o + 8, none⟩ = some (.slice ab l.length cb) := kin_cell hbk c8
  have y0 : ∀ p : Kin w.heap.size w, p.v.cell? ⟨q, 0, none⟩ = some (.int .i64 b) := kin_cell hq k0
  have y1 : ∀ p : Kin w.heap.size w, p.v.cell? ⟨q, 1, none⟩ = some (.int .i64 d) := kin_cell hq k1
  refine region_kin w.heap.size (by kernel_rfl) (by kernel_rfl) (fun hne => ?_)
  repeat (go_big_quiet_step ((go_at_call 136; exact kin_of (Nat.le_refl _) (CG _ (Kin.bel _)))))
  refine wpQuiet_nil ?_
  intro xw hw'
  obtain ⟨⟨w1, hw1⟩, hw1'⟩ := hw'
  have hw1'' : w1 = xw := hw1'.symm
  subst hw1''
  clear g0 g1 g2 g3 g4 g5 g6 g7 g8 y0 y1 hne
  have n2 := (hw1.cell (p := ⟨q, 2, none⟩) hq).trans k2
  have n0 := (hw1.cell (p := ⟨bk, o + 2, none⟩) hbk).trans c2
  have n1 := (hw1.cell (p := ⟨bk, o + 3, none⟩) hbk).trans c3
  have hq1 : q < w1.heap.size := Nat.lt_of_lt_of_le hq hw1.size
  have hbk1 : bk < w1.heap.size := Nat.lt_of_lt_of_le hbk hw1.size
  clear CG
  go_wp2_with fail
  refine (isId_any b d q ap cp ps x2 w1 RR.out hq1 n2 (HR.out.keep hw1)).mono ?_
  rintro e w2 ⟨rfl, hw2⟩
  cases hi2 : hasB (idsP ps) x2
  · have HV : Hid (okMg b d (idsP ps) ⟨x0, x1, x2, x3, x4, x5, x6, x7, l⟩ = false) := by rw [Hid, HOK.out, hi2]; simp
    clear hi2
    go_wp2
    go_ret
    exact ⟨ret_bool HV.out.symm, belt hw1 hw2⟩
  have HV : Hid (okMg b d (idsP ps) ⟨x0, x1, x2, x3, x4, x5, x6, x7, l⟩ = hasB (idsP ps) x3) := by rw [Hid, HOK.out, hi2, HI.out, HG.out]; rfl
  have n3 := (hw2.cell (p := ⟨q, 2, none⟩) hq1).trans n2
  have n4 := (hw2.cell (p := ⟨bk, o + 3, none⟩) hbk1).trans n1
  have hbk2 : bk < w2.heap.size := Nat.lt_of_lt_of_le hbk1 hw2.size
  clear hi2 n2 n1
  go_wp2_with fail
  refine (isId_any b d q ap cp ps x3 w2 RR.out (Nat.lt_of_lt_of_le hq1 hw2.size) n3 ((HR.out.keep hw1).keep hw2)).mono ?_
  rintro e w3 ⟨rfl, hw3⟩
  go_wp2
  go_ret
  exact ⟨ret_bool HV.out.symm, belt (belt hw1 hw2) hw3⟩
theorem rowAt_take {w : World} {a : Option Addr} {l : List Int} (h : RowAt w a l) (i : Nat) : RowAt w a (l.take i) := by
  rcases h with rfl | ⟨bk, off, ha, hl, hc⟩
  · exact .inl (by simp)
  · refine .inr ⟨bk, off, ha, hl, fun j hj => ?_⟩
    have hj2 : j < l.length := by rw [List.length_take] at hj; omega
    have hj3 : j < i := by rw [List.length_take] at hj; omega
    rw [hc j hj2, List.getD_eq_getElem?_getD, List.getD_eq_getElem?_getD, List.getElem?_take_of_lt hj3]
set_option maxHeartbeats 3200000 in
theorem areApart_any (ag al : Option Addr) (cg cl : Nat) (gs L : List Int) (w : World) (hm : gs.length ≤ maxLen) (hl : L.length ≤ 2097152) (hcl : L.length ≤ cl) (hg : RowAt w ag gs) (hr : RowAt w al L) (hmem : ∀ x, memI gs x = hasB gs x) :
    Calls Tryz.prog 79 #[.slice ag gs.length cg, .slice al L.length cl] w fun e w' => e = .returned (.bool (appB gs L)) ∧ w' = w := by
  have HG : Hid (RowAt w ag gs) := hg
  have HR : Hid (RowAt w al L) := hr
  have HM : Hid (∀ x, memI gs x = hasB gs x) := hmem
  clear hg hr hmem
  go_enter Tryz.func79, Tryz.ntmps79
  go_wp2_with fail
  go_loop [9] (fun v => ∃ k : Nat, k ≤ L.length ∧ v = .int .i64 k ∧ Hid (∀ i, i < k → hasB gs (L.getD i 0) = true ∧ hasB (L.take i) (L.getD i 0) = false)) (fun v => L.length - (intOf v).toNat)
  case atStart => exact ⟨0, Nat.zero_le _, rfl, fun i hi => by omega⟩
  case round =>
    obtain ⟨k, hk, rfl, HS⟩ := hrel
    by_cases hlt : k < L.length
    · obtain ⟨bk, off, rfl⟩ := rowAt_form HR.out (by omega)
      have hc := (rowAt_cell HR.out (by omega)).2 k hlt
      have HNO : Hid (¬ (hasB gs (L.getD k 0) = true ∧ hasB (L.take k) (L.getD k 0) = false) → appB gs L = false) := fun h => decide_eq_false (fun hh => h (hh k hlt))
      have HY : Hid ((hasB gs (L.getD k 0) = true ∧ hasB (L.take k) (L.getD k 0) = false) → ∀ i, i < k + 1 → hasB gs (L.getD i 0) = true ∧ hasB (L.take i) (L.getD i 0) = false) := fun h i hi => by
        by_cases he : i = k
        · subst he; exact h
        · exact HS.out i (by omega)
      obtain ⟨T, hT⟩ : ∃ T, T = L.take k := ⟨_, rfl⟩
      have HRT : Hid (RowAt w (some ⟨bk, off, none⟩) T) := by rw [hT]; exact rowAt_take HR.out k
      have HTL : Hid (T.length = k) := by unfold Hid; rw [hT, List.length_take]; omega
      rw [← hT] at HNO HY
      clear hT HS
      generalize L.getD k 0 = x at hc HNO HY
      have CM := isMember_any ag cg gs x w hm HG.out
      rw [HM.out x] at CM
      go_wp2_with fail
      refine CM.mono ?_
      rintro e w1 ⟨rfl, hx⟩
      have hx' := hx.symm
      subst hx'
      clear hx CM
      cases h1 : hasB gs x
      · have HV : Hid (appB gs L = false) := HNO.out (fun h => by rw [h1] at h; cases h.1)
        clear h1 HNO HY
        go_wp2
        go_ret
        exact ⟨ret_bool HV.out.symm, rfl⟩
      go_wp2_with fail
      refine (slContains_any (some ⟨bk, off, none⟩) cl k T x w HTL.out (by unfold maxLen; omega) HRT.out).mono ?_
      rintro e w2 ⟨rfl, hx⟩
      have hx' := hx.symm
      subst hx'
      clear hx
      cases h2 : hasB T x
      · have HS2 := HY.out ⟨h1, h2⟩
        have HS2 : Hid (∀ i, i < k + 1 → hasB gs (L.getD i 0) = true ∧ hasB (L.take i) (L.getD i 0) = false) := HS2
        clear h1 h2 HNO HY
        go_wp2
        go_round
        case rel => exact ⟨k + 1, by omega, by go_num, HS2⟩
        case measure => simp [intOf]; omega
      · have HV : Hid (appB gs L = false) := HNO.out (fun h => by rw [h2] at h; cases h.2)
        clear h1 h2 HNO HY
        go_wp2
        go_ret
        exact ⟨ret_bool HV.out.symm, rfl⟩
    · have HV : Hid (appB gs L = true) := decide_eq_true (fun i hi => HS.out i (by omega))
      go_wp2
      go_ret
      exact ⟨ret_bool HV.out.symm, rfl⟩
set_option maxRecDepth 100000 in
set_option maxHeartbeats 3200000 in
theorem looksInPlaces_any (q : Nat) (am ar : Option Addr) (cm cr : Nat) (ms : List Mg) (rs : List Rp) (w : World) (hm : ms.length ≤ 1048576) (hm2 : rs.length ≤ 1048576) (hq : q < w.heap.size) (c4 : w.cell? ⟨q, 4, none⟩ = some (.slice am ms.length cm)) (c6 : w.cell? ⟨q, 6, none⟩ = some (.slice ar rs.length cr)) (hr : LsAt tyMg w am ms) (hr2 : LsAt tyRp w ar rs) :
    Calls Tryz.prog 72 #[.pointer (some ⟨q, 0, none⟩)] w fun e w' => ∃ v, e = .returned v ∧ w'.ownsRow w.heap.size 3 1 v (lkL ms rs).length ((lkL ms rs).map (Value.int .i64)) ∧ Below w.heap.size w w' := by
  obtain ⟨i0, hi, hz0, hz1, hz2⟩ := info_parts'
  have HR2 : Hid (LsAt tyRp w ar rs) := hr2
  have HR : Hid (LsAt tyMg w am ms) := hr
  clear hr hr2
  go_enter Tryz.func72, Tryz.ntmps72
  go_wp2_with fail
  refine (looksInBag_any q am cm ms w hm hq c4 HR.out).mono ?_
  rintro e w1 ⟨rfl, ow⟩
  have HB1 : Hid (Below w.heap.size w w1) := ow.bel
  have HO1 : Hid (w1.ownsRow w.heap.size 3 1 (.slice (some ⟨w.heap.size, 0, none⟩) ms.length ms.length) ((lkL ms rs).take (ms.length + 0)).length (((lkL ms rs).take (ms.length + 0)).map (Value.int .i64))) := by
    have e0 : (lkL ms rs).take (ms.length + 0) = lkM ms := by
      unfold lkL
      rw [Nat.add_zero, List.take_append_of_le_length (by rw [lkM_len]; exact Nat.le_refl _), List.take_of_length_le (by rw [lkM_len]; exact Nat.le_refl _)]
    rw [e0]
    exact ownZ_row ow (lkM_len ms) hm
  have d6 := (HB1.out.cell (p := ⟨q, 6, none⟩) hq).trans c6
  have hq1 : q < w1.heap.size := Nat.lt_of_lt_of_le hq HB1.out.size
  clear ow
  go_wp2_with fail
  go_loopw [3, 12] (fun vs vi w' => ∃ (vo : Value) (j : Nat), vs = vo ∧ j ≤ rs.length ∧ vi = .int .i64 j ∧ Hid (w'.ownsRow w.heap.size 3 1 vo ((lkL ms rs).take (ms.length + j)).length (((lkL ms rs).take (ms.length + j)).map (Value.int .i64))) ∧ Hid (Below w.heap.size w w')) (fun _ vi _ => rs.length - (intOf vi).toNat)
  case atStart => exact ⟨_, 0, rfl, Nat.zero_le _, rfl, HO1, HB1⟩
  case round =>
    clear HO1 HB1 d6 hq1
    obtain ⟨vo, j, hvo, hj, rfl, HO, HB⟩ := hrel
    have hvo := hvo.symm
    subst hvo
    obtain ⟨T, hT⟩ : ∃ T, T = (lkL ms rs).take (ms.length + j) := ⟨_, rfl⟩
    rw [← hT] at HO
    have HTE : Hid (T = (lkL ms rs).take (ms.length + j)) := hT
    clear hT
    have d6 := (HB.out.cell (p := ⟨q, 6, none⟩) hq).trans c6
    have hq1 : q < wr.heap.size := Nat.lt_of_lt_of_le hq HB.out.size
    have hle : T.length ≤ 2097152 := by rw [HTE.out, List.length_take, lkL_len]; omega
    by_cases hlt : j < rs.length
    · obtain ⟨bk, off, rfl⟩ := lsAt_form HR2.out (by show 0 < rs.length; omega)
      obtain ⟨hb1, hc⟩ := rsAt_cell (HR2.out.keep HB.out) hlt
      have e0 := hc.r5.1
      clear hc
      have HX1 : Hid ((lkL ms rs).getD (ms.length + j) 0 = (rs.getD j rp0).x0) := lkL_r hlt
      have HTK : Hid ((lkL ms rs).take (ms.length + (j + 1)) = T ++ [(lkL ms rs).getD (ms.length + j) 0]) := by rw [HTE.out]; exact take_snoc (k := ms.length + j) (by rw [lkL_len]; omega)
      rw [HX1.out] at HTK
      generalize (rs.getD j rp0).x0 = x0 at e0 HTK
      go_wp2_with (at_builtin; refine wpList_append_own _ rfl (.tmp 15) (.tmp 24) 30 rfl w.heap.size 3 i0 (.int .i64 0) 1 8 Tryz.underlying30 hi hz0 hz1 hz2 rfl (by decide) _ _ _ rfl (HO.out.alloc _) ⟨wr.heap.size, 0, none⟩ 1 1 [.int .i64 x0] rfl rfl (cell_one_new _ _ _) (by simp [Value.oneCell']) (by unfold maxLen; omega) (by omega) (alloc_size HB.out) ?_; intro v5 w5 hown5 hgrow5 _; have HB5 : Hid (Below w.heap.size w w5) := grown_bel (HB.out.alloc HB.out.size _) hgrow5 (alloc_size HB.out) (fun k hk => (HO.out.lt k hk).1); have HO5 : Hid (w5.ownsRow w.heap.size 3 1 v5 ((lkL ms rs).take (ms.length + (j + 1))).length (((lkL ms rs).take (ms.length + (j + 1))).map (Value.int .i64))) := own_snoc HTK.out hown5; clear hown5 hgrow5)
      go_roundw
      case rel => exact ⟨_, j + 1, rfl, by omega, by go_num, HO5, HB5⟩
      case measure => simp [intOf]; omega
    · have hje : j = rs.length := by omega
      subst hje
      have HT2 : Hid (T = lkL ms rs) := by rw [Hid, HTE.out]; exact List.take_of_length_le (by rw [lkL_len]; exact Nat.le_refl _)
      have HO2 : Hid (wr.ownsRow w.heap.size 3 1 vo (lkL ms rs).length ((lkL ms rs).map (Value.int .i64))) := by rw [← HT2.out]; exact HO
      go_wp2
      go_ret
      exact ⟨_, rfl, HO2.out, HB.out⟩
end Go.Proofs.YtdceimnapbblnaaGreat
namespace Go.Proofs.YtdceimnapbblnaaGreat
open Go.RowKit Go.Deep
set_option linter.unusedVariables false
set_option linter.unusedSimpArgs false
theorem memI_begun {gs : List Int} (h4 : gs.length ≤ 12) (h5 : risB gs 0 255 = true) : ∀ x, memI gs x = hasB gs x := by
  intro x
  by_cases h0 : gs.length = 0
  · have : gs = [] := List.length_eq_zero_iff.1 h0
    subst this
    have h1 : memI [] x = false := decide_eq_false (fun hh => by simp at hh)
    have h2 : hasB [] x = false := decide_eq_false (fun ⟨i, hi, _⟩ => by simp at hi)
    rw [h1, h2]
  · have h := of_decide_eq_true h5
    have e8 : sz 8 = 256 := by decide
    exact mem_has (b := 8) (d := 1) ⟨by decide, by omega, by omega, fun i hi => ⟨(h i hi).1.1, by rw [e8]; have := (h i hi).1.2; omega⟩, ris_all (fun i hi h0 => (h i hi).2 h0)⟩ x
theorem goodN_end {b d ttl : Int} {ps : List Pr} {ms : List Mg} {gs : List Int} {rs : List Rp} (h1 : goodP b d ps = true) (h2 : inB ttl 0 1000 = true) (h3 : (decide (gs.length ≤ 12) && risB gs 0 255) = true) (h4 : ms.length + rs.length ≤ gs.length) (h6 : ∀ i, i < ms.length → okMg b d (idsP ps) (ms.getD i mg0) = true) : goodN b d ttl ps ms gs rs = appB gs (lkL ms rs) := by
  have h5 : decide (gs.length ≤ 12) = true ∧ risB gs 0 255 = true := by rwa [Bool.and_eq_true] at h3
  have h7 := of_decide_eq_true h5.1
  unfold goodN
  rw [h1, h2, h5.1, h5.2, decide_eq_true (show ms.length ≤ 12 by omega), decide_eq_true h6]; rfl
set_option maxRecDepth 100000 in
set_option maxHeartbeats 6400000 in
theorem GoodNet_any (b d ttl : Int) (ap am ag ar : Option Addr) (cp cm cg cr : Nat) (ps : List Pr) (ms : List Mg) (gs : List Int) (rs : List Rp) (w : World) (hb : BigN ps ms gs rs) (hr : NetAt w ap am ag ar ps ms gs rs) :
    Calls Tryz.prog 18 #[.agg #[.int .i64 b, .int .i64 d, .slice ap ps.length cp, .int .i64 ttl, .slice am ms.length cm, .slice ag gs.length cg, .slice ar rs.length cr]] w fun e w' => e = .returned (.bool (goodN b d ttl ps ms gs rs)) ∧ Below w.heap.size w w' := by
  have HBG : Hid (BigN ps ms gs rs) := hb
  have HR : Hid (NetAt w ap am ag ar ps ms gs rs) := hr
  have hpl : ps.length ≤ 1048576 := by have := hb.p; omega
  have hml : ms.length ≤ 1048576 := by have := hb.m; omega
  have hgl : gs.length ≤ 1048576 := hb.g
  have hrl : rs.length ≤ 1048576 := hb.r
  clear hr hb
  go_enter Tryz.func18, Tryz.ntmps18
  go_wp2_with fail
  refine (GoodPeers_any b d ap cp ps _ hpl (HR.out.keep (belA _ _)).p).mono ?_
  rintro e w2 ⟨rfl, HW⟩
  have BX2 : Hid (B1 w w2 #[.int .i64 b, .int .i64 d, .slice ap ps.length cp, .int .i64 ttl, .slice am ms.length cm, .slice ag gs.length cg, .slice ar rs.length cr] 36) := (b10 w _ _).keep HW
  clear HW
  obtain ⟨q0, q1, q2, q3, q4, q5, q6⟩ := Wire.Bk.m7 BX2.out.ka
  have qlt := BX2.out.ka.lt
  cases hG : goodP b d ps
  · have HV : Hid (goodN b d ttl ps ms gs rs = false) := by unfold Hid goodN; rw [hG]; rfl
    clear hG
    go_wp2
    go_ret
    exact ⟨ret_bool HV.out.symm, BX2.out.bel⟩
  have HG : Hid (goodP b d ps = true) := hG
  have RR : Hid (Ring b d (idsP ps)) := (goodP_true hG).1
  clear hG
  go_wp2_with fail
  refine (fwd_any ttl _).mono ?_
  rintro e wx ⟨rfl, hx⟩
  have hx' := hx.symm
  subst hx'
  clear hx
  cases hT : inB ttl 0 1000
  · have HV : Hid (goodN b d ttl ps ms gs rs = false) := by unfold Hid goodN; rw [hT]; simp
    clear hT
    go_wp2
    go_ret
    exact ⟨ret_bool HV.out.symm, BX2.out.bel⟩
  have HT : Hid (inB ttl 0 1000 = true) := hT
  clear hT
  go_wp2_with fail
  refine (areBegun_any ag cg gs _ (by unfold maxLen; omega) (HR.out.keep BX2.out.bel).g).mono ?_
  rintro e wx ⟨rfl, hx⟩
  have hx' := hx.symm
  subst hx'
  clear hx
  cases hE : (decide (gs.length ≤ 12) && risB gs 0 255)
  · have HV : Hid (goodN b d ttl ps ms gs rs = false) := by
      unfold Hid goodN
      cases h1 : decide (gs.length ≤ 12)
      · simp
      · rw [h1] at hE; simp at hE; rw [hE]; simp
    clear hE
    go_wp2
    go_ret
    exact ⟨ret_bool HV.out.symm, BX2.out.bel⟩
  have HE : Hid ((decide (gs.length ≤ 12) && risB gs 0 255) = true) := hE
  have HE2 : Hid (gs.length ≤ 12 ∧ risB gs 0 255 = true) := by rw [Bool.and_eq_true, decide_eq_true_iff] at hE; exact hE
  have HR2 : Hid (NetAt w2 ap am ag ar ps ms gs rs) := HR.out.keep BX2.out.bel
  clear hE HR
  have hg12 : gs.length ≤ 12 := HE2.out.1
  by_cases hL : ms.length + rs.length ≤ gs.length
  case neg =>
    have HV : Hid (goodN b d ttl ps ms gs rs = false) := by
      unfold Hid
      cases h : goodN b d ttl ps ms gs rs
      · rfl
      · have := goodN_len h; omega
    have hL2 : (gs.length : Int) < (ms.length : Int) + (rs.length : Int) := by omega
    clear hL
    go_wp2
    go_ret
    exact ⟨ret_bool HV.out.symm, BX2.out.bel⟩
  go_wp2_with fail
  clear q0 q1 q2 q3 q4 q5 q6
  go_loopw [34] (fun vi wr => ∃ (k : Nat), k ≤ ms.length ∧ vi = .int .i64 k ∧ Hid (Below w2.heap.size w2 wr) ∧ Hid (∀ i, i < k → okMg b d (idsP ps) (ms.getD i mg0) = true)) (fun vi _ => ms.length - (intOf vi).toNat)
  case atStart => exact ⟨0, Nat.zero_le _, rfl, Below.refl _ _, fun i hi => by omega⟩
  case round =>
    obtain ⟨k, hk, rfl, HB, HOK⟩ := hrel
    have BX : Hid (B1 w wr #[.int .i64 b, .int .i64 d, .slice ap ps.length cp, .int .i64 ttl, .slice am ms.length cm, .slice ag gs.length cg, .slice ar rs.length cr] 36) := BX2.out.keep HB.out
    have HRr : Hid (NetAt wr ap am ag ar ps ms gs rs) := HR2.out.keep HB.out
    obtain ⟨q0, q1, q2, q3, q4, q5, q6⟩ := Wire.Bk.m7 BX.out.ka
    have qlt1 := BX.out.ka.lt
    by_cases hlt : k < ms.length
    · obtain ⟨bk, off, rfl⟩ := lsAt_form HRr.out.m (by show 0 < ms.length; omega)
      obtain ⟨hb1, ab, cb, hc, hrb, hn, hcb⟩ := msAt_cell HRr.out.m hlt
      obtain ⟨c0, c1, c2, c3, c4, c5, c6, c7, c8⟩ := hc.m9
      have HNO : Hid (okMg b d (idsP ps) (ms.getD k mg0) = false → goodN b d ttl ps ms gs rs = false) := goodN_m hlt
      have HY : Hid (okMg b d (idsP ps) (ms.getD k mg0) = true → ∀ i, i < k + 1 → okMg b d (idsP ps) (ms.getD i mg0) = true) := fun h i hi => by
        by_cases he : i = k
        · subst he; exact h
        · exact HOK.out i (by omega)
      have HML : Hid ((ms.getD k mg0).l.length ≤ 1048576) := by have := lsum_mem hlt; have := HBG.out.m; unfold Hid; omega
      clear hc hcb hn
      generalize ms.getD k mg0 = p at c0 c1 c2 c3 c4 c5 c6 c7 c8 hrb HML HNO HY
      obtain ⟨x0, x1, x2, x3, x4, x5, x6, x7, l⟩ := p
      have HRB : Hid (RowAt wr ab l) := hrb
      clear hrb
      have CW := isOnWay_any b d w.heap.size ap cp ps bk (off + k * 9) x0 x1 x2 x3 x4 x5 x6 x7 ab cb l wr RR.out qlt1 hb1 q0 q1 q2 HRr.out.p c0 c1 c2 c3 c4 c5 c6 c7 c8 HRB.out HML.out
      go_wp2_with fail
      refine CW.mono ?_
      rintro e w3 ⟨rfl, HW⟩
      cases h1 : okMg b d (idsP ps) ⟨x0, x1, x2, x3, x4, x5, x6, x7, l⟩
      · have HV : Hid (goodN b d ttl ps ms gs rs = false) := HNO.out h1
        clear h1 HNO HY CW
        go_wp2
        go_ret
        exact ⟨ret_bool HV.out.symm, belt BX.out.bel HW⟩
      have HOK2 := HY.out h1
      have HOK2 : Hid (∀ i, i < k + 1 → okMg b d (idsP ps) (ms.getD i mg0) = true) := HOK2
      have HB3 : Hid (Below w2.heap.size w2 w3) := belt HB.out HW
      clear h1 HNO HY HW CW HOK
      go_wp2_with fail
      go_roundw
      case rel => exact ⟨k + 1, by omega, by go_num, HB3, HOK2⟩
      case measure => simp [intOf]; omega
    · have hke : k = ms.length := by omega
      subst hke
      have HV : Hid (goodN b d ttl ps ms gs rs = appB gs (lkL ms rs)) := goodN_end HG.out HT.out HE.out hL HOK.out
      have HMB : Hid (∀ x, memI gs x = hasB gs x) := memI_begun HE2.out.1 HE2.out.2
      clear q0 q1 q2 q3 q4 q5 q6
      go_wp2_with fail
      have BXa : B1 w wr.drew #[.int .i64 b, .int .i64 d, .slice ap ps.length cp, .int .i64 ttl, .slice am ms.length cm, .slice ag gs.length cg, .slice ar rs.length cr] 36 := BX.out.keep ((Below.refl _ _).drew)
      have HRa : NetAt wr.drew ap am ag ar ps ms gs rs := HRr.out.keep ((Below.refl _ _).drew)
      go_region_held (fun w' => w'.cell? ⟨w.heap.size, 5, none⟩ = some (.slice ag gs.length cg)) (with_reducible (first | exact (Wire.Bk.m7 BXa.ka).2.2.2.2.2.1 | exact (Wire.Bk.m7 BXb.ka).2.2.2.2.2.1 | exact (Wire.Bk.m7 BXc.ka).2.2.2.2.2.1)) (first
        | (go_at_call 72; refine (looksInPlaces_any w.heap.size am ar cm cr ms rs _ hml hrl BXa.ka.lt (Wire.Bk.m7 BXa.ka).2.2.2.2.1 (Wire.Bk.m7 BXa.ka).2.2.2.2.2.2 HRa.m HRa.r).mono ?_; rintro e wd ⟨vL, rfl, hown, hwd⟩; obtain ⟨aL, cL, rfl, hcL, hrow⟩ := own_rowAt hown; have BXb : B1 w wd #[.int .i64 b, .int .i64 d, .slice ap ps.length cp, .int .i64 ttl, .slice am ms.length cm, .slice ag gs.length cg, .slice ar rs.length cr] 36 := BXa.keep hwd; have HRb : NetAt wd ap am ag ar ps ms gs rs := HRa.keep hwd)
        | (go_at_call 79; refine (areApart_any ag aL cg cL gs (lkL ms rs) _ (by unfold maxLen; omega) (by rw [lkL_len]; omega) hcL HRb.g hrow HMB.out).mono ?_; rintro e we ⟨rfl, he⟩; have BXc : B1 w we #[.int .i64 b, .int .i64 d, .slice ap ps.length cp, .int .i64 ttl, .slice am ms.length cm, .slice ag gs.length cg, .slice ar rs.length cr] 36 := by rw [he]; exact BXb))
      clear hown
      go_wp2
      go_ret
      exact ⟨ret_bool HV.out.symm, BXb.bel⟩
end Go.Proofs.YtdceimnapbblnaaGreat
namespace Go.Proofs.YtdceimnapbblnaaGreat
open Go.RowKit
set_option linter.unusedVariables false
theorem GoodNet_own (b d ttl : Int) (ap am ag ar : Option Addr) (cp cm cg cr : Nat) (ps : List Pr) (ms : List Mg) (gs : List Int) (rs : List Rp) (w : World) (hb : BigN ps ms gs rs) (hr : NetAt w ap am ag ar ps ms gs rs) :
    Calls Tryz.prog 18 #[.agg #[.int .i64 b, .int .i64 d, .slice ap ps.length cp, .int .i64 ttl, .slice am ms.length cm, .slice ag gs.length cg, .slice ar rs.length cr]] w fun e w' => e = .returned (.bool (goodN b d ttl ps ms gs rs)) ∧ Below w.heap.size w w' := GoodNet_any b d ttl ap am ag ar cp cm cg cr ps ms gs rs w hb hr
theorem lGoodNet_own (b d ttl : Int) (ap am ag ar : Option Addr) (cp cm cg cr : Nat) (ps : List Pr) (ms : List Mg) (gs : List Int) (rs : List Rp) (w : World) (hb : BigN ps ms gs rs) (hr : NetAt w ap am ag ar ps ms gs rs) :
    Calls Tryz.prog 25 #[.agg #[.int .i64 b, .int .i64 d, .slice ap ps.length cp, .int .i64 ttl, .slice am ms.length cm, .slice ag gs.length cg, .slice ar rs.length cr]] w fun e w' => e = .returned (.bool (goodN b d ttl ps ms gs rs)) ∧ Below w.heap.size w w' := by
  go_enter Tryz.func25, Tryz.ntmps25
  go_wp2_with fail
  refine (lgoodN_any b d ttl ap am ag ar cp cm cg cr ps ms gs rs _ hb (hr.keep (belA _ _))).mono ?_
  rintro e w1 ⟨rfl, HW⟩
  go_wp2
  go_ret
  exact ⟨rfl, belt (belA _ _) HW⟩
end Go.Proofs.YtdceimnapbblnaaGreat
