/- LostLooks, the program and the specification; the specification's OpenLooks. The program's pointers by digits. The program's ideal peers. The program's IdealPeers. The program's copies: of a list, of peers. The program's copy of peers; the mathematics of a pointer that is set. NewNet, the program and the specification. Lists of messages and of replies laid by append: what is owned then. A row without one of its elements: owned as it was; the last cells cleared. A net copied whole by the program: its first statement. -/
import Derived.Laws.CopyOwn
import Derived.Deep.Slices
import Derived.Deep.DeepCutAuto
import Derived.Test.YtdceimnapbblnaaGreatZ0
import Derived.Test.YtdceimnapbblnaaGreatZ1
import Derived.Test.YtdceimnapbblnaaGreatZ2
import Derived.Test.YtdceimnapbblnaaGreatZ3
import Derived.Test.YtdceimnapbblnaaGreatZ4
import Derived.Test.YtdceimnapbblnaaGreatZ5
namespace Go.Proofs.YtdceimnapbblnaaGreat
open Go.RowKit Go.Deep
set_option linter.unusedVariables false
set_option linter.unusedSimpArgs false
theorem ret_sb {v : Value} {g g' : Bool} (h : g = g') : Ending.returned (.tuple #[v, .bool g]) = Ending.returned (.tuple #[v, .bool g']) := by rw [h]
set_option maxRecDepth 100000 in
set_option maxHeartbeats 6400000 in
theorem LostLooks_own (b d ttl : Int) (ap am ag ar : Option Addr) (cp cm cg cr : Nat) (ps : List Pr) (ms : List Mg) (gs : List Int) (rs : List Rp) (w : World) (hb : BigN ps ms gs rs) (hr : NetAt w ap am ag ar ps ms gs rs) :
    Calls Tryz.prog 16 #[.agg #[.int .i64 b, .int .i64 d, .slice ap ps.length cp, .int .i64 ttl, .slice am ms.length cm, .slice ag gs.length cg, .slice ar rs.length cr]] w fun e w' => ∃ a n c, e = .returned (.tuple #[.slice a n c, .bool (goodN b d ttl ps ms gs rs)]) ∧ (lostL b d ttl ps ms gs rs).length = n ∧ OwnLs w.heap.size w'.heap.size w' a n (lostL b d ttl ps ms gs rs) ∧ Below w.heap.size w w' := by
  obtain ⟨i0, hi, hz0, hz1, hz2⟩ := info_parts'
  have HR : Hid (NetAt w ap am ag ar ps ms gs rs) := hr
  have hml : ms.length ≤ 1048576 := by have := hb.m; omega
  have hgl : gs.length ≤ 1048576 := hb.g
  have hrl : rs.length ≤ 1048576 := hb.r
  have CG := GoodNet_own b d ttl ap am ag ar cp cm cg cr ps ms gs rs _ hb (hr.keep (belA w (.cells #[.int .i64 b, .int .i64 d, .slice ap ps.length cp, .int .i64 ttl, .slice am ms.length cm, .slice ag gs.length cg, .slice ar rs.length cr] 36)))
  clear hr hb
  go_enter Tryz.func16, Tryz.ntmps16
  go_wp2_with fail
  refine CG.mono ?_
  rintro e w1 ⟨rfl, HW⟩
  have BX1 : Hid (B1 w w1 #[.int .i64 b, .int .i64 d, .slice ap ps.length cp, .int .i64 ttl, .slice am ms.length cm, .slice ag gs.length cg, .slice ar rs.length cr] 36) := (b10 w _ _).keep HW
  clear HW CG
  cases hG : goodN b d ttl ps ms gs rs
  · have HV : Hid (lostL b d ttl ps ms gs rs = []) := by unfold Hid lostL; rw [hG]; rfl
    have HGG : Hid (goodN b d ttl ps ms gs rs = false) := hG
    clear hG
    go_wp2
    go_ret2
    exact ⟨none, 0, 0, ret_sb HGG.out.symm, by rw [HV.out]; rfl, by rw [HV.out]; exact ownLs_nil _ _ _ _, BX1.out.bel⟩
  have HV : Hid (lostL b d ttl ps ms gs rs = gs.filter (lostP (lkL ms rs))) := by unfold Hid lostL; rw [if_pos hG]
  have HGG : Hid (goodN b d ttl ps ms gs rs = true) := hG
  clear hG
  obtain ⟨q0, q1, q2, q3, q4, q5, q6⟩ := Wire.Bk.m7 BX1.out.ka
  have qlt := BX1.out.ka.lt
  go_wp2_with fail
  refine (looksInPlaces_any w.heap.size am ar cm cr ms rs _ hml hrl qlt q4 q6 (HR.out.keep BX1.out.bel).m (HR.out.keep BX1.out.bel).r).mono ?_
  rintro e w2 ⟨vL, rfl, hown, HW⟩
  obtain ⟨aL, cL, rfl, hcL, hrow⟩ := own_rowAt hown
  have BX2 : Hid (B1 w w2 #[.int .i64 b, .int .i64 d, .slice ap ps.length cp, .int .i64 ttl, .slice am ms.length cm, .slice ag gs.length cg, .slice ar rs.length cr] 36) := BX1.out.keep HW
  have HL2 : Hid (RowAt w2 aL (lkL ms rs)) := hrow
  have HGS : Hid (RowAt w2 ag gs) := (HR.out.keep BX2.out.bel).g
  clear HW hrow hown BX1 q0 q1 q2 q3 q4 q5 q6 qlt HR
  have hll : Hid ((lkL ms rs).length = ms.length + rs.length) := lkL_len ms rs
  obtain ⟨L, hL⟩ : ∃ L, L = lkL ms rs := ⟨_, rfl⟩
  rw [← hL] at HL2 hcL hll HV
  rw [← hL]
  clear hL
  obtain ⟨q0, q1, q2, q3, q4, q5, q6⟩ := Wire.Bk.m7 BX2.out.ka
  have qlt := BX2.out.ka.lt
  go_wp2_with fail
  clear q0 q1 q2 q3 q4 q5 q6
  go_loopw [5, 15] (fun vs vi wr => ∃ (vo : Value) (k : Nat), vs = vo ∧ k ≤ gs.length ∧ vi = .int .i64 k ∧ Hid (wr.ownsRow w2.heap.size 3 1 vo ((gs.take k).filter (lostP L)).length (((gs.take k).filter (lostP L)).map (Value.int .i64))) ∧ Hid (Below w2.heap.size w2 wr)) (fun _ vi _ => gs.length - (intOf vi).toNat)
  case atStart => exact ⟨_, 0, rfl, Nat.zero_le _, rfl, World.ownsRow_nil _ _ _ _, Below.refl _ _⟩
  case round =>
    obtain ⟨vo, k, hvo, hk, rfl, HO, HB⟩ := hrel
    have hvo := hvo.symm
    subst hvo
    by_cases hlt : k < gs.length
    · have HGr : Hid (RowAt wr ag gs) := HGS.out.keep HB.out
      obtain ⟨bk, off, rfl⟩ := rowAt_form HGr.out (by omega)
      have hc := (rowAt_cell HGr.out (by omega)).2 k hlt
      have HST : Hid ((gs.take (k + 1)).filter (lostP L) = (gs.take k).filter (lostP L) ++ (if lostP L (gs.getD k 0) = true then [gs.getD k 0] else [])) := filter_step _ hlt
      have hle : ((gs.take k).filter (lostP L)).length ≤ 1048576 := Nat.le_trans (List.length_filter_le _ _) (by rw [List.length_take]; omega)
      obtain ⟨T, hT⟩ : ∃ T, T = (gs.take k).filter (lostP L) := ⟨_, rfl⟩
      rw [← hT] at HO HST hle
      clear hT
      generalize gs.getD k 0 = x at hc HST
      go_wp2_with fail
      refine (slContains_any aL cL L.length L x _ rfl (by have := hll.out; unfold maxLen; omega) (HL2.out.keep HB.out)).mono ?_
      rintro e wx ⟨rfl, hx⟩
      have hx' := hx.symm
      subst hx'
      clear hx
      cases h1 : hasB L x
      · have HT2 : Hid ((gs.take (k + 1)).filter (lostP L) = T ++ [x]) := by rw [Hid, HST.out, if_pos (by unfold lostP; rw [h1]; rfl)]
        clear h1 HST
        go_wp2_with (at_builtin; refine wpList_append_own _ rfl (.tmp 23) (.tmp 25) 30 rfl w2.heap.size 3 i0 (.int .i64 0) 1 8 Tryz.underlying30 hi hz0 hz1 hz2 rfl (by decide) _ _ _ rfl (HO.out.alloc _) ⟨wr.heap.size, 0, none⟩ 1 1 [.int .i64 x] rfl rfl (cell_one_new _ _ _) (by simp [Value.oneCell']) (by unfold maxLen; omega) (by omega) (alloc_size HB.out) ?_; intro v5 w5 hown5 hgrow5 _; have HB5 : Hid (Below w2.heap.size w2 w5) := grown_bel (HB.out.alloc HB.out.size _) hgrow5 (alloc_size HB.out) (fun k hk => (HO.out.lt k hk).1); have HO5 : Hid (w5.ownsRow w2.heap.size 3 1 v5 ((gs.take (k + 1)).filter (lostP L)).length (((gs.take (k + 1)).filter (lostP L)).map (Value.int .i64))) := own_snoc HT2.out hown5; clear hown5 hgrow5)
        go_roundw
        case rel => exact ⟨_, k + 1, rfl, by omega, by go_num, HO5, HB5⟩
        case measure => simp [intOf]; omega
      · have HT2 : Hid ((gs.take (k + 1)).filter (lostP L) = T) := by rw [Hid, HST.out, if_neg (by unfold lostP; rw [h1]; simp), List.append_nil]
        have HO2 : Hid (wr.ownsRow w2.heap.size 3 1 vo ((gs.take (k + 1)).filter (lostP L)).length (((gs.take (k + 1)).filter (lostP L)).map (Value.int .i64))) := by rw [HT2.out]; exact HO
        clear h1 HST
        go_wp2
        go_roundw
        case rel => exact ⟨_, k + 1, rfl, by omega, by go_num, HO2, HB⟩
        case measure => simp [intOf]; omega
    · have hke : k = gs.length := by omega
      subst hke
      have HF : Hid ((gs.take gs.length).filter (lostP L) = lostL b d ttl ps ms gs rs) := by rw [Hid, HV.out, List.take_of_length_le (Nat.le_refl _)]
      have HO2 := HO.out
      rw [HF.out] at HO2
      obtain ⟨aR, cR, rfl, hls⟩ := own_ls (Joins.ownsRow_le HO2 BX2.out.bel.size)
      have HLS : Hid (OwnLs w.heap.size wr.heap.size wr aR (lostL b d ttl ps ms gs rs).length (lostL b d ttl ps ms gs rs)) := hls
      have HBE : Hid (Below w.heap.size w wr) := BX2.out.bel.trans (HB.out.mono BX2.out.bel.size)
      clear HO2 hls HO HF
      go_wp2
      go_ret2
      exact ⟨_, _, _, ret_sb HGG.out.symm, rfl, HLS.out, HBE.out⟩
def opnL (b d ttl : Int) (ps : List Pr) (ms : List Mg) (gs : List Int) (rs : List Rp) : List Int := if goodN b d ttl ps ms gs rs = true then putL [] (lkM ms) else []
theorem putL_nil_v {L : List Int} (h : putL [] L = []) : L = [] := by
  cases L with
  | nil => rfl
  | cons x L =>
    have : (x :: L) = (x :: L).dropLast ++ [(x :: L).getLast (by simp)] := (List.dropLast_concat_getLast (by simp)).symm
    rw [this, putL_snoc] at h
    exact absurd h (putI_len _ _).2
set_option maxRecDepth 100000 in
set_option maxHeartbeats 6400000 in
theorem lOpenLooks_any (b d ttl : Int) (ap am ag ar : Option Addr) (cp cm cg cr : Nat) (ps : List Pr) (ms : List Mg) (gs : List Int) (rs : List Rp) (w : World) (hb : BigN ps ms gs rs) (hr : NetAt w ap am ag ar ps ms gs rs) :
    Calls Tryz.prog 23 #[.agg #[.int .i64 b, .int .i64 d, .slice ap ps.length cp, .int .i64 ttl, .slice am ms.length cm, .slice ag gs.length cg, .slice ar rs.length cr]] w fun e w' => ∃ v, e = .returned (.tuple #[v, .bool (goodN b d ttl ps ms gs rs)]) ∧ OwnM w.heap.size w' v (opnL b d ttl ps ms gs rs) ∧ (opnL b d ttl ps ms gs rs = [] → v = .slice none 0 0) ∧ Below w.heap.size w w' := by
  have HR : Hid (NetAt w ap am ag ar ps ms gs rs) := hr
  have hml : ms.length ≤ 1048576 := by have := hb.m; omega
  have CG := lgoodN_any b d ttl ap am ag ar cp cm cg cr ps ms gs rs _ hb (hr.keep (belA w (.cells #[.int .i64 b, .int .i64 d, .slice ap ps.length cp, .int .i64 ttl, .slice am ms.length cm, .slice ag gs.length cg, .slice ar rs.length cr] 36)))
  clear hr hb
  go_enter Tryz.func23, Tryz.ntmps23
  go_wp2_with fail
  refine CG.mono ?_
  rintro e w1 ⟨rfl, HW⟩
  have BX1 : Hid (B1 w w1 #[.int .i64 b, .int .i64 d, .slice ap ps.length cp, .int .i64 ttl, .slice am ms.length cm, .slice ag gs.length cg, .slice ar rs.length cr] 36) := (b10 w _ _).keep HW
  clear HW CG
  cases hG : goodN b d ttl ps ms gs rs
  · have HV : Hid (opnL b d ttl ps ms gs rs = []) := by unfold Hid opnL; rw [hG]; rfl
    have HGG : Hid (goodN b d ttl ps ms gs rs = false) := hG
    clear hG
    go_wp2
    go_ret2
    exact ⟨_, ret_sb HGG.out.symm, by rw [HV.out]; exact World.ownsRow_nil _ _ _ _, fun _ => rfl, BX1.out.bel⟩
  have HV : Hid (opnL b d ttl ps ms gs rs = putL [] (lkM ms)) := by unfold Hid opnL; rw [if_pos hG]
  have HGG : Hid (goodN b d ttl ps ms gs rs = true) := hG
  have hm12 : ms.length ≤ 12 := by have := goodN_len hG; omega
  clear hG
  obtain ⟨q0, q1, q2, q3, q4, q5, q6⟩ := Wire.Bk.m7 BX1.out.ka
  have qlt := BX1.out.ka.lt
  have HM1 : Hid (LsAt tyMg w1 am ms) := (HR.out.keep BX1.out.bel).m
  go_wp2_with fail
  clear q0 q1 q2 q3 q4 q5 q6
  go_loopw [4, 13] (fun vs vi wr => ∃ (vo : Value) (k : Nat), vs = vo ∧ k ≤ ms.length ∧ vi = .int .i64 k ∧ Hid (OwnM w1.heap.size wr vo (putL [] ((lkM ms).take k))) ∧ Hid (putL [] ((lkM ms).take k) = [] → vo = .slice none 0 0) ∧ Hid (Below w1.heap.size w1 wr)) (fun _ vi _ => ms.length - (intOf vi).toNat)
  case atStart => exact ⟨_, 0, rfl, Nat.zero_le _, rfl, World.ownsRow_nil _ _ _ _, fun _ => rfl, Below.refl _ _⟩
  case round =>
    obtain ⟨vo, k, hvo, hk, rfl, HO, HN, HB⟩ := hrel
    have hvo := hvo.symm
    subst hvo
    by_cases hlt : k < ms.length
    · have HMr : Hid (LsAt tyMg wr am ms) := HM1.out.keep HB.out
      obtain ⟨bk, off, rfl⟩ := lsAt_form HMr.out (by show 0 < ms.length; omega)
      obtain ⟨hb1, ab, cb, hc, _⟩ := msAt_cell HMr.out hlt
      obtain ⟨c0, c1, c2, c3, c4, c5, c6, c7, c8⟩ := hc.m9
      have HTK : Hid (putL [] ((lkM ms).take (k + 1)) = putI (putL [] ((lkM ms).take k)) (ms.getD k mg0).x1) := by rw [Hid, take_snoc (by rw [lkM_len]; exact hlt), putL_snoc, lkM_get hlt]
      have hle : (putL [] ((lkM ms).take k)).length ≤ 16 := by have := putL_len ((lkM ms).take k) []; rw [List.length_take, lkM_len] at this; simp at this; omega
      obtain ⟨T, hT⟩ : ∃ T, T = putL [] ((lkM ms).take k) := ⟨_, rfl⟩
      rw [← hT] at HO HN HTK hle
      clear hc hT
      generalize ms.getD k mg0 = p at c0 c1 c2 c3 c4 c5 c6 c7 c8 HTK
      obtain ⟨x0, x1, x2, x3, x4, x5, x6, x7, l⟩ := p
      have HTK : Hid (putL [] ((lkM ms).take (k + 1)) = putI T x1) := HTK
      go_wp2_with fail
      refine (lputP_any w1.heap.size vo T x1 _ (World.ownsRow.alloc HO.out _) HN.out hle (by have := HB.out.size; simp; omega)).mono ?_
      rintro e w3 ⟨v', rfl, ho, HW⟩
      have HO3 : Hid (OwnM w1.heap.size w3 v' (putL [] ((lkM ms).take (k + 1)))) := by rw [HTK.out]; exact ho
      have HN3 : Hid (putL [] ((lkM ms).take (k + 1)) = [] → v' = .slice none 0 0) := fun h => by rw [HTK.out] at h; exact absurd h (putI_len _ _).2
      have HB3 : Hid (Below w1.heap.size w1 w3) := belt HB.out (belt (belA _ _) HW)
      clear ho HW
      go_wp2_with fail
      go_roundw
      case rel => exact ⟨_, k + 1, rfl, by omega, by go_num, HO3, HN3, HB3⟩
      case measure => simp [intOf]; omega
    · have hke : k = ms.length := by omega
      subst hke
      have HF : Hid (putL [] ((lkM ms).take ms.length) = opnL b d ttl ps ms gs rs) := by rw [Hid, HV.out, List.take_of_length_le (by rw [lkM_len]; exact Nat.le_refl _)]
      have HO2 := HO.out
      have HN2 := HN.out
      rw [HF.out] at HO2 HN2
      have HO3 : Hid (OwnM w.heap.size wr vo (opnL b d ttl ps ms gs rs)) := HO2.mono BX1.out.bel.size
      have HN3 : Hid (opnL b d ttl ps ms gs rs = [] → vo = .slice none 0 0) := HN2
      have HBE : Hid (Below w.heap.size w wr) := BX1.out.bel.trans (HB.out.mono BX1.out.bel.size)
      clear HO2 HN2 HO HN HF
      go_wp2
      go_ret2
      exact ⟨_, ret_sb HGG.out.symm, HO3.out, HN3.out, HBE.out⟩
set_option maxRecDepth 100000 in
set_option maxHeartbeats 6400000 in
theorem lLostLooks_own (b d ttl : Int) (ap am ag ar : Option Addr) (cp cm cg cr : Nat) (ps : List Pr) (ms : List Mg) (gs : List Int) (rs : List Rp) (w : World) (hb : BigN ps ms gs rs) (hr : NetAt w ap am ag ar ps ms gs rs) :
    Calls Tryz.prog 22 #[.agg #[.int .i64 b, .int .i64 d, .slice ap ps.length cp, .int .i64 ttl, .slice am ms.length cm, .slice ag gs.length cg, .slice ar rs.length cr]] w fun e w' => ∃ a n c, e = .returned (.tuple #[.slice a n c, .bool (goodN b d ttl ps ms gs rs)]) ∧ (lostL b d ttl ps ms gs rs).length = n ∧ RowAt w' a (lostL b d ttl ps ms gs rs) ∧ Below w.heap.size w w' := by
  obtain ⟨i0, hi, hz0, hz1, hz2⟩ := info_parts'
  have HR : Hid (NetAt w ap am ag ar ps ms gs rs) := hr
  have hgl : gs.length ≤ 1048576 := hb.g
  have CG := lOpenLooks_any b d ttl ap am ag ar cp cm cg cr ps ms gs rs _ hb (hr.keep (belA w (.cells #[.int .i64 b, .int .i64 d, .slice ap ps.length cp, .int .i64 ttl, .slice am ms.length cm, .slice ag gs.length cg, .slice ar rs.length cr] 36)))
  clear hr hb
  go_enter Tryz.func22, Tryz.ntmps22
  go_wp2_with fail
  refine CG.mono ?_
  rintro e w1 ⟨v1, rfl, hom, hnm, HW⟩
  have BX1 : Hid (B1 w w1 #[.int .i64 b, .int .i64 d, .slice ap ps.length cp, .int .i64 ttl, .slice am ms.length cm, .slice ag gs.length cg, .slice ar rs.length cr] 36) := (b10 w _ _).keep HW
  cases hG : goodN b d ttl ps ms gs rs
  · have HV : Hid (lostL b d ttl ps ms gs rs = []) := by unfold Hid lostL; rw [hG]; rfl
    have HGG : Hid (goodN b d ttl ps ms gs rs = false) := hG
    clear hG HW CG hom hnm
    go_wp2
    go_ret2
    exact ⟨none, 0, 0, ret_sb HGG.out.symm, by rw [HV.out]; rfl, by rw [HV.out]; exact .inl rfl, BX1.out.bel⟩
  have HV : Hid (lostL b d ttl ps ms gs rs = gs.filter (lostP (lkL ms rs))) := by unfold Hid lostL; rw [if_pos hG]
  have HGG : Hid (goodN b d ttl ps ms gs rs = true) := hG
  have HOP : Hid (opnL b d ttl ps ms gs rs = putL [] (lkM ms)) := by unfold Hid opnL; rw [if_pos hG]
  have hm12 : ms.length + rs.length ≤ 12 := by have := goodN_len hG; omega
  have HO1 : Hid (OwnM (w.heap.size + 1) w1 v1 (putL [] (lkM ms ++ (lkR rs).take 0))) := by
    have h := hom
    rw [HOP.out] at h
    simp only [World.size_alloc] at h
    rw [List.take_zero, List.append_nil]
    exact h
  have HN1 : Hid (putL [] (lkM ms ++ (lkR rs).take 0) = [] → v1 = .slice none 0 0) := by
    have h := hnm
    rw [HOP.out] at h
    rw [List.take_zero, List.append_nil]
    exact h
  clear hG HW CG hom hnm
  obtain ⟨q0, q1, q2, q3, q4, q5, q6⟩ := Wire.Bk.m7 BX1.out.ka
  have qlt := BX1.out.ka.lt
  have HQ1 : Hid (LsAt tyRp w1 ar rs) := (HR.out.keep BX1.out.bel).r
  go_wp2_with fail
  clear q0 q1 q2 q3 q4 q5 q6
  go_loopw [4, 21] (fun vs vi wr => ∃ (vo : Value) (k : Nat), vs = vo ∧ k ≤ rs.length ∧ vi = .int .i64 k ∧ Hid (OwnM (w.heap.size + 1) wr vo (putL [] (lkM ms ++ (lkR rs).take k))) ∧ Hid (putL [] (lkM ms ++ (lkR rs).take k) = [] → vo = .slice none 0 0) ∧ Hid (Below w1.heap.size w1 wr)) (fun _ vi _ => rs.length - (intOf vi).toNat)
  case atStart => exact ⟨_, 0, rfl, Nat.zero_le _, rfl, HO1, HN1, Below.refl _ _⟩
  case round =>
    clear HO1 HN1
    obtain ⟨vo, k, hvo, hk, rfl, HO, HN, HB⟩ := hrel
    have hvo := hvo.symm
    subst hvo
    have BX : Hid (B1 w wr #[.int .i64 b, .int .i64 d, .slice ap ps.length cp, .int .i64 ttl, .slice am ms.length cm, .slice ag gs.length cg, .slice ar rs.length cr] 36) := BX1.out.keep HB.out
    obtain ⟨q0, q1, q2, q3, q4, q5, q6⟩ := Wire.Bk.m7 BX.out.ka
    have qltr := BX.out.ka.lt
    by_cases hlt : k < rs.length
    · have HMr : Hid (LsAt tyRp wr ar rs) := HQ1.out.keep HB.out
      obtain ⟨bk, off, rfl⟩ := lsAt_form HMr.out (by show 0 < rs.length; omega)
      obtain ⟨hb1, hc⟩ := rsAt_cell HMr.out hlt
      obtain ⟨c0, c1, c2, c3, c4⟩ := hc.r5
      have HTK : Hid (putL [] (lkM ms ++ (lkR rs).take (k + 1)) = putI (putL [] (lkM ms ++ (lkR rs).take k)) (rs.getD k rp0).x0) := by rw [Hid, take_snoc (by rw [lkR_len]; exact hlt), ← List.append_assoc, putL_snoc, lkR_get hlt]
      have hle : (putL [] (lkM ms ++ (lkR rs).take k)).length ≤ 16 := by have := putL_len (lkM ms ++ (lkR rs).take k) []; rw [List.length_append, List.length_take, lkM_len, lkR_len] at this; simp at this; omega
      obtain ⟨T, hT⟩ : ∃ T, T = putL [] (lkM ms ++ (lkR rs).take k) := ⟨_, rfl⟩
      rw [← hT] at HO HN HTK hle
      clear hc hT
      generalize rs.getD k rp0 = p at c0 c1 c2 c3 c4 HTK
      obtain ⟨x0, x1, x2, x3, bb⟩ := p
      have HTK : Hid (putL [] (lkM ms ++ (lkR rs).take (k + 1)) = putI T x0) := HTK
      go_wp2_with fail
      refine (lputP_any (w.heap.size + 1) vo T x0 _ (World.ownsRow.alloc HO.out _) HN.out hle (by simp; omega)).mono ?_
      rintro e w3 ⟨v', rfl, ho, HW⟩
      have HO3 : Hid (OwnM (w.heap.size + 1) w3 v' (putL [] (lkM ms ++ (lkR rs).take (k + 1)))) := by rw [HTK.out]; exact ho
      have HN3 : Hid (putL [] (lkM ms ++ (lkR rs).take (k + 1)) = [] → v' = .slice none 0 0) := fun h => by rw [HTK.out] at h; exact absurd h (putI_len _ _).2
      have HB3 : Hid (Below w1.heap.size w1 w3) := belt HB.out (belt (belA _ _) HW)
      clear ho HW
      go_wp2_with fail
      go_roundw
      case rel => exact ⟨_, k + 1, rfl, by omega, by go_num, HO3, HN3, HB3⟩
      case measure => simp [intOf]; omega
    · have hke : k = rs.length := by omega
      subst hke
      have HTE : Hid (lkM ms ++ (lkR rs).take rs.length = lkL ms rs) := by rw [Hid, List.take_of_length_le (by rw [lkR_len]; exact Nat.le_refl _)]; rfl
      rw [HTE.out] at HO HN
      obtain ⟨T, hT⟩ : ∃ T, T = putL [] (lkL ms rs) := ⟨_, rfl⟩
      have HHB : Hid (∀ x, hasB T x = hasB (lkL ms rs) x) := fun x => by
        rw [hT, Bool.eq_iff_iff, hasB_mem, hasB_mem, putL_mem _ inc_nil]
        simp
      have hle : T.length ≤ 16 := by rw [hT]; have := putL_len (lkL ms rs) []; rw [lkL_len] at this; simp at this; omega
      rw [← hT] at HO
      obtain ⟨aT, cT, rfl, hcT, hrow⟩ := own_rowAt HO.out
      have HRT : Hid (RowAt wr aT T) := hrow
      have HGS : Hid (RowAt wr ag gs) := (HR.out.keep BX.out.bel).g
      obtain ⟨L, hL⟩ : ∃ L, L = lkL ms rs := ⟨_, rfl⟩
      rw [← hL] at HV HHB
      clear hT hrow HO HN HTE hL
      obtain ⟨wb, rfl⟩ : ∃ wb : World, wb = wr := ⟨_, rfl⟩
      go_wp2_with fail
      clear q0 q1 q2 q3 q4 q5 q6
      go_loopw [8, 33] (fun vs vi w' => ∃ (vo : Value) (j : Nat), vs = vo ∧ j ≤ gs.length ∧ vi = .int .i64 j ∧ Hid (w'.ownsRow wb.heap.size 3 1 vo ((gs.take j).filter (lostP L)).length (((gs.take j).filter (lostP L)).map (Value.int .i64))) ∧ Hid (Below wb.heap.size wb w')) (fun _ vi _ => gs.length - (intOf vi).toNat)
      case atStart => exact ⟨_, 0, rfl, Nat.zero_le _, rfl, World.ownsRow_nil _ _ _ _, Below.refl _ _⟩
      case round =>
        obtain ⟨vo, j, hvo, hj, rfl, HO, HC⟩ := hrel
        have hvo := hvo.symm
        subst hvo
        by_cases hlt : j < gs.length
        · have HGr : Hid (RowAt wr ag gs) := HGS.out.keep HC.out
          obtain ⟨bk, off, rfl⟩ := rowAt_form HGr.out (by omega)
          have hc := (rowAt_cell HGr.out (by omega)).2 j hlt
          have HST : Hid ((gs.take (j + 1)).filter (lostP L) = (gs.take j).filter (lostP L) ++ (if lostP L (gs.getD j 0) = true then [gs.getD j 0] else [])) := filter_step _ hlt
          have hle2 : ((gs.take j).filter (lostP L)).length ≤ 1048576 := Nat.le_trans (List.length_filter_le _ _) (by rw [List.length_take]; omega)
          obtain ⟨F, hF⟩ : ∃ F, F = (gs.take j).filter (lostP L) := ⟨_, rfl⟩
          rw [← hF] at HO HST hle2
          clear hF
          generalize gs.getD j 0 = x at hc HST
          have CH := lhasN aT cT T.length T x _ rfl (by unfold maxLen; omega) (HRT.out.keep HC.out)
          rw [HHB.out x] at CH
          go_wp2_with fail
          refine CH.mono ?_
          rintro e wx ⟨rfl, hx⟩
          have hx' := hx.symm
          subst hx'
          clear hx CH
          cases h1 : hasB L x
          · have HT2 : Hid ((gs.take (j + 1)).filter (lostP L) = F ++ [x]) := by rw [Hid, HST.out, if_pos (by unfold lostP; rw [h1]; rfl)]
            clear h1 HST
            go_wp2_with (at_builtin; refine wpList_append_own _ rfl (.tmp 41) (.tmp 43) 30 rfl wb.heap.size 3 i0 (.int .i64 0) 1 8 Tryz.underlying30 hi hz0 hz1 hz2 rfl (by decide) _ _ _ rfl (HO.out.alloc _) ⟨_, 0, none⟩ 1 1 [.int .i64 x] rfl rfl (cell_one_new _ _ _) (by simp [Value.oneCell']) (by unfold maxLen; omega) (by omega) (alloc_size HC.out) ?_; intro v5 w5 hown5 hgrow5 _; have HB5 : Hid (Below wb.heap.size wb w5) := grown_bel (HC.out.alloc HC.out.size _) hgrow5 (alloc_size HC.out) (fun k hk => (HO.out.lt k hk).1); have HO5 : Hid (w5.ownsRow wb.heap.size 3 1 v5 ((gs.take (j + 1)).filter (lostP L)).length (((gs.take (j + 1)).filter (lostP L)).map (Value.int .i64))) := own_snoc HT2.out hown5; clear hown5 hgrow5)
            go_roundw
            case rel => exact ⟨_, j + 1, rfl, by omega, by go_num, HO5, HB5⟩
            case measure => simp [intOf]; omega
          · have HT2 : Hid ((gs.take (j + 1)).filter (lostP L) = F) := by rw [Hid, HST.out, if_neg (by unfold lostP; rw [h1]; simp), List.append_nil]
            have HO2 : Hid (wr.ownsRow wb.heap.size 3 1 vo ((gs.take (j + 1)).filter (lostP L)).length (((gs.take (j + 1)).filter (lostP L)).map (Value.int .i64))) := by rw [HT2.out]; exact HO
            clear h1 HST
            go_wp2
            go_roundw
            case rel => exact ⟨_, j + 1, rfl, by omega, by go_num, HO2, HC⟩
            case measure => simp [intOf]; omega
        · have hke : j = gs.length := by omega
          subst hke
          have HF : Hid ((gs.take gs.length).filter (lostP L) = lostL b d ttl ps ms gs rs) := by rw [Hid, HV.out, List.take_of_length_le (Nat.le_refl _)]
          have HO2 := HO.out
          rw [HF.out] at HO2
          obtain ⟨aR, cR, rfl, _, hls⟩ := own_rowAt HO2
          have HLS : Hid (RowAt wr aR (lostL b d ttl ps ms gs rs)) := hls
          have HBE : Hid (Below w.heap.size w wr) := BX.out.bel.trans (HC.out.mono BX.out.bel.size)
          clear HO2 hls HO HF
          go_wp2
          go_ret2
          exact ⟨_, _, _, ret_sb HGG.out.symm, rfl, HLS.out, HBE.out⟩
end Go.Proofs.YtdceimnapbblnaaGreat
namespace Go.Proofs.YtdceimnapbblnaaGreat
open Go.RowKit
set_option linter.unusedVariables false

theorem upt_back {b d : Int} {zs : List Int} (R : Ring b d zs) (x : Int) : zs.getD ((uptI zs x + zs.length - 1) % zs.length) 0 = dwnI zs x := by
  unfold dwnI uptI
  rw [← mem_has R]
  cases hm : memI zs x
  · rw [if_neg (by simp)]; rfl
  · rw [if_pos rfl]
    have h := of_decide_eq_true hm
    have e : blw zs x + Bool.toNat true + zs.length - 1 = blw zs x + zs.length := by simp
    rw [e, Nat.add_mod_right, Nat.mod_eq_of_lt h.1]
    exact h.2

end Go.Proofs.YtdceimnapbblnaaGreat
namespace Go.Proofs.YtdceimnapbblnaaGreat
open Go.RowKit
set_option linter.unusedVariables false
theorem bckL_get {zs : List Int} {p : Int} {n k : Nat} (hk : k < n) : (bckL zs p n).getD k 0 = prvI zs (prvN zs p k) := by
  simp [bckL, List.getD_eq_getElem?_getD, hk, prvN]
/-- the argument's box, the answer's box, the box of peers at X, their list at G -/
structure IPS (w wr : World) (b d : Int) (X G n : Nat) (L : List (Pr × Value)) : Prop where
  rb : RB w wr #[.int .i64 b, .int .i64 d] 25
  lo : w.heap.size + 2 ≤ X
  p : wr.heap[X]? = some (.cells #[.int .i64 b, .int .i64 d, .slice (some ⟨G, 0, none⟩) n n] 28 (0, 0))
  ow : OwnP (w.heap.size + 2) wr.heap.size wr G L
theorem IPS.hi {w wr : World} {b d : Int} {X G n : Nat} {L : List (Pr × Value)} (h : IPS w wr b d X G n L) : X < wr.heap.size := (Array.getElem?_eq_some_iff.1 h.p).1
theorem IPS.ne {w wr : World} {b d : Int} {X G n : Nat} {L : List (Pr × Value)} (h : IPS w wr b d X G n L) : ¬ X = G := fun he => by
  obtain ⟨cur, hc⟩ := h.ow.blk
  have hp := h.p
  rw [he, hc] at hp
  simp at hp
theorem IPS.keep {w wr w1 : World} {b d : Int} {X G n : Nat} {L : List (Pr × Value)} (h : IPS w wr b d X G n L) (hb : Below wr.heap.size wr w1) : IPS w w1 b d X G n L :=
  ⟨h.rb.keep hb, h.lo, (hb.block X h.hi).trans h.p, (h.ow.keep hb).wide hb.size⟩
theorem IPS.put {w wr : World} {b d : Int} {X G n : Nat} {L L' : List (Pr × Value)} {j : Nat} {v : Value} (h : IPS w wr b d X G n L) (ho : OwnP (w.heap.size + 2) wr.heap.size (wr.setCell ⟨G, j, none⟩ v) G L') : IPS w (wr.setCell ⟨G, j, none⟩ v) b d X G n L' := by
  have hlo := h.ow.lo
  refine ⟨h.rb.blocks (h.rb.bel.setCell (p := ⟨G, j, none⟩) (by simp; omega) _) (by simp [World.setCell]) (fun k hk => heap_setCell_other _ _ _ _ (by simp; omega)), h.lo, (heap_setCell_other _ _ _ _ (by simpa using h.ne)).trans h.p, ?_⟩
  have e : (wr.setCell ⟨G, j, none⟩ v).heap.size = wr.heap.size := by simp [World.setCell]
  rw [e]
  exact ho
theorem IPS.num {w wr : World} {b d : Int} {X G n : Nat} {L : List (Pr × Value)} (h : IPS w wr b d X G n L) {i : Nat} (hi : i < L.length) (f : Nat) (hf : f < 3) (z : Int) :
    IPS w (wr.setCell ⟨G, i * 4 + f, none⟩ (.int .i64 z)) b d X G n (L.set i (setF f (L.getD i d0).1 z, (L.getD i d0).2)) := h.put (h.ow.num hi f hf z)
theorem IPS.backs {w wr w1 : World} {b d : Int} {X G n : Nat} {L : List (Pr × Value)} (h : IPS w wr b d X G n L) (hb : Below wr.heap.size wr w1) {i : Nat} (hi : i < L.length) {bs : List Int} {gb cb : Nat} (hm : bs.length ≤ 1048576) (hcb : bs.length ≤ cb) (os : OwnS wr.heap.size w1 gb bs) :
    IPS w (w1.setCell ⟨G, i * 4 + 3, none⟩ (.slice (some ⟨gb, 0, none⟩) bs.length cb)) b d X G n (L.set i (⟨(L.getD i d0).1.id, (L.getD i d0).1.succ, (L.getD i d0).1.point, bs⟩, .slice (some ⟨gb, 0, none⟩) bs.length cb)) :=
  (h.keep hb).put (h.ow.backs rfl hb hi hm hcb os)
theorem IPS.cell {w wr : World} {b d : Int} {X G n : Nat} {L : List (Pr × Value)} (h : IPS w wr b d X G n L) : wr.cell? ⟨X, 0, none⟩ = some (.int .i64 b) ∧ wr.cell? ⟨X, 1, none⟩ = some (.int .i64 d) ∧ wr.cell? ⟨X, 2, none⟩ = some (.slice (some ⟨G, 0, none⟩) n n) :=
  ⟨(cell_of_row wr _ _ _ _ _ h.p).trans rfl, (cell_of_row wr _ _ _ _ _ h.p).trans rfl, (cell_of_row wr _ _ _ _ _ h.p).trans rfl⟩
theorem IPS.at {w wr : World} {b d : Int} {X G n : Nat} {L : List (Pr × Value)} (h : IPS w wr b d X G n L) (j : Nat) : wr.frozen? ⟨G, j, none⟩ = false := by
  obtain ⟨cur, hc⟩ := h.ow.blk
  exact frozen_of_row wr _ _ _ _ hc
theorem ips1 (w wa : World) (b d : Int) (n : Nat) (h : RB w wa #[.int .i64 b, .int .i64 d] 25) :
    IPS w ((wa.alloc (.cells (madeCells #[.int .i64 0, .int .i64 0, .int .i64 0, .slice none 0 0] (n * 4)) 130)).alloc (.cells #[.int .i64 b, .int .i64 d, .slice (some ⟨wa.heap.size, 0, none⟩) n n] 28)) b d (wa.heap.size + 1) wa.heap.size n (List.replicate n d0) := by
  have hlt := h.lt
  have hb1 := belA wa (.cells (madeCells #[.int .i64 0, .int .i64 0, .int .i64 0, .slice none 0 0] (n * 4)) 130)
  have hb2 := belA (wa.alloc (.cells (madeCells #[.int .i64 0, .int .i64 0, .int .i64 0, .slice none 0 0] (n * 4)) 130)) (.cells #[.int .i64 b, .int .i64 d, .slice (some ⟨wa.heap.size, 0, none⟩) n n] 28)
  refine ⟨(h.keep hb1).keep hb2, by omega, ?_, ?_⟩
  · have := heap_alloc_new (wa.alloc (.cells (madeCells #[.int .i64 0, .int .i64 0, .int .i64 0, .slice none 0 0] (n * 4)) 130)) (.cells #[.int .i64 b, .int .i64 d, .slice (some ⟨wa.heap.size, 0, none⟩) n n] 28)
    simpa using this
  · have := ((made_peers wa n).keep hb2).wide (T' := ((wa.alloc (.cells (madeCells #[.int .i64 0, .int .i64 0, .int .i64 0, .slice none 0 0] (n * 4)) 130)).alloc (.cells #[.int .i64 b, .int .i64 d, .slice (some ⟨wa.heap.size, 0, none⟩) n n] 28)).heap.size) (by simp)
    exact this.mono (by omega)
end Go.Proofs.YtdceimnapbblnaaGreat
namespace Go.Proofs.YtdceimnapbblnaaGreat
open Go.RowKit
set_option linter.unusedVariables false
theorem ips2 (w wa : World) (b d : Int) (n : Nat) (h : RB w wa #[.int .i64 b, .int .i64 d] 25) :
    IPS w ((wa.alloc (.cells #[.int .i64 b, .int .i64 d, .slice (some ⟨wa.heap.size + 1, 0, none⟩) n n] 28)).alloc (.cells (madeCells #[.int .i64 0, .int .i64 0, .int .i64 0, .slice none 0 0] (n * 4)) 130)) b d wa.heap.size (wa.heap.size + 1) n (List.replicate n d0) := by
  have hlt := h.lt
  have hb1 := belA wa (.cells #[.int .i64 b, .int .i64 d, .slice (some ⟨wa.heap.size + 1, 0, none⟩) n n] 28)
  have hb2 := belA (wa.alloc (.cells #[.int .i64 b, .int .i64 d, .slice (some ⟨wa.heap.size + 1, 0, none⟩) n n] 28)) (.cells (madeCells #[.int .i64 0, .int .i64 0, .int .i64 0, .slice none 0 0] (n * 4)) 130)
  have hm := made_peers (wa.alloc (.cells #[.int .i64 b, .int .i64 d, .slice (some ⟨wa.heap.size + 1, 0, none⟩) n n] 28)) n
  simp only [World.size_alloc] at hm
  refine ⟨(h.keep hb1).keep hb2, by omega, ?_, ?_⟩
  · rw [heap_alloc_old _ _ (by simp)]
    exact heap_alloc_new _ _
  · simp only [World.size_alloc]
    exact hm.mono (by omega)
theorem heap_size_setCell (w : World) (a : Addr) (v : Value) : (w.setCell a v).heap.size = w.heap.size := by simp [World.setCell]
theorem map_getD {L : List (Pr × Value)} {ps : List Pr} (hl : L.length = ps.length) (h : ∀ j, j < ps.length → (L.getD j d0).1 = ps.getD j pr0) : L.map (·.1) = ps := map_fst hl h
end Go.Proofs.YtdceimnapbblnaaGreat
namespace Go.Proofs.YtdceimnapbblnaaGreat
open Go.RowKit Go.Deep
set_option linter.unusedVariables false
theorem size_int1 : (Tryz.prog.info? 3).map (·.size) = some 1 := by kernel_rfl
theorem size_peer4 : (Tryz.prog.info? 130).map (·.size) = some 4 := by kernel_rfl
theorem ints_one1 (l : List Int) : ∀ v ∈ l.map (Value.int .i64), v.oneCell' = true := by
  intro v hv
  simp at hv
  obtain ⟨a, _, rfl⟩ := hv
  rfl
theorem splice_all1 {l m : List Int} (h : l.length = m.length) : splice (l.map (Value.int .i64)) 0 (m.map (Value.int .i64)) = m.map (Value.int .i64) := by
  simp [splice, h]
theorem row_src1 {w : World} {a : Option Addr} {zs : List Int} (h : RowAt w a zs) (hz : 0 < (zs.map (Value.int .i64)).length) (o : Obj) : ∃ ad, a = some ad ∧ ∀ j v, (zs.map (Value.int .i64))[j]? = some v → (w.alloc o).cell? (ad.add j) = some v := by
  rw [List.length_map] at hz
  obtain ⟨bk, off, rfl⟩ := rowAt_form h hz
  obtain ⟨hb, hc⟩ := rowAt_cell (h.alloc o) hz
  refine ⟨_, rfl, fun j v hv => ?_⟩
  rw [add_none']
  have hj : j < zs.length := by
    have := (List.getElem?_eq_some_iff.1 hv).1
    simpa using this
  rw [hc j hj]
  simp [List.getElem?_eq_getElem hj] at hv
  rw [← hv]
  simp [List.getD_eq_getElem?_getD, hj]
set_option maxHeartbeats 800000 in
theorem copyList_any (a : Option Addr) (cap : Nat) (zs : List Int) (w : World) (hm : zs.length ≤ 1048576) (hr : RowAt w a zs) :
    Calls Tryz.prog 151 #[.slice a zs.length cap] w fun e w' => e = .returned (.slice (some ⟨w.heap.size, 0, none⟩) zs.length zs.length) ∧ OwnZ w w' w.heap.size zs := by
  have hmk := make_ints zs.length hm
  have HS : Hid (0 < (zs.map (Value.int .i64)).length → (some (⟨w.heap.size, 0, none⟩ : Addr)) = some ⟨w.heap.size, 0, none⟩ ∧ ∃ ad, a = some ad ∧ ∀ j v, (zs.map (Value.int .i64))[j]? = some v → (w.alloc (.cells (zv (List.replicate zs.length 0)) 3)).cell? (ad.add j) = some v) := fun hz => ⟨rfl, row_src1 hr hz _⟩
  have HL : Hid ((zs.map (Value.int .i64)).length = Nat.min zs.length zs.length) := by show _ = min _ _; simp
  have HF : Hid (0 + (zs.map (Value.int .i64)).length ≤ ((List.replicate zs.length 0).map (Value.int .i64)).length) := by unfold Hid; simp
  clear hr
  go_enter Tryz.func151, Tryz.ntmps151
  go_wp2_with (refine wpList_copy_splice rfl (.tmp 7) (.tmp 8) 30 30 rfl 3 Tryz.underlying30 size_int1 _ _ _ _ _ _ rfl rfl w.heap.size 0 ((List.replicate zs.length 0).map (Value.int .i64)) 3 (heap_alloc_new _ _) (zs.map (Value.int .i64)) HL.out HS.out HF.out (ints_one1 zs) w.heap.size w (belA _ _) (Nat.le_refl _) ?_; intro w1 hw1 hb1)
  go_ret
  refine ⟨rfl, hb1, Nat.le_refl _, ?_⟩
  have := hw1.out
  rw [splice_all1 (by simp)] at this
  exact this

/-- a copy of elements of several cells into a row of one's own -/
theorem run_copy_many {P : Program} (w : World) (dT sT ty elem : TypeId) (g o dLen dCap : Nat) (a : Addr) (sLen sCap : Nat) (cur : Array Value) (t : TypeId) (cs : List Value) (z n : Nat)
    (hu : P.underlying dT = some (.slice elem)) (hs : (P.info? elem).map (·.size) = some z)
    (hg : w.heap[g]? = some (.cells cur t (0, 0))) (hn : Nat.min sLen dLen = n) (hc : cs.length = n * z)
    (hsrc : ∀ j v, cs[j]? = some v → w.cell? (a.add j) = some v) (hfit : o + cs.length ≤ cur.size) (h1 : ∀ v ∈ cs, v.oneCell' = true) :
    (Builtin.copy_ #[dT, sT] ty #[.slice (some ⟨g, o, none⟩) dLen dCap, .slice (some a) sLen sCap]).run P w =
      .ok (goInt n) (w.setRow g (cur.toList.take o ++ cs ++ cur.toList.drop (o + cs.length)).toArray) := by
  have hl := run_loadCells_list (P := P) w a cs hsrc
  have hst := run_storeCells_at P g o t cs 0 cur w hg (by simpa using hfit) h1
  rw [hc] at hl
  cases hq : P.info? elem with
  | none => simp [hq] at hs
  | some i =>
    have hi : i.size = z := by simpa [hq] using hs
    simp [Builtin.copy_, run_underlying hu, Builtin.lenOf, Builtin.firstCells, sizeOf, typeInfo, hq, hi, hn, hl, hst]
theorem wpList_copy_many {P : Program} {w : World} {ops : Array Oper} {rest : List Oper} {o : Oper} {a : Act} {Q : Exit → Act → World → Prop} (hgd : o.guard = none) (d s : Operand) (dT sT : TypeId)
    (ho : o.op = .call { callee := .builtin .copy, args := #[d, s], argTypes := #[dT, sT] }) (elem : TypeId) (z n : Nat) (hu : P.underlying dT = some (.slice elem)) (hsz : (P.info? elem).map (·.size) = some z)
    (g off dLen dCap : Nat) (ad : Addr) (sLen sCap : Nat) (hd : a.eval d = .slice (some ⟨g, off, none⟩) dLen dCap) (hs : a.eval s = .slice (some ad) sLen sCap)
    (cur : Array Value) (t : TypeId) (hg : w.heap[g]? = some (.cells cur t (0, 0))) (cs : List Value) (hn : Nat.min sLen dLen = n) (hc : cs.length = n * z)
    (hsrc : ∀ j v, cs[j]? = some v → w.cell? (ad.add j) = some v) (hfit : off + cs.length ≤ cur.size) (h1 : ∀ v ∈ cs, v.oneCell' = true) (B : Nat) (w0 : World) (hb : Below B w0 w) (hBg : B ≤ g)
    (h : ∀ w', Hid (w'.heap[g]? = some (.cells (cur.toList.take off ++ cs ++ cur.toList.drop (off + cs.length)).toArray t (0, 0))) → Hid (Below B w0 w') → Hid (w'.heap.size = w.heap.size ∧ ∀ k, ¬ k = g → w'.heap[k]? = w.heap[k]?) → wpList P ops Q rest (a.put o.dst (goInt n)) w') : wpList P ops Q (o :: rest) a w := by
  refine wpList_plain hgd fun K hK => ?_
  have hrun := run_copy_many (P := P) w dT sT o.type elem g off dLen dCap ad sLen sCap cur t cs z n hu hsz hg hn hc hsrc hfit h1
  unfold Oper.wp
  simp [execOp, ho, resolve, invoke, builtin, hd, hs, hrun, Result.andThen]
  refine hK _ _ ?_
  have := h _ (setRow_heap w g cur _ t _ hg) (below_setRow hb hBg _) ⟨by simp, fun k hk => setRow_other w g k _ hk⟩
  simpa using this
/-- the cells of peers that came in -/
theorem peers_src {w : World} {bk off : Nat} {ps : List Pr} (h : PeersAt w (some ⟨bk, off, none⟩) ps) (hz : 0 < ps.length) :
    ∃ L0 : List (Pr × Value), L0.map (·.1) = ps ∧ L0.length = ps.length ∧ (∀ j v, (flatP L0)[j]? = some v → w.cell? ⟨bk, off + j, none⟩ = some v) ∧ (∀ v ∈ flatP L0, v.oneCell' = true) ∧
      ∀ i, i < ps.length → (L0.getD i d0).1 = ps.getD i pr0 ∧ ∃ ab cb, (L0.getD i d0).2 = .slice ab (ps.getD i pr0).backs.length cb ∧ RowAt w ab (ps.getD i pr0).backs := by
  obtain ⟨hb, hc⟩ := peersAt_cell h hz
  have key : ∀ i, i < ps.length → ∃ v : Value, w.cell? ⟨bk, off + i * 4 + 3, none⟩ = some v ∧ ∃ ab cb, v = .slice ab (ps.getD i pr0).backs.length cb ∧ RowAt w ab (ps.getD i pr0).backs := fun i hi => by
    obtain ⟨_, _, _, ab, cb, c3, hr, _, _⟩ := hc i hi
    exact ⟨_, c3, ab, cb, rfl, hr⟩
  obtain ⟨f, hf⟩ := @choose_lt Value ⟨.bool false⟩ _ _ key
  have hL : ∀ i, i < ps.length → ((List.range ps.length).map (fun i => (ps.getD i pr0, f i))).getD i d0 = (ps.getD i pr0, f i) := fun i hi => by simp [List.getD_eq_getElem?_getD, hi]
  refine ⟨(List.range ps.length).map (fun i => (ps.getD i pr0, f i)), ?_, by simp, ?_, ?_, ?_⟩
  · refine List.ext_getElem (by simp) (fun i h1 h2 => ?_)
    simp [List.getD_eq_getElem?_getD, h2]
  · intro j v hj
    have hjl : j < ((List.range ps.length).map (fun i => (ps.getD i pr0, f i))).length * 4 := by
      have := (List.getElem?_eq_some_iff.1 hj).1
      rwa [flatP_len] at this
    have hi : j / 4 < ((List.range ps.length).map (fun i => (ps.getD i pr0, f i))).length := by omega
    obtain ⟨g0, g1, g2, g3⟩ := flatP_get _ (j / 4) hi
    have hi' : j / 4 < ps.length := by simpa using hi
    rw [hL _ hi'] at g0 g1 g2 g3
    obtain ⟨c0, c1, c2, _⟩ := hc (j / 4) hi'
    have c3 := (hf (j / 4) hi').1
    have hm : j % 4 = 0 ∨ j % 4 = 1 ∨ j % 4 = 2 ∨ j % 4 = 3 := by omega
    rcases hm with hm | hm | hm | hm
    · have e : j = j / 4 * 4 := by omega
      rw [e] at hj ⊢
      rw [g0] at hj
      rw [← hj]; exact c0
    · have e : j = j / 4 * 4 + 1 := by omega
      rw [e] at hj ⊢
      rw [g1] at hj
      rw [← hj, ← Nat.add_assoc]; exact c1
    · have e : j = j / 4 * 4 + 2 := by omega
      rw [e] at hj ⊢
      rw [g2] at hj
      rw [← hj, ← Nat.add_assoc]; exact c2
    · have e : j = j / 4 * 4 + 3 := by omega
      rw [e] at hj ⊢
      rw [g3] at hj
      rw [← hj, ← Nat.add_assoc]; exact c3
  · intro v hv
    have one : ∀ L : List (Pr × Value), (∀ e ∈ L, e.2.oneCell' = true) → ∀ v ∈ flatP L, v.oneCell' = true := fun L => by
      induction L with
      | nil => intro _ v hv; simp [flatP] at hv
      | cons e L ih =>
        intro h v hv
        simp only [flatP, List.mem_cons] at hv
        rcases hv with rfl | rfl | rfl | rfl | hv
        · rfl
        · rfl
        · rfl
        · exact h _ (by simp)
        · exact ih (fun e he => h e (by simp [he])) v hv
    refine one _ (fun e he => ?_) v hv
    simp only [List.mem_map, List.mem_range] at he
    obtain ⟨i, hi, rfl⟩ := he
    obtain ⟨_, ab, cb, hv, _⟩ := hf i hi
    show (f i).oneCell' = true
    rw [hv]; rfl
  · intro i hi
    rw [hL i hi]
    obtain ⟨_, ab, cb, hv, hr⟩ := hf i hi
    exact ⟨rfl, ab, cb, hv, hr⟩
theorem flatP_set (v : Value) : ∀ (L : List (Pr × Value)) (i : Nat), i < L.length → (flatP L).set (i * 4 + 3) v = flatP (L.set i ((L.getD i d0).1, v))
  | [], i, h => by simp at h
  | e :: L, 0, h => by simp [flatP]
  | e :: L, i + 1, h => by
    have := flatP_set v L i (by simpa using h)
    have e0 : (i + 1) * 4 + 3 = i * 4 + 3 + 4 := by omega
    rw [e0]
    simp only [flatP, List.getD_cons_succ, List.set_cons_succ, List.set]
    rw [this]
/-- peers on the way into new memory: the first k have lists of their own -/
structure CPS (w wr : World) (L0 M : List (Pr × Value)) (k : Nat) : Prop where
  bel : Below w.heap.size w wr
  r : wr.heap[w.heap.size]? = some (.cells #[.int .i64 0, .int .i64 0, .slice none 0 0] 28 (0, 0))
  row : wr.heap[w.heap.size + 1]? = some (.cells (flatP M).toArray 130 (0, 0))
  len : M.length = L0.length
  fst : ∀ i, i < L0.length → (M.getD i d0).1 = (L0.getD i d0).1
  old : ∀ i, k ≤ i → i < L0.length → M.getD i d0 = L0.getD i d0
  val : ∀ i, i < k → i < L0.length → ValOk (w.heap.size + 2) wr.heap.size wr (M.getD i d0)
  sep : ∀ i j, i < j → j < k → j < L0.length → ¬ (M.getD i d0).1.backs = [] → ¬ (M.getD j d0).1.backs = [] → ¬ (M.getD i d0).2.ownBlock = (M.getD j d0).2.ownBlock
theorem CPS.lt {w wr : World} {L0 M : List (Pr × Value)} {k : Nat} (h : CPS w wr L0 M k) : w.heap.size + 1 < wr.heap.size := (Array.getElem?_eq_some_iff.1 h.row).1
theorem CPS.cell {w wr : World} {L0 M : List (Pr × Value)} {k : Nat} (h : CPS w wr L0 M k) {i : Nat} (hi : i < L0.length) : wr.cell? ⟨w.heap.size + 1, i * 4 + 3, none⟩ = some (M.getD i d0).2 ∧ wr.frozen? ⟨w.heap.size + 1, i * 4 + 3, none⟩ = false := by
  refine ⟨(cell_of_row wr _ _ _ _ _ h.row).trans ?_, frozen_of_row wr _ _ _ _ h.row⟩
  have := (flatP_get M i (by rw [h.len]; exact hi)).2.2.2
  simpa using this
theorem CPS.step {w wr w1 : World} {L0 M : List (Pr × Value)} {k gb : Nat} {bs : List Int} (h : CPS w wr L0 M k) (hk : k < L0.length) (hb : Below wr.heap.size wr w1) (hbs : bs = (M.getD k d0).1.backs) (hm : bs.length ≤ 1048576) (os : OwnS wr.heap.size w1 gb bs) :
    CPS w (w1.setCell ⟨w.heap.size + 1, k * 4 + 3, none⟩ (.slice (some ⟨gb, 0, none⟩) bs.length bs.length)) L0 (M.set k ((M.getD k d0).1, .slice (some ⟨gb, 0, none⟩) bs.length bs.length)) (k + 1) := by
  have hlt := h.lt
  have hkM : k < M.length := by rw [h.len]; exact hk
  have hblk : ∀ q, ¬ q = w.heap.size + 1 → q < wr.heap.size → (w1.setCell ⟨w.heap.size + 1, k * 4 + 3, none⟩ (.slice (some ⟨gb, 0, none⟩) bs.length bs.length)).heap[q]? = wr.heap[q]? := fun q hq hl => (heap_setCell_other _ _ _ _ (by simpa using hq)).trans (hb.block q hl)
  have hss : (w1.setCell ⟨w.heap.size + 1, k * 4 + 3, none⟩ (.slice (some ⟨gb, 0, none⟩) bs.length bs.length)).heap.size = w1.heap.size := by simp [World.setCell]
  have hslo := os.lo
  have hslt := os.lt
  have vold : ∀ e, ValOk (w.heap.size + 2) wr.heap.size wr e → ValOk (w.heap.size + 2) w1.heap.size (w1.setCell ⟨w.heap.size + 1, k * 4 + 3, none⟩ (.slice (some ⟨gb, 0, none⟩) bs.length bs.length)) e := fun e he =>
    (he.blocks (fun q h1 h2 h3 => hblk q (by omega) h3)).wide hb.size
  refine ⟨(belt h.bel hb).setCell (p := ⟨w.heap.size + 1, k * 4 + 3, none⟩) (by simp) _, (hblk _ (by omega) (by omega)).trans h.r, ?_, by rw [List.length_set]; exact h.len, fun i hi => ?_, fun i h1 h2 => ?_, fun i h1 h2 => ?_, fun i j hij h1 h2 => ?_⟩
  · rw [heap_setCell_same _ _ _ _ _ _ ((hb.block _ hlt).trans h.row)]
    rw [← flatP_set _ M k hkM]
    simp
  · rw [getD_set (by rw [h.len]; exact hi)]
    by_cases he : k = i
    · subst he; rw [if_pos rfl]; exact h.fst k hk
    · rw [if_neg he]; exact h.fst i hi
  · rw [getD_set (by rw [h.len]; exact h2), if_neg (by omega)]
    exact h.old i (by omega) h2
  · rw [hss, getD_set (by rw [h.len]; exact h2)]
    by_cases he : k = i
    · subst he
      rw [if_pos rfl]
      subst hbs
      exact ⟨_, _, rfl, ⟨Nat.le_refl _, fun h => by cases h⟩, hm, .inr ⟨gb, rfl, hslt, (os.mono (by omega)).of_block (heap_setCell_other _ _ _ _ (by simp; omega))⟩⟩
    · rw [if_neg he]
      exact vold _ (h.val i (by omega) h2)
  · rw [getD_set (by rw [h.len]; omega), getD_set (by rw [h.len]; exact h2), if_neg (by omega)]
    by_cases he : k = j
    · subst he
      rw [if_pos rfl]
      intro hn1 _ hq
      obtain ⟨ab, cb, hv, _, _, ho⟩ := h.val i hij (by omega)
      rcases ho with ho | ⟨gi, ha, hl, _⟩
      · exact hn1 ho
      · rw [hv, ha] at hq
        simp [Value.ownBlock] at hq
        omega
    · rw [if_neg he]
      exact h.sep i j hij (by omega) h2
theorem CPS.done {w wr : World} {L0 M : List (Pr × Value)} (h : CPS w wr L0 M L0.length) : OwnP (w.heap.size + 1) wr.heap.size wr (w.heap.size + 1) M := by
  have get : ∀ j v, (flatP M)[j]? = some v → wr.cell? ⟨w.heap.size + 1, j, none⟩ = some v := fun j v hj => by
    rw [cell_of_row wr _ _ _ _ _ h.row]; simpa using hj
  refine ⟨Nat.le_refl _, h.lt, ⟨_, h.row⟩, fun i hi => ?_, fun i hi => ?_, fun i j hij hj => h.sep i j hij (by rw [← h.len]; exact hj) (by rw [← h.len]; exact hj)⟩
  · obtain ⟨f0, f1, f2, f3⟩ := flatP_get M i hi
    exact ⟨get _ _ f0, get _ _ f1, get _ _ f2, get _ _ f3⟩
  · obtain ⟨ab, cb, hv, hc, hm, ho⟩ := h.val i (by rw [← h.len]; exact hi) (by rw [← h.len]; exact hi)
    refine ⟨ab, cb, hv, hc, hm, ?_⟩
    rcases ho with ho | ⟨gb, ha, hl, os⟩
    · exact .inl ho
    · exact .inr ⟨gb, ha, hl, os.mono (by omega)⟩
end Go.Proofs.YtdceimnapbblnaaGreat
namespace Go.Proofs.YtdceimnapbblnaaGreat
open Go.RowKit Go.Deep
set_option linter.unusedVariables false
theorem made_len (n : Nat) : (madeCells #[Value.int .i64 0, .int .i64 0, .int .i64 0, .slice none 0 0] (n * 4)).size = n * 4 := by simp [size_madeCells]
set_option maxHeartbeats 3200000 in
theorem copyPeers_any (q : Nat) (b d : Int) (a : Option Addr) (cap : Nat) (ps : List Pr) (w : World) (hz : 0 < ps.length) (hm : ps.length ≤ 16) (h3 : ∀ i, i < ps.length → (ps.getD i pr0).backs.length ≤ 3) (hq : q < w.heap.size) (c0 : w.cell? ⟨q, 0, none⟩ = some (.int .i64 b)) (c1 : w.cell? ⟨q, 1, none⟩ = some (.int .i64 d)) (c2 : w.cell? ⟨q, 2, none⟩ = some (.slice a ps.length cap)) (hr : PeersAt w a ps) :
    Calls Tryz.prog 100 #[.pointer (some ⟨q, 0, none⟩)] w fun e w' => ∃ g L, e = .returned (.agg #[.int .i64 b, .int .i64 d, .slice (some ⟨g, 0, none⟩) ps.length ps.length]) ∧ L.map (·.1) = ps ∧ OwnP w.heap.size w'.heap.size w' g L ∧ Below w.heap.size w w' := by
  obtain ⟨bk, off, rfl⟩ := peersAt_form hr hz
  obtain ⟨L0, hL0, hl0, hsrc, hone, hval⟩ := peers_src hr hz
  have hmk := make_peers ps.length (by omega)
  have hbk := (peersAt_cell hr hz).1
  have hA1 : Below w.heap.size w (w.alloc (.cells #[.int .i64 0, .int .i64 0, .slice none 0 0] 28)) := belA _ _
  have hA2 : Below w.heap.size w ((w.alloc (.cells #[.int .i64 0, .int .i64 0, .slice none 0 0] 28)).alloc (.cells (madeCells #[.int .i64 0, .int .i64 0, .int .i64 0, .slice none 0 0] (ps.length * 4)) 130)) := belt hA1 (belA _ _)
  have k2 : (w.alloc (.cells #[.int .i64 0, .int .i64 0, .slice none 0 0] 28)).cell? ⟨q, 2, none⟩ = some (.slice (some ⟨bk, off, none⟩) ps.length cap) := (hA1.cell (p := ⟨q, 2, none⟩) hq).trans c2
  have e2 : ((w.alloc (.cells #[.int .i64 0, .int .i64 0, .slice none 0 0] 28)).alloc (.cells (madeCells #[.int .i64 0, .int .i64 0, .int .i64 0, .slice none 0 0] (ps.length * 4)) 130)).cell? ⟨q, 2, none⟩ = some (.slice (some ⟨bk, off, none⟩) ps.length cap) := (hA2.cell (p := ⟨q, 2, none⟩) hq).trans c2
  have HSRC : Hid (∀ j v, (flatP L0)[j]? = some v → ((w.alloc (.cells #[.int .i64 0, .int .i64 0, .slice none 0 0] 28)).alloc (.cells (madeCells #[.int .i64 0, .int .i64 0, .int .i64 0, .slice none 0 0] (ps.length * 4)) 130)).cell? ((⟨bk, off, none⟩ : Addr).add j) = some v) := fun j v hj => by
    rw [add_none']
    exact (hA2.cell (p := ⟨bk, off + j, none⟩) hbk).trans (hsrc j v hj)
  have HMIN : Hid (Nat.min ps.length ps.length = ps.length) := by show min _ _ = _; simp
  have HCL : Hid ((flatP L0).length = ps.length * 4) := by unfold Hid; rw [flatP_len, hl0]
  have HFIT : Hid (0 + (flatP L0).length ≤ (madeCells #[.int .i64 0, .int .i64 0, .int .i64 0, .slice none 0 0] (ps.length * 4)).size) := by unfold Hid; rw [HCL.out, made_len]; omega
  have HONE : Hid (∀ v ∈ flatP L0, v.oneCell' = true) := hone
  have HG : Hid (((w.alloc (.cells #[.int .i64 0, .int .i64 0, .slice none 0 0] 28)).alloc (.cells (madeCells #[.int .i64 0, .int .i64 0, .int .i64 0, .slice none 0 0] (ps.length * 4)) 130)).heap[w.heap.size + 1]? = some (.cells (madeCells #[.int .i64 0, .int .i64 0, .int .i64 0, .slice none 0 0] (ps.length * 4)) 130 (0, 0))) := by
    have := heap_alloc_new (w.alloc (.cells #[.int .i64 0, .int .i64 0, .slice none 0 0] 28)) (.cells (madeCells #[.int .i64 0, .int .i64 0, .int .i64 0, .slice none 0 0] (ps.length * 4)) 130)
    unfold Hid
    simpa using this
  have HR0 : Hid (((w.alloc (.cells #[.int .i64 0, .int .i64 0, .slice none 0 0] 28)).alloc (.cells (madeCells #[.int .i64 0, .int .i64 0, .int .i64 0, .slice none 0 0] (ps.length * 4)) 130)).heap[w.heap.size]? = some (.cells #[.int .i64 0, .int .i64 0, .slice none 0 0] 28 (0, 0))) := by
    unfold Hid
    rw [heap_alloc_old _ _ (by simp)]
    exact heap_alloc_new _ _
  have HB2 : Hid (Below w.heap.size w ((w.alloc (.cells #[.int .i64 0, .int .i64 0, .slice none 0 0] 28)).alloc (.cells (madeCells #[.int .i64 0, .int .i64 0, .int .i64 0, .slice none 0 0] (ps.length * 4)) 130))) := hA2
  have HVAL : Hid (∀ i, i < ps.length → (L0.getD i d0).1 = ps.getD i pr0 ∧ ∃ ab cb, (L0.getD i d0).2 = .slice ab (ps.getD i pr0).backs.length cb ∧ RowAt w ab (ps.getD i pr0).backs) := hval
  have HL0 : Hid (L0.map (·.1) = ps) := hL0
  have HLL : Hid (L0.length = ps.length) := hl0
  have H3 : Hid (∀ i, i < ps.length → (ps.getD i pr0).backs.length ≤ 3) := h3
  have C0 : Hid (w.cell? ⟨q, 0, none⟩ = some (.int .i64 b)) := c0
  have C1 : Hid (w.cell? ⟨q, 1, none⟩ = some (.int .i64 d)) := c1
  clear hr hL0 hl0 hsrc hone hval hbk hA1 hA2 h3 c0 c1 c2
  go_enter Tryz.func100, Tryz.ntmps100
  go_wp2_with (refine wpList_copy_many rfl (.tmp 12) (.tmp 16) 26 26 rfl 130 4 ps.length Tryz.underlying26 size_peer4 (w.heap.size + 1) 0 ps.length ps.length ⟨bk, off, none⟩ ps.length cap rfl rfl (madeCells #[.int .i64 0, .int .i64 0, .int .i64 0, .slice none 0 0] (ps.length * 4)) 130 HG.out (flatP L0) HMIN.out HCL.out HSRC.out HFIT.out HONE.out w.heap.size w HB2.out (by omega) ?_; intro w1 hrow1 hb1 hk1; have ST0 : Hid (CPS w w1 L0 L0 0) := ⟨hb1.out, (hk1.out.2 _ (by omega)).trans HR0.out, by rw [hrow1.out]; simp [HCL.out, made_len], rfl, fun _ _ => rfl, fun _ _ _ => rfl, fun i hi _ => by omega, fun i j _ hj _ => by omega⟩; clear hrow1 hb1 hk1 hmk k2 e2)
  clear HSRC HMIN HCL HFIT HONE HG HR0 HB2
  go_loopw [20] (fun vi wr => ∃ (k : Nat) (M : List (Pr × Value)), k ≤ ps.length ∧ vi = .int .i64 k ∧ Hid (CPS w wr L0 M k)) (fun vi _ => ps.length - (intOf vi).toNat)
  case atStart => exact ⟨0, L0, Nat.zero_le _, rfl, ST0⟩
  case round =>
    obtain ⟨k, M, hk, rfl, ST⟩ := hrel
    clear ST0
    by_cases hlt : k < ps.length
    · have hk0 : k < L0.length := by rw [HLL.out]; exact hlt
      obtain ⟨g3, f3⟩ := ST.out.cell hk0
      obtain ⟨hv1, ab, cb, hv2, hrow⟩ := HVAL.out k hlt
      rw [ST.out.old k (Nat.le_refl _) hk0, hv2] at g3
      have hb3 := H3.out k hlt
      have hbs : (ps.getD k pr0).backs = (M.getD k d0).1.backs := by rw [ST.out.old k (Nat.le_refl _) hk0, hv1]
      have HBS : Hid ((ps.getD k pr0).backs = (M.getD k d0).1.backs) := hbs
      have hsz := ST.out.lt
      have HRW : Hid (RowAt w ab (ps.getD k pr0).backs) := hrow
      have hge : Hid ((M.getD k d0).1 = ps.getD k pr0) := by unfold Hid; rw [ST.out.old k (Nat.le_refl _) hk0, hv1]
      clear hv1 hv2 hbs hrow
      generalize (ps.getD k pr0).backs = bs at g3 hb3 HBS HRW
      have C := copyList_any ab cb bs wr (by omega) (HRW.out.keep ST.out.bel)
      go_wp2_with fail
      refine C.mono ?_
      rintro e w2 ⟨rfl, ow⟩
      have ST2 : Hid _ := ST.out.step hk0 ow.bel HBS.out (by omega) ow.owns
      have g4 : w2.cell? ⟨w.heap.size + 1, k * 4 + 3, none⟩ = some (.slice ab bs.length cb) := (ow.bel.cell (p := ⟨w.heap.size + 1, k * 4 + 3, none⟩) hsz).trans g3
      have f4 : w2.frozen? ⟨w.heap.size + 1, k * 4 + 3, none⟩ = false := frozen_of_row w2 _ _ _ _ ((ow.bel.block _ hsz).trans ST.out.row)
      clear ow C g3 f3 ST
      go_wp2_with fail
      go_roundw
      case rel => exact ⟨k + 1, _, by omega, by go_num, ST2⟩
      case measure => simp [intOf]; omega
    · obtain rfl : k = ps.length := by omega
      have hsz := ST.out.lt
      have r0 : wr.cell? ⟨w.heap.size, 0, none⟩ = some (.int .i64 0) := (cell_of_row wr _ _ _ _ _ ST.out.r).trans rfl
      have r1 : wr.cell? ⟨w.heap.size, 1, none⟩ = some (.int .i64 0) := (cell_of_row wr _ _ _ _ _ ST.out.r).trans rfl
      have r2 : wr.cell? ⟨w.heap.size, 2, none⟩ = some (.slice none 0 0) := (cell_of_row wr _ _ _ _ _ ST.out.r).trans rfl
      have q0 : wr.frozen? ⟨w.heap.size, 0, none⟩ = false := frozen_of_row wr _ _ _ _ ST.out.r
      have q1 : wr.frozen? ⟨w.heap.size, 1, none⟩ = false := frozen_of_row wr _ _ _ _ ST.out.r
      have q2 : wr.frozen? ⟨w.heap.size, 2, none⟩ = false := frozen_of_row wr _ _ _ _ ST.out.r
      have k0 : wr.cell? ⟨q, 0, none⟩ = some (.int .i64 b) := (ST.out.bel.cell (p := ⟨q, 0, none⟩) hq).trans C0.out
      have k1 : wr.cell? ⟨q, 1, none⟩ = some (.int .i64 d) := (ST.out.bel.cell (p := ⟨q, 1, none⟩) hq).trans C1.out
      have HM : Hid (M.map (·.1) = ps) := map_getD (by rw [ST.out.len, HLL.out]) (fun j hj => by rw [ST.out.fst j (by rw [HLL.out]; exact hj)]; exact (HVAL.out j hj).1)
      have OW : Hid (OwnP w.heap.size (set3 wr w.heap.size (.int .i64 b) (.int .i64 d) (.slice (some ⟨w.heap.size + 1, 0, none⟩) ps.length ps.length)).heap.size (set3 wr w.heap.size (.int .i64 b) (.int .i64 d) (.slice (some ⟨w.heap.size + 1, 0, none⟩) ps.length ps.length)) (w.heap.size + 1) M) := by
        unfold Hid
        rw [set3_size]
        have := ST.out
        rw [← HLL.out] at this
        exact (this.done.blocks (fun k hk _ _ => set3_block (by omega))).mono (by omega)
      go_wp2
      refine bodyPost_ret (results_cell_row Tryz.results100 _ _ w.heap.size _ _ _ _ rfl (set3_row ST.out.r) Tryz.underlying28 rfl (by kernel_rfl)) rfl ⟨w.heap.size + 1, M, rfl, HM.out, OW.out, set3_below ST.out.bel (Nat.le_refl _)⟩

def spL (ps : List Pr) (x pt : Int) (bs : List Int) : List Pr := ps.map (fun p => if p.id = x then ⟨p.id, p.succ, pt, bs⟩ else p)
def spOk (b d : Int) (ps : List Pr) (x pt : Int) (bs : List Int) : Bool := goodP b d ps && memI (idsP ps) x && memI (idsP ps) pt && bokB (idsP ps) bs
theorem spL_len (ps : List Pr) (x pt : Int) (bs : List Int) : (spL ps x pt bs).length = ps.length := by simp [spL]
theorem spL_get {ps : List Pr} {x pt : Int} {bs : List Int} {i : Nat} (hi : i < ps.length) : (spL ps x pt bs).getD i pr0 = if (ps.getD i pr0).id = x then ⟨(ps.getD i pr0).id, (ps.getD i pr0).succ, pt, bs⟩ else ps.getD i pr0 := by
  simp [spL, List.getD_eq_getElem?_getD, hi]
/-- in a ring the member below whom as many are as the place tells is one alone -/
theorem blw_one {b d : Int} {zs : List Int} (R : Ring b d zs) {x : Int} (hx : memI zs x = true) {i : Nat} (hi : i < zs.length) : zs.getD i 0 = x ↔ i = blw zs x := by
  have h := of_decide_eq_true hx
  constructor
  · intro he
    by_cases h1 : i < blw zs x
    · have := R.ris i (blw zs x) h1 h.1
      omega
    · by_cases h2 : blw zs x < i
      · have := R.ris (blw zs x) i h2 hi
        omega
      · omega
  · intro he
    rw [he]; exact h.2
end Go.Proofs.YtdceimnapbblnaaGreat
namespace Go.Proofs.YtdceimnapbblnaaGreat
open Go.RowKit Go.Deep
set_option linter.unusedVariables false
set_option linter.unusedSimpArgs false
set_option maxRecDepth 100000 in
set_option maxHeartbeats 3200000 in
theorem NewNet_own (b d : Int) (a : Option Addr) (cap : Nat) (ps : List Pr) (ttl : Int) (w : World) (hm : ps.length ≤ 1048576) (hr : PeersAt w a ps) :
    Calls Tryz.prog 35 #[.agg #[.int .i64 b, .int .i64 d, .slice a ps.length cap], .int .i64 ttl] w (NetOut w (newA b d ps ttl) (newB b d ps ttl)) := by
  have N0 : Hid (T2 w ((w.alloc (.cells #[.int .i64 b, .int .i64 d, .slice a ps.length cap] 28)).alloc (.cells #[.int .i64 0, .int .i64 0, .slice none 0 0, .int .i64 0, .slice none 0 0, .slice none 0 0, .slice none 0 0] 36)) #[.int .i64 b, .int .i64 d, .slice a ps.length cap] 28 #[.int .i64 0, .int .i64 0, .slice none 0 0, .int .i64 0, .slice none 0 0, .slice none 0 0, .slice none 0 0] 36) := t20 w _ _ _ _
  have HR : Hid (PeersAt w a ps) := hr
  have CG := GoodPeers_any b d a cap ps _ hm (hr.keep N0.out.bel)
  have CF := fun w => fwd_any ttl w
  clear hr
  cases hg : goodP b d ps
  · have HV : Hid (newB b d ps ttl = false) := by unfold Hid newB; rw [hg]; rfl
    rw [hg] at CG
    rw [newA_no HV.out, HV.out]
    clear hg
    go_enter Tryz.func35, Tryz.ntmps35
    go_wp2_with fail
    refine CG.mono ?_
    rintro e w1 ⟨rfl, HW⟩
    have N1 : Hid (T2 w w1 #[.int .i64 b, .int .i64 d, .slice a ps.length cap] 28 #[.int .i64 0, .int .i64 0, .slice none 0 0, .int .i64 0, .slice none 0 0, .slice none 0 0, .slice none 0 0] 36) := N0.out.keep HW
    clear CG CF HW N0
    obtain ⟨r0, r1, r2, r3, r4, r5, r6⟩ := Wire.Bk.m7 N1.out.kr
    obtain ⟨s0, s1, s2, s3, s4, s5, s6⟩ := Wire.Bk.g7 N1.out.kr
    go_wp2
    obtain ⟨E1, E2⟩ := netOut_no N1.out
    exact bodyPost_ret (results_cell_tmp Tryz.results35 _ _ (w.heap.size + 1) _ _ _ _ _ rfl rfl E1 Tryz.underlying36 rfl (by kernel_rfl)) rfl (E2)
  · have HG : Hid (goodP b d ps = true) := hg
    rw [hg] at CG
    cases ht : inB ttl 0 1000
    · have HV : Hid (newB b d ps ttl = false) := by unfold Hid newB; rw [ht, Bool.and_false]
      rw [newA_no HV.out, HV.out]
      rw [ht] at CF
      clear hg ht
      go_enter Tryz.func35, Tryz.ntmps35
      go_wp2_with fail
      refine CG.mono ?_
      rintro e w1 ⟨rfl, HW⟩
      have N1 : Hid (T2 w w1 #[.int .i64 b, .int .i64 d, .slice a ps.length cap] 28 #[.int .i64 0, .int .i64 0, .slice none 0 0, .int .i64 0, .slice none 0 0, .slice none 0 0, .slice none 0 0] 36) := N0.out.keep HW
      clear CG HW N0
      go_wp2_with fail
      refine (CF _).mono ?_
      rintro e w2 ⟨rfl, he⟩
      have he' := he.symm
      subst he'
      clear CF he
      obtain ⟨r0, r1, r2, r3, r4, r5, r6⟩ := Wire.Bk.m7 N1.out.kr
      obtain ⟨s0, s1, s2, s3, s4, s5, s6⟩ := Wire.Bk.g7 N1.out.kr
      go_wp2
      obtain ⟨E1, E2⟩ := netOut_no N1.out
      exact bodyPost_ret (results_cell_tmp Tryz.results35 _ _ (w.heap.size + 1) _ _ _ _ _ rfl rfl E1 Tryz.underlying36 rfl (by kernel_rfl)) rfl (E2)
    · have HV : Hid (newB b d ps ttl = true) := by unfold Hid newB; rw [ht, hg]; rfl
      rw [newA_yes HV.out, HV.out]
      rw [ht] at CF
      obtain ⟨R, hp⟩ := goodP_true hg
      have l1 : 1 ≤ ps.length := by have := R.l1; rwa [idsP_len] at this
      have l2 : ps.length ≤ 16 := by have := R.l2; rwa [idsP_len] at this
      have HB3 : Hid (∀ i, i < ps.length → (ps.getD i pr0).backs.length ≤ 3) := fun i hi => by have := (prB_parts.1 (hp i hi)).2.2.1; omega
      clear hg ht R hp
      go_enter Tryz.func35, Tryz.ntmps35
      go_wp2_with fail
      refine CG.mono ?_
      rintro e w1 ⟨rfl, HW⟩
      have N1 : Hid (T2 w w1 #[.int .i64 b, .int .i64 d, .slice a ps.length cap] 28 #[.int .i64 0, .int .i64 0, .slice none 0 0, .int .i64 0, .slice none 0 0, .slice none 0 0, .slice none 0 0] 36) := N0.out.keep HW
      clear CG HW N0
      go_wp2_with fail
      refine (CF _).mono ?_
      rintro e w2 ⟨rfl, he⟩
      have he' := he.symm
      subst he'
      clear CF he
      obtain ⟨q0, q1, q2⟩ := Wire.Bk.c3 N1.out.ka
      have qlt := N1.out.ka.lt
      go_wp2_with fail
      refine (copyPeers_any w.heap.size b d a cap ps w1 (by omega) l2 HB3.out qlt q0 q1 q2 (HR.out.keep N1.out.bel)).mono ?_
      rintro e w3 ⟨g, L, rfl, hL, ow, HW⟩
      have OP : Hid (OwnPs w1.heap.size w3.heap.size w3 (some ⟨g, 0, none⟩) ps.length ps) := ⟨rfl, .inr ⟨g, L, rfl, hL, ow⟩⟩
      have N3 : Hid (T2 w w3 #[.int .i64 b, .int .i64 d, .slice a ps.length cap] 28 #[.int .i64 0, .int .i64 0, .slice none 0 0, .int .i64 0, .slice none 0 0, .slice none 0 0, .slice none 0 0] 36) := N1.out.keep HW
      have Z3 : Hid (w1.heap.size ≤ w3.heap.size ∧ w.heap.size + 1 < w1.heap.size) := ⟨HW.size, N1.out.kr.lt⟩
      clear HW hL ow N1
      clear q0 q1 q2 qlt
      obtain ⟨r0, r1, r2, r3, r4, r5, r6⟩ := Wire.Bk.m7 N3.out.kr
      obtain ⟨s0, s1, s2, s3, s4, s5, s6⟩ := Wire.Bk.g7 N3.out.kr
      go_wp2
      have N4 := N3.out.res 0 [.int .i64 b, .int .i64 d, .slice (some ⟨g, 0, none⟩) ps.length ps.length, .int .i64 ttl, .slice none 0 0, .slice none 0 0, .slice none 0 0]
      rw [ovrE] at N4
      have hsz := Wire.setL_size (g := w.heap.size + 1) [.int .i64 b, .int .i64 d, .slice (some ⟨g, 0, none⟩) ps.length ps.length, .int .i64 ttl, .slice none 0 0, .slice none 0 0, .slice none 0 0] w3 0
      have OE : OwnN w.heap.size (Wire.setL w3 (w.heap.size + 1) 0 [.int .i64 b, .int .i64 d, .slice (some ⟨g, 0, none⟩) ps.length ps.length, .int .i64 ttl, .slice none 0 0, .slice none 0 0, .slice none 0 0]).heap.size (Wire.setL w3 (w.heap.size + 1) 0 [.int .i64 b, .int .i64 d, .slice (some ⟨g, 0, none⟩) ps.length ps.length, .int .i64 ttl, .slice none 0 0, .slice none 0 0, .slice none 0 0]) (some ⟨g, 0, none⟩) none none none ps.length 0 0 0 ps [] [] [] := by
        rw [hsz]
        exact ownN_peers (OP.out.blocks (fun k h1 _ _ => Wire.setL_oth (by have := Z3.out; omega) _ _ _)) (by have := Z3.out; omega) Z3.out.1 (Nat.le_refl _)
      refine bodyPost_ret (results_cell_tmp Tryz.results35 _ _ (w.heap.size + 1) _ _ _ _ _ rfl rfl N4.kr Tryz.underlying36 rfl (by kernel_rfl)) rfl ?_
      exact ⟨_, none, none, none, ps.length, 0, 0, 0, rfl, OE, N4.bel⟩
set_option maxRecDepth 100000 in
set_option maxHeartbeats 3200000 in
theorem lNewNet_own (b d : Int) (a : Option Addr) (cap : Nat) (ps : List Pr) (ttl : Int) (w : World) (hm : ps.length ≤ 1048576) (hr : PeersAt w a ps) :
    Calls Tryz.prog 36 #[.agg #[.int .i64 b, .int .i64 d, .slice a ps.length cap], .int .i64 ttl] w (NetSay w (newA b d ps ttl) (newB b d ps ttl)) := by
  have N0 : Hid (T2 w ((w.alloc (.cells #[.int .i64 b, .int .i64 d, .slice a ps.length cap] 28)).alloc (.cells #[.int .i64 0, .int .i64 0, .slice none 0 0, .int .i64 0, .slice none 0 0, .slice none 0 0, .slice none 0 0] 36)) #[.int .i64 b, .int .i64 d, .slice a ps.length cap] 28 #[.int .i64 0, .int .i64 0, .slice none 0 0, .int .i64 0, .slice none 0 0, .slice none 0 0, .slice none 0 0] 36) := t20 w _ _ _ _
  have HR : Hid (PeersAt w a ps) := hr
  have CG := lgood_any b d a cap ps _ hm (hr.keep N0.out.bel)
  have CF := fun w => lin_any ttl 0 1000 w
  clear hr
  cases hg : goodP b d ps
  · have HV : Hid (newB b d ps ttl = false) := by unfold Hid newB; rw [hg]; rfl
    rw [hg] at CG
    rw [newA_no HV.out, HV.out]
    clear hg
    go_enter Tryz.func36, Tryz.ntmps36
    go_wp2_with fail
    refine CG.mono ?_
    rintro e w1 ⟨rfl, HW⟩
    have N1 : Hid (T2 w w1 #[.int .i64 b, .int .i64 d, .slice a ps.length cap] 28 #[.int .i64 0, .int .i64 0, .slice none 0 0, .int .i64 0, .slice none 0 0, .slice none 0 0, .slice none 0 0] 36) := N0.out.keep HW
    clear CG CF HW N0
    obtain ⟨r0, r1, r2, r3, r4, r5, r6⟩ := Wire.Bk.m7 N1.out.kr
    obtain ⟨s0, s1, s2, s3, s4, s5, s6⟩ := Wire.Bk.g7 N1.out.kr
    go_wp2
    obtain ⟨E1, E2⟩ := netOut_no N1.out
    exact bodyPost_ret (results_cell_tmp Tryz.results36 _ _ (w.heap.size + 1) _ _ _ _ _ rfl rfl E1 Tryz.underlying36 rfl (by kernel_rfl)) rfl (E2.say)
  · have HG : Hid (goodP b d ps = true) := hg
    rw [hg] at CG
    cases ht : inB ttl 0 1000
    · have HV : Hid (newB b d ps ttl = false) := by unfold Hid newB; rw [ht, Bool.and_false]
      rw [newA_no HV.out, HV.out]
      rw [ht] at CF
      clear hg ht
      go_enter Tryz.func36, Tryz.ntmps36
      go_wp2_with fail
      refine CG.mono ?_
      rintro e w1 ⟨rfl, HW⟩
      have N1 : Hid (T2 w w1 #[.int .i64 b, .int .i64 d, .slice a ps.length cap] 28 #[.int .i64 0, .int .i64 0, .slice none 0 0, .int .i64 0, .slice none 0 0, .slice none 0 0, .slice none 0 0] 36) := N0.out.keep HW
      clear CG HW N0
      go_wp2_with fail
      refine (CF _).mono ?_
      rintro e w2 ⟨rfl, he⟩
      have he' := he.symm
      subst he'
      clear CF he
      obtain ⟨r0, r1, r2, r3, r4, r5, r6⟩ := Wire.Bk.m7 N1.out.kr
      obtain ⟨s0, s1, s2, s3, s4, s5, s6⟩ := Wire.Bk.g7 N1.out.kr
      go_wp2
      obtain ⟨E1, E2⟩ := netOut_no N1.out
      exact bodyPost_ret (results_cell_tmp Tryz.results36 _ _ (w.heap.size + 1) _ _ _ _ _ rfl rfl E1 Tryz.underlying36 rfl (by kernel_rfl)) rfl (E2.say)
    · have HV : Hid (newB b d ps ttl = true) := by unfold Hid newB; rw [ht, hg]; rfl
      rw [newA_yes HV.out, HV.out]
      rw [ht] at CF
      obtain ⟨R, hp⟩ := goodP_true hg
      have l1 : 1 ≤ ps.length := by have := R.l1; rwa [idsP_len] at this
      have l2 : ps.length ≤ 16 := by have := R.l2; rwa [idsP_len] at this
      have HB3 : Hid (∀ i, i < ps.length → (ps.getD i pr0).backs.length ≤ 3) := fun i hi => by have := (prB_parts.1 (hp i hi)).2.2.1; omega
      clear hg ht R hp
      go_enter Tryz.func36, Tryz.ntmps36
      go_wp2_with fail
      refine CG.mono ?_
      rintro e w1 ⟨rfl, HW⟩
      have N1 : Hid (T2 w w1 #[.int .i64 b, .int .i64 d, .slice a ps.length cap] 28 #[.int .i64 0, .int .i64 0, .slice none 0 0, .int .i64 0, .slice none 0 0, .slice none 0 0, .slice none 0 0] 36) := N0.out.keep HW
      clear CG HW N0
      go_wp2_with fail
      refine (CF _).mono ?_
      rintro e w2 ⟨rfl, he⟩
      have he' := he.symm
      subst he'
      clear CF he
      obtain ⟨q0, q1, q2⟩ := Wire.Bk.c3 N1.out.ka
      have qlt := N1.out.ka.lt
      go_wp2_with fail
      refine (lownP_any b d a cap ps w1 hm (fun i hi => by have := HB3.out i hi; omega) (HR.out.keep N1.out.bel)).mono ?_
      rintro e w3 ⟨vl, L, rfl, hL, lp, HW⟩
      obtain ⟨al, cl, rfl, hcl⟩ := lp.form
      have hLl : L.length = ps.length := by rw [← hL, List.length_map]
      have HL : Hid (L.map (·.1) = ps) := hL
      have LP : Hid (ListP w1.heap.size w3 (.slice al L.length cl) L) := lp
      have Z3 : Hid (w1.heap.size ≤ w3.heap.size ∧ w.heap.size + 1 < w1.heap.size) := ⟨HW.size, N1.out.kr.lt⟩
      have N3 : Hid (T2 w w3 #[.int .i64 b, .int .i64 d, .slice a ps.length cap] 28 #[.int .i64 0, .int .i64 0, .slice none 0 0, .int .i64 0, .slice none 0 0, .slice none 0 0, .slice none 0 0] 36) := N1.out.keep HW
      rw [hLl]
      clear HW hL lp hLl hcl N1
      clear q0 q1 q2 qlt
      obtain ⟨r0, r1, r2, r3, r4, r5, r6⟩ := Wire.Bk.m7 N3.out.kr
      obtain ⟨s0, s1, s2, s3, s4, s5, s6⟩ := Wire.Bk.g7 N3.out.kr
      go_wp2
      have N4 := N3.out.res 0 [.int .i64 b, .int .i64 d, .slice al ps.length cl, .int .i64 ttl, .slice none 0 0, .slice none 0 0, .slice none 0 0]
      rw [ovrE] at N4
      have hsz := Wire.setL_size (g := w.heap.size + 1) [.int .i64 b, .int .i64 d, .slice al ps.length cl, .int .i64 ttl, .slice none 0 0, .slice none 0 0, .slice none 0 0] w3 0
      refine bodyPost_ret (results_cell_tmp Tryz.results36 _ _ (w.heap.size + 1) _ _ _ _ _ rfl rfl N4.kr Tryz.underlying36 rfl (by kernel_rfl)) rfl ?_
      have LP2 := LP.out.blocks (by rw [hsz]; exact Nat.le_refl _) (fun k h1 _ => Wire.setL_oth (g := w.heap.size + 1) (by have := Z3.out; omega) _ w3 0)
      have PA := LP2.peersAt
      rw [HL.out] at PA
      exact ⟨_, none, none, none, _, 0, 0, 0, rfl, ⟨PA, .inl rfl, .inl rfl, .inl rfl⟩, N4.bel⟩
end Go.Proofs.YtdceimnapbblnaaGreat
namespace Go.Proofs.YtdceimnapbblnaaGreat
open Go.RowKit Go.Deep
set_option linter.unusedVariables false
set_option linter.unusedSimpArgs false
theorem wp_append_none {P : Program} {w : World} {o : Oper} {a : Act} {K : Act → World → Prop} {Q : Exit → Act → World → Prop} (s x : Operand) (t : TypeId)
    (ho : o.op = .call { callee := .builtin .append, args := #[s, x], argTypes := #[t, t] })
    (base : Nat) (e : TypeId) (i : TypeInfo) (size : Nat) (ht : P.underlying t = some (.slice e)) (hi : P.info? e = some i)
    (v : Value) (n : Nat) (xs : List Value) (hs : a.eval s = v) (hown : w.ownsRow base e size v n xs) (hx : a.eval x = .slice none 0 0)
    (h : K (a.put o.dst v) w) : o.wp P a w K Q := by
  have hrun := run_append_owned_none (P := P) (w := w) base t o.type e i size ht hi v n xs hown
  unfold Oper.wp execOp
  simp only [ho, resolve, invoke, builtin, Sem.run_bind, Sem.run_pure, Result.andThen_ok, List.map_toArray, List.map_cons, List.map_nil, hs, hx, hrun]
  exact h
/-- cells that read as messages, each with a value of its own for its list -/
structure RowM (xs : List Value) (ms : List Mg) (k : Nat) : Prop where
  len : xs.length = ms.length * 9
  el : ∀ i, i < ms.length → ∃ s, (∀ j v, (mgV (ms.getD i mg0) s)[j]? = some v → xs[i * 9 + j]? = some v) ∧ (i < k → s = .slice none 0 0)
theorem RowM.set {xs : List Value} {ms : List Mg} {k : Nat} (h : RowM xs ms k) (hk : k < ms.length) : RowM (xs.set (k * 9 + 8) (.slice none 0 0)) ms (k + 1) := by
  refine ⟨by rw [List.length_set]; exact h.len, fun i hi => ?_⟩
  obtain ⟨s, h1, h2⟩ := h.el i hi
  by_cases hik : i = k
  · subst hik
    refine ⟨.slice none 0 0, fun j v hj => ?_, fun _ => rfl⟩
    by_cases hj8 : j = 8
    · subst hj8
      have hv : v = .slice none 0 0 := by simpa [mgV] using hj.symm
      have hl := h.len
      rw [hv, List.getElem?_set_self (by omega)]
    · rw [List.getElem?_set_ne (by omega)]
      refine h1 j v ?_
      rw [← hj]
      match j with
      | 0 | 1 | 2 | 3 | 4 | 5 | 6 | 7 => rfl
      | 8 => exact absurd rfl hj8
      | n + 9 => rfl
  · refine ⟨s, fun j v hj => ?_, fun hlt => h2 (by omega)⟩
    have hjl : j < 9 := by have := (List.getElem?_eq_some_iff.1 hj).1; simpa [mgV] using this
    rw [List.getElem?_set_ne (by omega)]
    exact h1 j v hj
theorem owns_cells {w : World} {B size n cap g : Nat} {t : TypeId} {xs : List Value} (h : w.ownsRow B t size (.slice (some ⟨g, 0, none⟩) n cap) n xs) : (∃ cur, w.heap[g]? = some (.cells cur t (0, 0))) ∧ n ≤ cap ∧ B ≤ g := by
  rcases h.2 with ⟨h', _⟩ | ⟨g', cap', cur, h', hb, hg, hc, _⟩
  · simp at h'
  · simp only [Value.slice.injEq, Option.some.injEq, Addr.mk.injEq, and_true, true_and] at h'
    obtain ⟨rfl, rfl⟩ := h'
    exact ⟨⟨cur, hg⟩, hc, hb⟩
theorem flat_nil (n : Nat) : (List.replicate n ([] : List Nat)).flatten = [] := by simp
theorem rep_get (n i : Nat) : (List.replicate n ([] : List Nat)).getD i [] = [] := by
  rw [List.getD_eq_getElem?_getD, List.getElem?_replicate]
  split <;> rfl
theorem mg_own_nil (m : Mg) (hl : m.l = []) (B T : Nat) (w : World) : tyMg.own B T w (mgV m (.slice none 0 0)) m [] := by
  obtain ⟨x0, x1, x2, x3, x4, x5, x6, x7, l⟩ := m
  have hl : l = [] := hl
  subst hl
  exact ⟨none, 0, rfl, by simp, by simp, fun _ => rfl, .inl ⟨rfl, rfl⟩⟩
/-- a row of messages with no lists, owned -/
theorem rowM_own {w : World} {B n : Nat} {v : Value} {xs : List Value} {ms : List Mg} (h : w.ownsRow B 102 9 v n xs) (hn : ms.length = n) (hm : n ≤ 1048576) (hx : RowM xs ms n) (hl : ∀ i, i < ms.length → (ms.getD i mg0).l = []) :
    ∃ a c, v = .slice a n c ∧ OwnEs tyMg 102 B w.heap.size w a n ms := by
  subst hn
  rcases Joins.ownsRow_forms h with ⟨h1, h2⟩ | ⟨g, cap, rfl⟩
  · exact ⟨none, 0, by rw [h1, h2], rfl, hm, .inl (List.length_eq_zero_iff.1 h2)⟩
  · obtain ⟨⟨cur, hcur⟩, hc, hb⟩ := owns_cells h
    have hgl : g < w.heap.size := (Array.getElem?_eq_some_iff.1 hcur).1
    by_cases h0 : ms.length = 0
    · exact ⟨_, cap, rfl, rfl, hm, .inl (List.length_eq_zero_iff.1 h0)⟩
    refine ⟨_, cap, rfl, rfl, hm, .inr ⟨g, g :: (List.replicate ms.length ([] : List Nat)).flatten, cap, rfl, by simp, ?_⟩⟩
    refine ⟨_, cap, rfl, hm, hc, fun hh => (by cases hh), .inr ⟨g, cur, List.replicate ms.length [], rfl, hb, hgl, hcur, List.length_replicate, rfl, fun i hi => ?_⟩⟩
    obtain ⟨s, e1, e2⟩ := hx.el i hi
    have hs := e2 hi
    subst hs
    have hF : (List.replicate ms.length ([] : List Nat)).getD i [] = [] := rep_get _ _
    rw [hF]
    refine ⟨mgV (ms.getD i mg0) (.slice none 0 0), fun j u hj => ?_, mg_own_nil _ (hl i hi) _ _ _⟩
    have hjl : j < 9 := by have := (List.getElem?_eq_some_iff.1 hj).1; simpa [mgV] using this
    have hlt : i * 9 + j < ms.length * 9 := by
      have : (i + 1) * 9 ≤ ms.length * 9 := Nat.mul_le_mul_right _ hi
      omega
    exact (h.cellAt (i * 9 + j) hlt).trans (e1 j u hj)
/-- cells that read as replies -/
structure RowR (xs : List Value) (rs : List Rp) : Prop where
  len : xs.length = rs.length * 5
  el : ∀ i, i < rs.length → ∀ j v, (rpV (rs.getD i rp0))[j]? = some v → xs[i * 5 + j]? = some v
theorem rowR_own {w : World} {B n : Nat} {v : Value} {xs : List Value} {rs : List Rp} (h : w.ownsRow B 45 5 v n xs) (hn : rs.length = n) (hm : n ≤ 1048576) (hx : RowR xs rs) :
    ∃ a c, v = .slice a n c ∧ OwnEs tyRp 45 B w.heap.size w a n rs := by
  subst hn
  rcases Joins.ownsRow_forms h with ⟨h1, h2⟩ | ⟨g, cap, rfl⟩
  · exact ⟨none, 0, by rw [h1, h2], rfl, hm, .inl (List.length_eq_zero_iff.1 h2)⟩
  · obtain ⟨⟨cur, hcur⟩, hc, hb⟩ := owns_cells h
    have hgl : g < w.heap.size := (Array.getElem?_eq_some_iff.1 hcur).1
    by_cases h0 : rs.length = 0
    · exact ⟨_, cap, rfl, rfl, hm, .inl (List.length_eq_zero_iff.1 h0)⟩
    refine ⟨_, cap, rfl, rfl, hm, .inr ⟨g, g :: (List.replicate rs.length ([] : List Nat)).flatten, cap, rfl, by simp, ?_⟩⟩
    refine ⟨_, cap, rfl, hm, hc, fun hh => (by cases hh), .inr ⟨g, cur, List.replicate rs.length [], rfl, hb, hgl, hcur, List.length_replicate, rfl, fun i hi => ?_⟩⟩
    have hF : (List.replicate rs.length ([] : List Nat)).getD i [] = [] := rep_get _ _
    rw [hF]
    refine ⟨rpV (rs.getD i rp0), fun j u hj => ?_, rfl, rfl⟩
    have hjl : j < 5 := by have := (List.getElem?_eq_some_iff.1 hj).1; simpa [rpV] using this
    have hlt : i * 5 + j < rs.length * 5 := by
      have : (i + 1) * 5 ≤ rs.length * 5 := Nat.mul_le_mul_right _ hi
      omega
    exact (h.cellAt (i * 5 + j) hlt).trans (hx.el i hi j u hj)
/-- the cells of a slice, one behind the other -/
theorem cells_row {w : World} {bk off n size : Nat} (f : Nat → List Value) (hf : ∀ i, i < n → (f i).length = size) (h : ∀ i, i < n → CellsAt w bk (off + i * size) (f i)) (h1 : ∀ i, i < n → ∀ u ∈ f i, u.oneCell' = true) :
    ∃ xs : List Value, xs.length = n * size ∧ (∀ j u, xs[j]? = some u → w.cell? ((⟨bk, off, none⟩ : Addr).add j) = some u) ∧ (∀ i, i < n → ∀ j v, (f i)[j]? = some v → xs[i * size + j]? = some v) ∧ ∀ u ∈ xs, u.oneCell' = true := by
  induction n with
  | zero => exact ⟨[], by simp, fun j u hj => by simp at hj, fun i hi => by omega, fun u hu => by simp at hu⟩
  | succ n ih =>
    obtain ⟨xs, l1, l2, l3, l4⟩ := ih (fun i hi => hf i (by omega)) (fun i hi => h i (by omega)) (fun i hi => h1 i (by omega))
    refine ⟨xs ++ f n, by rw [List.length_append, l1, hf n (by omega), Nat.add_mul, Nat.one_mul], fun j u hj => ?_, fun i hi j v hj => ?_, fun u hu => ?_⟩
    · by_cases hlt : j < xs.length
      · rw [List.getElem?_append_left hlt] at hj
        exact l2 j u hj
      · rw [List.getElem?_append_right (by omega), l1] at hj
        have := h n (by omega) (j - n * size) u hj
        rw [add_none']
        rw [show off + j = off + n * size + (j - n * size) from by omega]
        exact this
    · by_cases he : i = n
      · subst he
        rw [List.getElem?_append_right (by omega), l1, show i * size + j - i * size = j from by omega]
        exact hj
      · have := l3 i (by omega) j v hj
        rw [List.getElem?_append_left (List.getElem?_eq_some_iff.1 this).1]
        exact this
    · rcases List.mem_append.1 hu with q | q
      · exact l4 u q
      · exact h1 n (by omega) u q
theorem msgs_row {w : World} {bk off : Nat} {ms : List Mg} (h : LsAt tyMg w (some ⟨bk, off, none⟩) ms) : ∃ xs, RowM xs ms 0 ∧ (∀ j u, xs[j]? = some u → w.cell? ((⟨bk, off, none⟩ : Addr).add j) = some u) ∧ ∀ u ∈ xs, u.oneCell' = true := by
  have key : ∀ i, i < ms.length → ∃ s : Value, CellsAt w bk (off + i * 9) (mgV (ms.getD i mg0) s) ∧ s.oneCell' = true := fun i hi => by
    obtain ⟨_, a, c, hc, _⟩ := msAt_cell h hi
    exact ⟨_, hc, rfl⟩
  obtain ⟨f, hf⟩ := @choose_lt Value ⟨.bool false⟩ _ _ key
  obtain ⟨xs, l1, l2, l3, l4⟩ := cells_row (w := w) (bk := bk) (off := off) (n := ms.length) (size := 9) (fun i => mgV (ms.getD i mg0) (f i)) (fun i _ => rfl) (fun i hi => (hf i hi).1) (fun i hi u hu => by
    have h9 := (hf i hi).2
    simp [mgV] at hu
    rcases hu with rfl | rfl | rfl | rfl | rfl | rfl | rfl | rfl | rfl <;> first | rfl | exact h9)
  exact ⟨xs, ⟨l1, fun i hi => ⟨f i, l3 i hi, fun hh => by omega⟩⟩, l2, l4⟩
theorem reps_row {w : World} {bk off : Nat} {rs : List Rp} (h : LsAt tyRp w (some ⟨bk, off, none⟩) rs) : ∃ xs, RowR xs rs ∧ (∀ j u, xs[j]? = some u → w.cell? ((⟨bk, off, none⟩ : Addr).add j) = some u) ∧ ∀ u ∈ xs, u.oneCell' = true := by
  obtain ⟨xs, l1, l2, l3, l4⟩ := cells_row (w := w) (bk := bk) (off := off) (n := rs.length) (size := 5) (fun i => rpV (rs.getD i rp0)) (fun i _ => rfl) (fun i hi => (rsAt_cell h hi).2) (fun i hi u hu => by
    simp [rpV] at hu
    rcases hu with rfl | rfl | rfl | rfl | rfl <;> rfl)
  exact ⟨xs, ⟨l1, l3⟩, l2, l4⟩
theorem reps_src {w : World} {ad : Addr} {rs : List Rp} (h : LsAt tyRp w (some ad) rs) : ∃ xs, RowR xs rs ∧ (∀ j u, xs[j]? = some u → w.cell? (ad.add j) = some u) ∧ ∀ u ∈ xs, u.oneCell' = true := by
  by_cases h0 : 0 < rs.length
  · obtain ⟨bk, off, he⟩ := lsAt_form h h0
    simp at he
    subst he
    exact reps_row h
  · have : rs = [] := List.length_eq_zero_iff.1 (by omega)
    subst this
    exact ⟨[], ⟨rfl, fun i hi => by simp at hi⟩, fun j u hj => by simp at hj, fun u hu => by simp at hu⟩
theorem msgs_src {w : World} {ad : Addr} {ms : List Mg} (h : LsAt tyMg w (some ad) ms) : ∃ xs, RowM xs ms 0 ∧ (∀ j u, xs[j]? = some u → w.cell? (ad.add j) = some u) ∧ ∀ u ∈ xs, u.oneCell' = true := by
  by_cases h0 : 0 < ms.length
  · obtain ⟨bk, off, he⟩ := lsAt_form h h0
    simp at he
    subst he
    exact msgs_row h
  · have : ms = [] := List.length_eq_zero_iff.1 (by omega)
    subst this
    exact ⟨[], ⟨rfl, fun i hi => by simp at hi⟩, fun j u hj => by simp at hj, fun u hu => by simp at hu⟩
theorem lsAt_none {e : TyI} {w : World} {ms : List e.den} (h : LsAt e w none ms) : ms = [] := by
  rcases h with h | ⟨bk, off, ha, _⟩
  · exact h
  · cases ha
theorem info_msgE : ∃ i, Tryz.prog.info? 102 = some i ∧ i.zero = some (.agg #[.int .i64 0, .int .i64 0, .int .i64 0, .int .i64 0, .int .i64 0, .int .i64 0, .int .i64 0, .int .i64 0, .slice none 0 0]) ∧ i.size = 9 ∧ i.bytes = 88 := by
  obtain ⟨i0, hi, hieq⟩ := Option.map_eq_some_iff.1 info_msg
  exact ⟨i0, hi, by simpa using hieq⟩
theorem info_replyE : ∃ i, Tryz.prog.info? 45 = some i ∧ i.zero = some (.agg #[.int .i64 0, .int .i64 0, .int .i64 0, .int .i64 0, .bool false]) ∧ i.size = 5 ∧ i.bytes = 40 := by
  obtain ⟨i0, hi, hieq⟩ := Option.map_eq_some_iff.1 info_reply
  exact ⟨i0, hi, by simpa using hieq⟩
/-- a message on its way has no list -/
theorem okMg_l {b d : Int} {ids : List Int} {m : Mg} (h : okMg b d ids m = true) : m.l = [] := by
  unfold okMg at h
  simp only [Bool.and_eq_true] at h
  obtain ⟨⟨⟨h1, h2⟩, _⟩, _⟩ := h
  have h3 := inB_true h2
  unfold Wire.gmB at h1
  simp only [Bool.and_eq_true] at h1
  have h5 := h1.2.2
  have hk : m.x0 = 1 ∨ m.x0 = 2 ∨ m.x0 = 3 := by omega
  unfold Wire.fldB at h5
  have hf : Wire.hasB (Wire.fld m.x0) 5 = false := by
    rcases hk with h | h | h <;> rw [h] <;> decide
  rw [hf] at h5
  simp [Wire.noF] at h5
  exact h5
end Go.Proofs.YtdceimnapbblnaaGreat
namespace Go.Proofs.YtdceimnapbblnaaGreat
open Go.RowKit Go.Deep
set_option linter.unusedVariables false
set_option linter.unusedSimpArgs false
theorem eraseIdx_getD {α : Type} (ms : List α) (d : α) (k i : Nat) : (ms.eraseIdx k).getD i d = if i < k then ms.getD i d else ms.getD (i + 1) d := by
  rw [List.getD_eq_getElem?_getD, List.getElem?_eraseIdx]
  split <;> rw [List.getD_eq_getElem?_getD]
theorem flatten_erase_sub : ∀ (Fs : List (List Nat)) (k : Nat), List.Sublist (Fs.eraseIdx k).flatten Fs.flatten
  | [], k => by simp
  | F :: Fs, 0 => by simp
  | F :: Fs, k + 1 => by
    simp only [List.eraseIdx_cons_succ, List.flatten_cons]
    exact List.Sublist.append_left (flatten_erase_sub Fs k) F
/-- what is owned in a row, one element taken away and those behind it moved -/
theorem ownEs_erase {e : TyI} {t : TypeId} {B T : Nat} {w w1 : World} {g n : Nat} {ms : List e.den} (h : OwnEs e t B T w (some ⟨g, 0, none⟩) n ms) {k : Nat} (hk : k < ms.length) {cur1 : Array Value}
    (hg1 : w1.heap[g]? = some (.cells cur1 t (0, 0))) (ho : ∀ z, ¬ z = g → B ≤ z → z < T → z < w.heap.size → w1.heap[z]? = w.heap[z]?)
    (h1 : ∀ j v, j < k * e.wide → w.cell? ⟨g, j, none⟩ = some v → w1.cell? ⟨g, j, none⟩ = some v)
    (h2 : ∀ j v, k * e.wide ≤ j → j < (ms.length - 1) * e.wide → w.cell? ⟨g, j + e.wide, none⟩ = some v → w1.cell? ⟨g, j, none⟩ = some v) :
    OwnEs e t B T w1 (some ⟨g, 0, none⟩) (n - 1) (ms.eraseIdx k) := by
  obtain ⟨a1, a2, h3 | ⟨g', F, cap, ha, hn, ad, cap', h0, b1, b2, b3, h4⟩⟩ := h
  · rw [h3] at hk; simp at hk
  simp only [Option.some.injEq, Addr.mk.injEq, and_true] at ha
  obtain rfl := ha
  simp at h0
  obtain ⟨rfl, rfl⟩ := h0
  have hlen : (ms.eraseIdx k).length = ms.length - 1 := List.length_eraseIdx_of_lt hk
  refine ⟨by rw [hlen, a1], by omega, ?_⟩
  rcases h4 with ⟨h4, _⟩ | ⟨g', cur, Fs, ha, hB, hT, hg, hl, hF, hc⟩
  · rw [h4] at hk; simp at hk
  simp only [Option.some.injEq, Addr.mk.injEq, and_true] at ha
  obtain rfl := ha
  subst hF
  have hnd := List.nodup_cons.1 hn
  have hsub := flatten_erase_sub Fs k
  refine .inr ⟨g, g :: (Fs.eraseIdx k).flatten, cap, rfl, ?_, some ⟨g, 0, none⟩, cap, rfl, by omega, by omega, (fun hh => by cases hh), .inr ⟨g, cur1, Fs.eraseIdx k, rfl, hB, hT, hg1, ?_, rfl, fun i hi => ?_⟩⟩
  · exact List.nodup_cons.2 ⟨fun hh => hnd.1 (hsub.subset hh), hnd.2.sublist hsub⟩
  · rw [List.length_eraseIdx_of_lt (by omega), hlen, hl]
  · rw [hlen] at hi
    rw [eraseIdx_getD, eraseIdx_getD]
    have key : ∀ q, q < ms.length → ∀ ci, e.own B T w ci (ms.getD q e.dflt) (Fs.getD q []) → e.own B T w1 ci (ms.getD q e.dflt) (Fs.getD q []) := fun q hq ci hci =>
      e.own_blocks hci (fun z hz => by
        obtain ⟨q1, q2, q3⟩ := e.own_bd hci z hz
        exact ho z (fun he => hnd.1 (by rw [← he]; exact flat_mem (by omega) hz)) q1 q2 q3)
    by_cases hik : i < k
    · rw [if_pos hik, if_pos hik]
      obtain ⟨ci, c1, c2⟩ := hc i (by omega)
      refine ⟨ci, fun j v hj => ?_, key i (by omega) ci c2⟩
      have hw := e.own_len c2
      have hjl : j < e.wide := by have := (List.getElem?_eq_some_iff.1 hj).1; omega
      have : (i + 1) * e.wide ≤ k * e.wide := Nat.mul_le_mul_right _ hik
      rw [Nat.add_mul, Nat.one_mul] at this
      exact h1 _ v (by omega) (c1 j v hj)
    · rw [if_neg hik, if_neg hik]
      obtain ⟨ci, c1, c2⟩ := hc (i + 1) (by omega)
      refine ⟨ci, fun j v hj => ?_, key (i + 1) (by omega) ci c2⟩
      have hw := e.own_len c2
      have hjl : j < e.wide := by have := (List.getElem?_eq_some_iff.1 hj).1; omega
      have t1 : k * e.wide ≤ i * e.wide := Nat.mul_le_mul_right _ (by omega)
      have t2 : (i + 1) * e.wide ≤ (ms.length - 1) * e.wide := Nat.mul_le_mul_right _ (by omega)
      have t3 := c1 j v hj
      rw [Nat.add_mul, Nat.one_mul] at t2
      rw [show (i + 1) * e.wide + j = i * e.wide + j + e.wide from by rw [Nat.add_mul]; omega] at t3
      exact h2 _ v (by omega) (by omega) t3
/-- append where there is room in the row, from whatever source -/
theorem step_append_row {P : Program} {ops : Array Oper} {o : Oper} {a : Act} {w : World} {K : Act → World → Prop} {Q : Exit → Act → World → Prop} {E : Prop}
    (hg : o.guard = none) (s x : Operand) (t : TypeId) (hop : o.op = Op.call { callee := Callee.builtin Builtin.append, args := #[s, x], argTypes := #[t, t] })
    (e : TypeId) (i : TypeInfo) (size : Nat) (h1 : P.underlying t = some (.slice e)) (h2 : P.info? e = some i) (h4 : i.size = size)
    (g k cap : Nat) (cur : Array Value) (hs : a.eval s = .slice (some ⟨g, 0, none⟩) k cap) (hcur : w.heap[g]? = some (.cells cur e (0, 0)))
    (ad : Addr) (m c : Nat) (news : List Value) (hx : a.eval x = .slice (some ad) m c) (hn : news.length = m * size) (hc : ∀ j u, news[j]? = some u → w.cell? (ad.add j) = some u) (h1c : ∀ u ∈ news, u.oneCell' = true) (hroom : k + m ≤ cap) (hfit : k * size + news.length ≤ cur.size)
    (hK : K (a.put o.dst (.slice (some ⟨g, 0, none⟩) (k + m) cap)) (w.setRow g (cur.toList.take (k * size) ++ news ++ cur.toList.drop (k * size + news.length)).toArray)) :
    if Region.wanted o (yielded ops a.tmps) = true then Oper.wp P o a w K Q else E := by
  have hw : Region.wanted o (yielded ops a.tmps) = true := by simp [Region.wanted, hg]
  rw [if_pos hw]
  subst h4
  have hrun := run_append_room (P := P) w t o.type e i h1 h2 g k cap cur hcur ad m c news hn hc h1c hroom hfit
  unfold Oper.wp
  rw [List.append_assoc] at hrun hK
  simp [execOp, hop, resolve, invoke, builtin, hs, hx, hrun, Result.andThen]
  exact hK
/-- 'clear' of some elements of a row -/
theorem run_clear_row {P : Program} (w : World) (t e ty : TypeId) (z : Value) (ht : P.underlying t = some (.slice e)) (hv : ∀ w, (zeroValue e).run P w = .ok z w) (g o n c : Nat) (hn : 0 < n) (cur : Array Value) (te : TypeId) (hg : w.heap[g]? = some (.cells cur te (0, 0)))
    (zs : List Value) (hz : (Builtin.zeroCells z.cells n).toList = zs) (h1 : ∀ u ∈ zs, u.oneCell' = true) (hfit : o + zs.length ≤ cur.size) :
    (Builtin.clear_ #[t] ty #[.slice (some ⟨g, o, none⟩) n c]).run P w = .ok (.tuple #[]) (w.setRow g (cur.toList.take o ++ zs ++ cur.toList.drop (o + zs.length)).toArray) := by
  have hst := run_storeCells_at P g o te zs 0 cur w hg (by simpa using hfit) h1
  simp only [Nat.add_zero] at hst
  obtain ⟨m, rfl⟩ : ∃ m, n = m + 1 := ⟨n - 1, by omega⟩
  simp [Builtin.clear_, run_underlying ht, hv, hz, hst]
end Go.Proofs.YtdceimnapbblnaaGreat
namespace Go.Proofs.YtdceimnapbblnaaGreat
open Go.RowKit Go.Deep
set_option linter.unusedVariables false
set_option linter.unusedSimpArgs false
/-- a row of replies of one's own, with its capacity -/
def RepW (B T : Nat) (w : World) (a : Option Addr) (c : Nat) (rs : List Rp) : Prop :=
  ∃ zs, w.ownsRow B 45 5 (.slice a rs.length c) rs.length zs ∧ RowR zs rs ∧ ∀ z, (Value.slice a rs.length c).ownBlock = some z → z < T
theorem RepW.blocks {B T : Nat} {w w1 : World} {a : Option Addr} {c : Nat} {rs : List Rp} (h : RepW B T w a c rs) (hb : ∀ k, B ≤ k → k < T → k < w.heap.size → w1.heap[k]? = w.heap[k]?) : RepW B T w1 a c rs := by
  obtain ⟨zs, h1, h2, h3⟩ := h
  exact ⟨zs, own_blocks h1 (fun z hz => hb z (h1.lt z hz).1 (h3 z hz) (h1.lt z hz).2), h2, h3⟩
theorem RepW.keep {B T : Nat} {w w1 : World} {a : Option Addr} {c : Nat} {rs : List Rp} (h : RepW B T w a c rs) (hb : Below w.heap.size w w1) : RepW B T w1 a c rs := h.blocks (fun k _ _ hk => hb.block k hk)
theorem RepW.own {B T : Nat} {w : World} {a : Option Addr} {c : Nat} {rs : List Rp} (h : RepW B T w a c rs) (hm : rs.length ≤ 1048576) : OwnEs tyRp 45 B T w a rs.length rs := by
  obtain ⟨zs, h1, h2, h3⟩ := h
  refine ⟨rfl, hm, ?_⟩
  rcases Joins.ownsRow_forms h1 with ⟨e1, e2⟩ | ⟨g, cap, e1⟩
  · exact .inl (List.length_eq_zero_iff.1 e2)
  · simp only [Value.slice.injEq] at e1
    obtain ⟨rfl, _, rfl⟩ := e1
    obtain ⟨⟨cur, hcur⟩, hc, hb⟩ := owns_cells h1
    by_cases h0 : rs.length = 0
    · exact .inl (List.length_eq_zero_iff.1 h0)
    refine .inr ⟨g, g :: (List.replicate rs.length ([] : List Nat)).flatten, c, rfl, by simp, ?_⟩
    refine ⟨_, c, rfl, hm, hc, fun hh => (by cases hh), .inr ⟨g, cur, List.replicate rs.length [], rfl, hb, h3 g rfl, hcur, List.length_replicate, rfl, fun i hi => ?_⟩⟩
    have hF : (List.replicate rs.length ([] : List Nat)).getD i [] = [] := rep_get _ _
    rw [hF]
    refine ⟨rpV (rs.getD i rp0), fun j u hj => ?_, rfl, rfl⟩
    have hjl : j < 5 := by have := (List.getElem?_eq_some_iff.1 hj).1; simpa [rpV] using this
    have hlt : i * 5 + j < rs.length * 5 := by
      have : (i + 1) * 5 ≤ rs.length * 5 := Nat.mul_le_mul_right _ hi
      omega
    exact (h1.cellAt (i * 5 + j) hlt).trans (h2.el i hi j u hj)
theorem repW_of {w : World} {B n : Nat} {v : Value} {xs : List Value} {rs : List Rp} (h : w.ownsRow B 45 5 v n xs) (hn : rs.length = n) (hx : RowR xs rs) : ∃ a c, v = .slice a n c ∧ RepW B w.heap.size w a c rs := by
  subst hn
  rcases Joins.ownsRow_forms h with ⟨h1, h2⟩ | ⟨g, cap, rfl⟩
  · refine ⟨none, 0, by rw [h1, h2], xs, ?_, hx, fun z hz => by cases hz⟩
    rw [h1, h2] at h
    rw [h2]; exact h
  · exact ⟨_, cap, rfl, xs, h, hx, fun z hz => (h.lt z hz).2⟩
theorem repW_nil (B T : Nat) (w : World) : RepW B T w none 0 [] := ⟨[], World.ownsRow_nil _ _ _ _, ⟨rfl, fun i hi => by simp at hi⟩, fun z hz => by cases hz⟩
/-- a bag of one's own, its messages without lists, with its capacity -/
def BagW (B T : Nat) (w : World) (a : Option Addr) (c : Nat) (ms : List Mg) : Prop :=
  ∃ zs, w.ownsRow B 102 9 (.slice a ms.length c) ms.length zs ∧ RowM zs ms ms.length ∧ ∀ z, (Value.slice a ms.length c).ownBlock = some z → z < T
theorem BagW.blocks {B T : Nat} {w w1 : World} {a : Option Addr} {c : Nat} {ms : List Mg} (h : BagW B T w a c ms) (hb : ∀ k, B ≤ k → k < T → k < w.heap.size → w1.heap[k]? = w.heap[k]?) : BagW B T w1 a c ms := by
  obtain ⟨zs, h1, h2, h3⟩ := h
  exact ⟨zs, own_blocks h1 (fun z hz => hb z (h1.lt z hz).1 (h3 z hz) (h1.lt z hz).2), h2, h3⟩
theorem BagW.keep {B T : Nat} {w w1 : World} {a : Option Addr} {c : Nat} {ms : List Mg} (h : BagW B T w a c ms) (hb : Below w.heap.size w w1) : BagW B T w1 a c ms := h.blocks (fun k _ _ hk => hb.block k hk)
theorem BagW.own {B T : Nat} {w : World} {a : Option Addr} {c : Nat} {ms : List Mg} (h : BagW B T w a c ms) (hm : ms.length ≤ 1048576) (hl : ∀ i, i < ms.length → (ms.getD i mg0).l = []) : OwnEs tyMg 102 B T w a ms.length ms := by
  obtain ⟨zs, h1, hx, h3⟩ := h
  refine ⟨rfl, hm, ?_⟩
  rcases Joins.ownsRow_forms h1 with ⟨e1, e2⟩ | ⟨g, cap, e1⟩
  · exact .inl (List.length_eq_zero_iff.1 e2)
  · simp only [Value.slice.injEq] at e1
    obtain ⟨rfl, _, rfl⟩ := e1
    obtain ⟨⟨cur, hcur⟩, hc, hb⟩ := owns_cells h1
    by_cases h0 : ms.length = 0
    · exact .inl (List.length_eq_zero_iff.1 h0)
    refine .inr ⟨g, g :: (List.replicate ms.length ([] : List Nat)).flatten, c, rfl, by simp, ?_⟩
    refine ⟨_, c, rfl, hm, hc, fun hh => (by cases hh), .inr ⟨g, cur, List.replicate ms.length [], rfl, hb, h3 g rfl, hcur, List.length_replicate, rfl, fun i hi => ?_⟩⟩
    obtain ⟨s, e1, e2⟩ := hx.el i hi
    have hs := e2 hi
    subst hs
    have hF : (List.replicate ms.length ([] : List Nat)).getD i [] = [] := rep_get _ _
    rw [hF]
    refine ⟨mgV (ms.getD i mg0) (.slice none 0 0), fun j u hj => ?_, mg_own_nil _ (hl i hi) _ _ _⟩
    have hjl : j < 9 := by have := (List.getElem?_eq_some_iff.1 hj).1; simpa [mgV] using this
    have hlt : i * 9 + j < ms.length * 9 := by
      have : (i + 1) * 9 ≤ ms.length * 9 := Nat.mul_le_mul_right _ hi
      omega
    exact (h1.cellAt (i * 9 + j) hlt).trans (e1 j u hj)
/-- a net that the program copied: its lists in rows of their own, apart from one another -/
structure CpN (B T : Nat) (w : World) (ap am ag ar : Option Addr) (cm cr : Nat) (ps : List Pr) (ms : List Mg) (gs : List Int) (rs : List Rp) : Prop where
  ex : ∃ p0 p1 m0 m1 g0 g1 r0 r1 : Nat, (B ≤ p0 ∧ p0 ≤ p1 ∧ p1 ≤ T ∧ B ≤ m0 ∧ m1 ≤ T ∧ B ≤ g0 ∧ g1 ≤ T ∧ B ≤ r0 ∧ r1 ≤ T) ∧ ((p1 ≤ m0 ∨ m1 ≤ p0) ∧ (p1 ≤ g0 ∨ g1 ≤ p0) ∧ (p1 ≤ r0 ∨ r1 ≤ p0) ∧ (m1 ≤ g0 ∨ g1 ≤ m0) ∧ (m1 ≤ r0 ∨ r1 ≤ m0) ∧ (g1 ≤ r0 ∨ r1 ≤ g0)) ∧
    OwnPs p0 p1 w ap ps.length ps ∧ BagW m0 m1 w am cm ms ∧ OwnLs g0 g1 w ag gs.length gs ∧ RepW r0 r1 w ar cr rs
theorem CpN.own {B T : Nat} {w : World} {ap am ag ar : Option Addr} {cm cr : Nat} {ps : List Pr} {ms : List Mg} {gs : List Int} {rs : List Rp} (h : CpN B T w ap am ag ar cm cr ps ms gs rs) (hm : ms.length ≤ 1048576) (hr : rs.length ≤ 1048576) (hl : ∀ i, i < ms.length → (ms.getD i mg0).l = []) : OwnN B T w ap am ag ar ps.length ms.length gs.length rs.length ps ms gs rs := by
  obtain ⟨p0, p1, m0, m1, g0, g1, r0, r1, h1, h2, a1, a2, a3, a4⟩ := h.ex
  exact ⟨⟨p0, p1, m0, m1, g0, g1, r0, r1, h1, h2, a1, a2.own hm hl, a3, a4.own hr⟩⟩
theorem CpN.blocks {B T : Nat} {w w1 : World} {ap am ag ar : Option Addr} {cm cr : Nat} {ps : List Pr} {ms : List Mg} {gs : List Int} {rs : List Rp} (h : CpN B T w ap am ag ar cm cr ps ms gs rs) (hb : ∀ k, B ≤ k → k < T → k < w.heap.size → w1.heap[k]? = w.heap[k]?) : CpN B T w1 ap am ag ar cm cr ps ms gs rs := by
  obtain ⟨p0, p1, m0, m1, g0, g1, r0, r1, hr, hd, h1, h2, h3, h4⟩ := h.ex
  exact ⟨⟨p0, p1, m0, m1, g0, g1, r0, r1, hr, hd, h1.blocks (fun k a1 a2 a3 => hb k (by omega) (by omega) a3), h2.blocks (fun k a1 a2 a3 => hb k (by omega) (by omega) a3), h3.blocks (fun k a1 a2 a3 => hb k (by omega) (by omega) a3), h4.blocks (fun k a1 a2 a3 => hb k (by omega) (by omega) a3)⟩⟩
theorem CpN.keep {B T : Nat} {w w1 : World} {ap am ag ar : Option Addr} {cm cr : Nat} {ps : List Pr} {ms : List Mg} {gs : List Int} {rs : List Rp} (h : CpN B T w ap am ag ar cm cr ps ms gs rs) (hb : Below w.heap.size w w1) : CpN B T w1 ap am ag ar cm cr ps ms gs rs := h.blocks (fun k _ _ hk => hb.block k hk)
/-- the copy, its peers and its looks in memory of their own -/
structure CA (w0 wc : World) (X p0 p1 g0 g1 : Nat) (av gv : Option Addr) (b d ttl : Int) (ps : List Pr) (gs : List Int) (vb vr : Value) : Prop where
  bel : Below w0.heap.size w0 wc
  bx : Wire.Bk wc X #[.int .i64 b, .int .i64 d, .slice av ps.length ps.length, .int .i64 ttl, vb, .slice gv gs.length gs.length, vr] 36
  num : w0.heap.size ≤ X ∧ w0.heap.size ≤ p0 ∧ p0 ≤ p1 ∧ p1 ≤ wc.heap.size ∧ w0.heap.size ≤ g0 ∧ g0 ≤ g1 ∧ g1 ≤ wc.heap.size ∧ (X < p0 ∨ p1 ≤ X) ∧ (X < g0 ∨ g1 ≤ X) ∧ (p1 ≤ g0 ∨ g1 ≤ p0)
  op : OwnPs p0 p1 wc av ps.length ps
  og : OwnLs g0 g1 wc gv gs.length gs
theorem CA.keep {w0 wc w1 : World} {X p0 p1 g0 g1 : Nat} {av gv : Option Addr} {b d ttl : Int} {ps : List Pr} {gs : List Int} {vb vr : Value} (h : CA w0 wc X p0 p1 g0 g1 av gv b d ttl ps gs vb vr) (hb : Below wc.heap.size wc w1) : CA w0 w1 X p0 p1 g0 g1 av gv b d ttl ps gs vb vr :=
  ⟨belt h.bel hb, h.bx.keep hb, by have := h.num; have := hb.size; omega, h.op.keep hb, h.og.keep hb⟩
theorem CA.setr {w0 wc : World} {X p0 p1 g0 g1 : Nat} {av gv : Option Addr} {b d ttl : Int} {ps : List Pr} {gs : List Int} {vb vr : Value} (h : CA w0 wc X p0 p1 g0 g1 av gv b d ttl ps gs vb vr) (v : Value) : CA w0 (wc.setCell ⟨X, 6, none⟩ v) X p0 p1 g0 g1 av gv b d ttl ps gs vb v := by
  have hn := h.num
  exact ⟨h.bel.setCell (p := ⟨X, 6, none⟩) hn.1 v, h.bx.set 6 v, by simpa [World.setCell] using hn, h.op.blocks (fun z h1 h2 _ => heap_setCell_other _ _ _ _ (by simp; omega)), h.og.blocks (fun z h1 h2 _ => heap_setCell_other _ _ _ _ (by simp; omega))⟩
theorem CA.setb {w0 wc : World} {X p0 p1 g0 g1 : Nat} {av gv : Option Addr} {b d ttl : Int} {ps : List Pr} {gs : List Int} {vb vr : Value} (h : CA w0 wc X p0 p1 g0 g1 av gv b d ttl ps gs vb vr) (v : Value) : CA w0 (wc.setCell ⟨X, 4, none⟩ v) X p0 p1 g0 g1 av gv b d ttl ps gs v vr := by
  have hn := h.num
  exact ⟨h.bel.setCell (p := ⟨X, 4, none⟩) hn.1 v, h.bx.set 4 v, by simpa [World.setCell] using hn, h.op.blocks (fun z h1 h2 _ => heap_setCell_other _ _ _ _ (by simp; omega)), h.og.blocks (fun z h1 h2 _ => heap_setCell_other _ _ _ _ (by simp; omega))⟩
theorem CA.oth {w0 wc : World} {X p0 p1 g0 g1 : Nat} {av gv : Option Addr} {b d ttl : Int} {ps : List Pr} {gs : List Int} {vb vr : Value} (h : CA w0 wc X p0 p1 g0 g1 av gv b d ttl ps gs vb vr) {g : Nat} (h1 : w0.heap.size ≤ g) (h2 : X < g) (h3 : p1 ≤ g) (h4 : g1 ≤ g) (i : Nat) (v : Value) : CA w0 (wc.setCell ⟨g, i, none⟩ v) X p0 p1 g0 g1 av gv b d ttl ps gs vb vr :=
  ⟨h.bel.setCell (p := ⟨g, i, none⟩) h1 v, h.bx.oth (by omega) i v, by simpa [World.setCell] using h.num, h.op.blocks (fun z a1 a2 _ => heap_setCell_other _ _ _ _ (by simp; omega)), h.og.blocks (fun z a1 a2 _ => heap_setCell_other _ _ _ _ (by simp; omega))⟩
set_option maxRecDepth 100000 in
set_option maxHeartbeats 12800000 in
theorem copyNet_any (q : Nat) (b d ttl : Int) (ap am ag ar : Option Addr) (cp cm cg cr : Nat) (ps : List Pr) (ms : List Mg) (gs : List Int) (rs : List Rp) (w : World) (hg : goodN b d ttl ps ms gs rs = true) (hb : BigN ps ms gs rs) (hq : q < w.heap.size) (hk : Wire.Bk w q #[.int .i64 b, .int .i64 d, .slice ap ps.length cp, .int .i64 ttl, .slice am ms.length cm, .slice ag gs.length cg, .slice ar rs.length cr] 36) (hr : NetAt w ap am ag ar ps ms gs rs) (hcm : am = none → cm = 0) (hcr : ar = none → cr = 0) :
    Calls Tryz.prog 92 #[.pointer (some ⟨q, 0, none⟩)] w fun e w' => ∃ (ap' am' ag' ar' : Option Addr) (cm' cr' : Nat), e = .returned (.agg #[.int .i64 b, .int .i64 d, .slice ap' ps.length ps.length, .int .i64 ttl, .slice am' ms.length cm', .slice ag' gs.length gs.length, .slice ar' rs.length cr']) ∧ CpN w.heap.size w'.heap.size w' ap' am' ag' ar' cm' cr' ps ms gs rs ∧ Below w.heap.size w w' := by
  have hP : goodP b d ps = true := by unfold goodN at hg; simp only [Bool.and_eq_true] at hg; exact hg.1.1.1.1.1.1
  have hlen := goodN_len hg
  have HML : Hid (∀ i, i < ms.length → (ms.getD i mg0).l = []) := fun i hi => by
    unfold goodN at hg
    simp only [Bool.and_eq_true, decide_eq_true_eq] at hg
    exact okMg_l (hg.1.2 i hi)
  obtain ⟨R, hp⟩ := goodP_true hP
  have hz1 : 0 < ps.length := by have := R.l1; rw [idsP_len] at this; omega
  have hz2 : ps.length ≤ 16 := by have := R.l2; rwa [idsP_len] at this
  have HB3 : Hid (∀ i, i < ps.length → (ps.getD i pr0).backs.length ≤ 3) := fun i hi => by have := (prB_parts.1 (hp i hi)).2.2.1; omega
  have hgl : gs.length ≤ 1048576 := hb.g
  have hml : ms.length ≤ 12 := by omega
  have hrl : rs.length ≤ 12 := by omega
  obtain ⟨w0, hw0⟩ : ∃ w0, w0 = w.alloc (.cells #[.int .i64 0, .int .i64 0, .slice none 0 0, .int .i64 0, .slice none 0 0, .slice none 0 0, .slice none 0 0] 36) := ⟨_, rfl⟩
  have HB0 : Hid (Below w.heap.size w w0) := by rw [hw0]; exact belA _ _
  have hs0 : Hid (w0.heap.size = w.heap.size + 1) := by rw [Hid, hw0]; simp
  have HRC : Hid (Wire.Bk w0 w.heap.size #[.int .i64 0, .int .i64 0, .slice none 0 0, .int .i64 0, .slice none 0 0, .slice none 0 0, .slice none 0 0] 36) := by rw [hw0]; exact Wire.Bk.new _ _ _
  have HK0 : Hid (Wire.Bk w0 q #[.int .i64 b, .int .i64 d, .slice ap ps.length cp, .int .i64 ttl, .slice am ms.length cm, .slice ag gs.length cg, .slice ar rs.length cr] 36) := hk.keep HB0.out
  have HR0 : Hid (NetAt w0 ap am ag ar ps ms gs rs) := hr.keep HB0.out
  have hq0 : q < w0.heap.size := by have := hs0.out; omega
  clear hr hk hb hg hP R hp hlen
  go_enter Tryz.func92, Tryz.ntmps92
  go_wp2_with fail
  rw [← hw0]
  clear hw0
  go_cut [3] (fun v3 wc => ∃ (X p0 p1 g0 g1 : Nat) (av gv : Option Addr), v3 = .pointer (some ⟨X, 0, none⟩) ∧ Hid (CA w0 wc X p0 p1 g0 g1 av gv b d ttl ps gs (.slice none 0 0) (.slice none 0 0)))
  case first =>
    obtain ⟨j0, j1, j2, j3, j4, j5, j6⟩ := Wire.Bk.m7 HK0.out
    refine wp_region_held_drew (S := fun w' => Below w0.heap.size w0 w') (by kernel_rfl) ((Below.refl _ _).drew) (fun hs0' => ?_)
    have hd0 : Hid (w0.drew.heap.size = w0.heap.size) := rfl
    have hs00 : Below w0.heap.size w0 w0.drew := (Below.refl _ _).drew
    generalize w0.drew = w00 at *
    have hs0 := hs00
    refine wpAnyH_take (i := 0) (oi := _) (v := _) rfl (by kernel_rfl) (by kernel_rfl) (by kernel_rfl) (fun _ _ _ h => h) (.inl ⟨by rfl, by intro w hSw; go_simp; with_reducible rfl⟩) hs0 ?_
    simp only [Act.put, List.setIfInBounds_toArray, List.set_cons_zero, List.set_cons_succ]
    refine wpAnyH_take (i := 1) (oi := _) (v := _) rfl (by kernel_rfl) (by kernel_rfl) (by kernel_rfl) (fun _ _ _ h => h) (.inl ⟨by rfl, by intro w hSw; go_simp; with_reducible rfl⟩) hs0 ?_
    simp only [Act.put, List.setIfInBounds_toArray, List.set_cons_zero, List.set_cons_succ]
    refine wpAnyH_take (i := 2) (oi := _) (v := _) rfl (by kernel_rfl) (by kernel_rfl) (by kernel_rfl) (fun _ _ _ h => h) (.inl ⟨by rfl, by intro w hSw; go_simp; with_reducible rfl⟩) hs0 ?_
    simp only [Act.put, List.setIfInBounds_toArray, List.set_cons_zero, List.set_cons_succ]
    refine wpAnyH_take (i := 4) (oi := _) (v := _) rfl (by kernel_rfl) (by kernel_rfl) (by kernel_rfl) (fun _ _ _ h => h) (.inl ⟨by rfl, by intro w hSw; go_simp; with_reducible rfl⟩) hs0 ?_
    simp only [Act.put, List.setIfInBounds_toArray, List.set_cons_zero, List.set_cons_succ]
    refine wpAnyH_take (i := 5) (oi := _) (v := _) rfl (by kernel_rfl) (by kernel_rfl) (by kernel_rfl) (fun _ _ _ h => h) (.inl ⟨by rfl, by intro w hSw; go_simp; with_reducible rfl⟩) hs0 ?_
    simp only [Act.put, List.setIfInBounds_toArray, List.set_cons_zero, List.set_cons_succ]
    refine wpAnyH_take (i := 6) (oi := _) (v := _) rfl (by kernel_rfl) (by kernel_rfl) (by kernel_rfl) (fun _ _ _ h => h) (.inl ⟨by rfl, by intro w hSw; go_simp; with_reducible rfl⟩) hs0 ?_
    simp only [Act.put, List.setIfInBounds_toArray, List.set_cons_zero, List.set_cons_succ]
    refine wpAnyH_take (i := 7) (oi := _) (v := _) rfl (by kernel_rfl) (by kernel_rfl) (by kernel_rfl) (fun _ _ _ h => h) (.inl ⟨by rfl, by intro w hSw; have hcc := (hSw.cell (p := ⟨q, 3, none⟩) hq0).trans j3; go_simp; with_reducible rfl⟩) hs0 ?_
    simp only [Act.put, List.setIfInBounds_toArray, List.set_cons_zero, List.set_cons_succ]
    refine wpAnyH_take (i := 8) (oi := _) (v := _) rfl (by kernel_rfl) (by kernel_rfl) (by kernel_rfl) (fun _ _ _ h => h) (.inl ⟨by rfl, by intro w hSw; go_simp; with_reducible rfl⟩) hs0 ?_
    simp only [Act.put, List.setIfInBounds_toArray, List.set_cons_zero, List.set_cons_succ]
    refine wpAnyH_take (i := 9) (oi := _) (v := _) rfl (by kernel_rfl) (by kernel_rfl) (by kernel_rfl) (fun _ _ _ h => h) (.inl ⟨by rfl, by intro w hSw; go_simp; with_reducible rfl⟩) hs0 ?_
    simp only [Act.put, List.setIfInBounds_toArray, List.set_cons_zero, List.set_cons_succ]
    refine wpAnyH_take (i := 10) (oi := _) (v := _) rfl (by kernel_rfl) (by kernel_rfl) (by kernel_rfl) (fun _ _ _ h => h) (.inl ⟨by rfl, by intro w hSw; go_simp; with_reducible rfl⟩) hs0 ?_
    simp only [Act.put, List.setIfInBounds_toArray, List.set_cons_zero, List.set_cons_succ]
    refine wpAnyH_take (i := 11) (oi := _) (v := _) rfl (by kernel_rfl) (by kernel_rfl) (by kernel_rfl) (fun _ _ _ h => h) (.inl ⟨by rfl, by intro w hSw; have hcc := (hSw.cell (p := ⟨q, 5, none⟩) hq0).trans j5; go_simp; with_reducible rfl⟩) hs0 ?_
    simp only [Act.put, List.setIfInBounds_toArray, List.set_cons_zero, List.set_cons_succ]
    refine wpAnyH_ready (rs := [3, 14]) (by kernel_rfl) (by simp) ?_
    refine AllReadyH.cons rfl (fun K hK => ?_) ?_
    · skip
      go_simp
      refine (copyPeers_any q b d ap cp ps _ hz1 hz2 HB3.out (Nat.lt_of_lt_of_le hq0 hs0.size) ((hs0.cell (p := ⟨q, 0, none⟩) hq0).trans j0) ((hs0.cell (p := ⟨q, 1, none⟩) hq0).trans j1) ((hs0.cell (p := ⟨q, 2, none⟩) hq0).trans j2) (HR0.out.p.keep hs0)).mono ?_
      rintro e w1 ⟨gP, LP, rfl, hLP, owP, hw⟩
      have hs1 := belt hs0 hw
      have hzw1 : w00.heap.size ≤ w1.heap.size := hw.size
      have P1 : Hid (OwnPs w00.heap.size w1.heap.size w1 (some ⟨gP, 0, none⟩) ps.length ps) := ⟨rfl, .inr ⟨gP, LP, rfl, hLP, owP⟩⟩
      refine hK.out _ _ hs1 (fun _ => ?_)
      clear hK K hw hLP owP
      refine wpAnyH_ready (rs := [12, 14]) (by kernel_rfl) (by simp) ?_
      refine AllReadyH.cons rfl (fun K hK => ?_) ?_
      · skip
        go_simp
        refine (copyList_any ag cg gs _ hgl (HR0.out.g.keep hs1)).mono ?_
        rintro e w2 ⟨rfl, oz⟩
        have hw := oz.bel
        have hs2 := belt hs1 hw
        have hzw2 : w1.heap.size ≤ w2.heap.size := hw.size
        have P2 : Hid (OwnPs w00.heap.size w1.heap.size w2 (some ⟨gP, 0, none⟩) ps.length ps) := P1.out.keep hw
        have G2 : Hid (OwnLs w1.heap.size w2.heap.size w2 (some ⟨w1.heap.size, 0, none⟩) gs.length gs) := ⟨rfl, .inr ⟨_, rfl, oz.lt, oz.owns⟩⟩
        refine hK.out _ _ hs2 (fun _ => ?_)
        clear hK K hw oz
        refine wpAnyH_take (i := 13) (oi := _) (v := _) rfl (by kernel_rfl) (by kernel_rfl) (by kernel_rfl) (fun _ _ _ h => h) (.inl ⟨by rfl, by intro w hSw; go_simp; with_reducible rfl⟩) hs2 ?_
        simp only [Act.put, List.setIfInBounds_toArray, List.set_cons_zero, List.set_cons_succ]
        refine wpAnyH_ready (rs := [14]) (by kernel_rfl) (by simp) ?_
        refine AllReadyH.cons rfl (fun K hK => ?_) AllReadyH.nil
        go_simp
        have hw : Below w2.heap.size w2 (w2.alloc (.cells #[.int .i64 0, .int .i64 0, .slice none 0 0, .int .i64 0, .slice none 0 0, .slice none 0 0, .slice none 0 0] 36)) := belA _ _
        have xx : Wire.Bk (w2.alloc (.cells #[.int .i64 0, .int .i64 0, .slice none 0 0, .int .i64 0, .slice none 0 0, .slice none 0 0, .slice none 0 0] 36)) w2.heap.size #[.int .i64 0, .int .i64 0, .slice none 0 0, .int .i64 0, .slice none 0 0, .slice none 0 0, .slice none 0 0] 36 := Wire.Bk.new _ _ _
        have hzz : (w2.alloc (.cells #[.int .i64 0, .int .i64 0, .slice none 0 0, .int .i64 0, .slice none 0 0, .slice none 0 0, .slice none 0 0] 36)).heap.size = w2.heap.size + 1 := by simp
        have hs3 := belt hs2 hw
        refine hK.out _ _ hs3 (fun _ => ?_)
        clear hK K
        generalize w2.alloc (.cells #[.int .i64 0, .int .i64 0, .slice none 0 0, .int .i64 0, .slice none 0 0, .slice none 0 0, .slice none 0 0] 36) = w3 at *
        have hzw3 : w2.heap.size + 1 ≤ w3.heap.size := Nat.le_of_eq hzz.symm
        have P3 : Hid (OwnPs w00.heap.size w1.heap.size w3 (some ⟨gP, 0, none⟩) ps.length ps) := P2.out.keep hw
        have G3 : Hid (OwnLs w1.heap.size w2.heap.size w3 (some ⟨w1.heap.size, 0, none⟩) gs.length gs) := G2.out.keep hw
        have X3 : Hid (Wire.Bk w3 w2.heap.size #[.int .i64 0, .int .i64 0, .slice none 0 0, .int .i64 0, .slice none 0 0, .slice none 0 0, .slice none 0 0] 36) := xx
        clear hw xx hzz
        refine wpAnyH_ready (rs := [15]) (by kernel_rfl) (by simp) ?_
        refine AllReadyH.cons rfl (fun K hK => ?_) AllReadyH.nil
        obtain ⟨q0, q1, q2, q3, q4, q5, q6⟩ := Wire.Bk.m7 X3.out
        obtain ⟨f0, f1, f2, f3, f4, f5, f6⟩ := Wire.Bk.g7 X3.out
        have xlt := X3.out.lt
        have hsl := hs3.size
        have hs0s : w0.heap.size ≤ w00.heap.size := Nat.le_of_eq hd0.out.symm
        go_simp
        have num : w0.heap.size ≤ w2.heap.size ∧ w0.heap.size ≤ w00.heap.size ∧ w00.heap.size ≤ w1.heap.size ∧ w1.heap.size ≤ w3.heap.size ∧ w0.heap.size ≤ w1.heap.size ∧ w1.heap.size ≤ w2.heap.size ∧ w2.heap.size ≤ w3.heap.size ∧ (w2.heap.size < w00.heap.size ∨ w1.heap.size ≤ w2.heap.size) ∧ (w2.heap.size < w1.heap.size ∨ w2.heap.size ≤ w2.heap.size) ∧ (w1.heap.size ≤ w1.heap.size ∨ w2.heap.size ≤ w00.heap.size) := by omega
        have bx1 := X3.out.setL [.int .i64 b, .int .i64 d, .slice (some ⟨gP, 0, none⟩) ps.length ps.length, .int .i64 ttl, .slice none 0 0, .slice (some ⟨w1.heap.size, 0, none⟩) gs.length gs.length, .slice none 0 0] 0
        rw [ovrE] at bx1
        have fin : CA w0 (Wire.setL w3 w2.heap.size 0 [.int .i64 b, .int .i64 d, .slice (some ⟨gP, 0, none⟩) ps.length ps.length, .int .i64 ttl, .slice none 0 0, .slice (some ⟨w1.heap.size, 0, none⟩) gs.length gs.length, .slice none 0 0]) w2.heap.size w00.heap.size w1.heap.size w1.heap.size w2.heap.size (some ⟨gP, 0, none⟩) (some ⟨w1.heap.size, 0, none⟩) b d ttl ps gs (.slice none 0 0) (.slice none 0 0) := ⟨Wire.setL_below num.1 _ 0 hs3, bx1, by rw [Wire.setL_size]; exact num, P3.out.blocks (fun z h1 h2 _ => Wire.setL_oth (by have := num.2.2.2.2.2.2.2.1; omega) _ _ _), G3.out.blocks (fun z h1 h2 _ => Wire.setL_oth (by have := num.2.2.2.2.2.2.2.2.1; omega) _ _ _)⟩
        refine hK.out _ _ fin.bel (fun _ => ?_)
        clear hK K q0 q1 q2 q3 q4 q5 q6 f0 f1 f2 f3 f4 f5 f6
        refine wpAnyH_done (by kernel_rfl) ?_ _
        have FIN : Hid (CA w0 _ _ _ _ _ _ _ _ b d ttl ps gs _ _) := fin
        clear fin bx1 num
        go_wp2_with fail
        go_meet
        exact ⟨_, _, _, _, _, _, _, rfl, FIN⟩
      refine AllReadyH.cons rfl (fun K hK => ?_) AllReadyH.nil
      go_simp
      have hw : Below w1.heap.size w1 (w1.alloc (.cells #[.int .i64 0, .int .i64 0, .slice none 0 0, .int .i64 0, .slice none 0 0, .slice none 0 0, .slice none 0 0] 36)) := belA _ _
      have xx : Wire.Bk (w1.alloc (.cells #[.int .i64 0, .int .i64 0, .slice none 0 0, .int .i64 0, .slice none 0 0, .slice none 0 0, .slice none 0 0] 36)) w1.heap.size #[.int .i64 0, .int .i64 0, .slice none 0 0, .int .i64 0, .slice none 0 0, .slice none 0 0, .slice none 0 0] 36 := Wire.Bk.new _ _ _
      have hzz : (w1.alloc (.cells #[.int .i64 0, .int .i64 0, .slice none 0 0, .int .i64 0, .slice none 0 0, .slice none 0 0, .slice none 0 0] 36)).heap.size = w1.heap.size + 1 := by simp
      have hs2 := belt hs1 hw
      refine hK.out _ _ hs2 (fun _ => ?_)
      clear hK K
      generalize w1.alloc (.cells #[.int .i64 0, .int .i64 0, .slice none 0 0, .int .i64 0, .slice none 0 0, .slice none 0 0, .slice none 0 0] 36) = w2 at *
      have hzw2 : w1.heap.size + 1 ≤ w2.heap.size := Nat.le_of_eq hzz.symm
      have P2 : Hid (OwnPs w00.heap.size w1.heap.size w2 (some ⟨gP, 0, none⟩) ps.length ps) := P1.out.keep hw
      have X2 : Hid (Wire.Bk w2 w1.heap.size #[.int .i64 0, .int .i64 0, .slice none 0 0, .int .i64 0, .slice none 0 0, .slice none 0 0, .slice none 0 0] 36) := xx
      clear hw xx hzz
      refine wpAnyH_ready (rs := [12]) (by kernel_rfl) (by simp) ?_
      refine AllReadyH.cons rfl (fun K hK => ?_) AllReadyH.nil
      go_simp
      refine (copyList_any ag cg gs _ hgl (HR0.out.g.keep hs2)).mono ?_
      rintro e w3 ⟨rfl, oz⟩
      have hw := oz.bel
      have hs3 := belt hs2 hw
      have hzw3 : w2.heap.size ≤ w3.heap.size := hw.size
      have P3 : Hid (OwnPs w00.heap.size w1.heap.size w3 (some ⟨gP, 0, none⟩) ps.length ps) := P2.out.keep hw
      have X3 : Hid (Wire.Bk w3 w1.heap.size #[.int .i64 0, .int .i64 0, .slice none 0 0, .int .i64 0, .slice none 0 0, .slice none 0 0, .slice none 0 0] 36) := X2.out.keep hw
      have G3 : Hid (OwnLs w2.heap.size w3.heap.size w3 (some ⟨w2.heap.size, 0, none⟩) gs.length gs) := ⟨rfl, .inr ⟨_, rfl, oz.lt, oz.owns⟩⟩
      refine hK.out _ _ hs3 (fun _ => ?_)
      clear hK K hw oz
      refine wpAnyH_take (i := 13) (oi := _) (v := _) rfl (by kernel_rfl) (by kernel_rfl) (by kernel_rfl) (fun _ _ _ h => h) (.inl ⟨by rfl, by intro w hSw; go_simp; with_reducible rfl⟩) hs3 ?_
      simp only [Act.put, List.setIfInBounds_toArray, List.set_cons_zero, List.set_cons_succ]
      refine wpAnyH_ready (rs := [15]) (by kernel_rfl) (by simp) ?_
      refine AllReadyH.cons rfl (fun K hK => ?_) AllReadyH.nil
      obtain ⟨q0, q1, q2, q3, q4, q5, q6⟩ := Wire.Bk.m7 X3.out
      obtain ⟨f0, f1, f2, f3, f4, f5, f6⟩ := Wire.Bk.g7 X3.out
      have xlt := X3.out.lt
      have hsl := hs3.size
      have hs0s : w0.heap.size ≤ w00.heap.size := Nat.le_of_eq hd0.out.symm
      go_simp
      have num : w0.heap.size ≤ w1.heap.size ∧ w0.heap.size ≤ w00.heap.size ∧ w00.heap.size ≤ w1.heap.size ∧ w1.heap.size ≤ w3.heap.size ∧ w0.heap.size ≤ w2.heap.size ∧ w2.heap.size ≤ w3.heap.size ∧ w3.heap.size ≤ w3.heap.size ∧ (w1.heap.size < w00.heap.size ∨ w1.heap.size ≤ w1.heap.size) ∧ (w1.heap.size < w2.heap.size ∨ w3.heap.size ≤ w1.heap.size) ∧ (w1.heap.size ≤ w2.heap.size ∨ w3.heap.size ≤ w00.heap.size) := by omega
      have bx1 := X3.out.setL [.int .i64 b, .int .i64 d, .slice (some ⟨gP, 0, none⟩) ps.length ps.length, .int .i64 ttl, .slice none 0 0, .slice (some ⟨w2.heap.size, 0, none⟩) gs.length gs.length, .slice none 0 0] 0
      rw [ovrE] at bx1
      have fin : CA w0 (Wire.setL w3 w1.heap.size 0 [.int .i64 b, .int .i64 d, .slice (some ⟨gP, 0, none⟩) ps.length ps.length, .int .i64 ttl, .slice none 0 0, .slice (some ⟨w2.heap.size, 0, none⟩) gs.length gs.length, .slice none 0 0]) w1.heap.size w00.heap.size w1.heap.size w2.heap.size w3.heap.size (some ⟨gP, 0, none⟩) (some ⟨w2.heap.size, 0, none⟩) b d ttl ps gs (.slice none 0 0) (.slice none 0 0) := ⟨Wire.setL_below num.1 _ 0 hs3, bx1, by rw [Wire.setL_size]; exact num, P3.out.blocks (fun z h1 h2 _ => Wire.setL_oth (by have := num.2.2.2.2.2.2.2.1; omega) _ _ _), G3.out.blocks (fun z h1 h2 _ => Wire.setL_oth (by have := num.2.2.2.2.2.2.2.2.1; omega) _ _ _)⟩
      refine hK.out _ _ fin.bel (fun _ => ?_)
      clear hK K q0 q1 q2 q3 q4 q5 q6 f0 f1 f2 f3 f4 f5 f6
      refine wpAnyH_done (by kernel_rfl) ?_ _
      have FIN : Hid (CA w0 _ _ _ _ _ _ _ _ b d ttl ps gs _ _) := fin
      clear fin bx1 num
      go_wp2_with fail
      go_meet
      exact ⟨_, _, _, _, _, _, _, rfl, FIN⟩
    refine AllReadyH.cons rfl (fun K hK => ?_) AllReadyH.nil
    go_simp
    have hw : Below w00.heap.size w00 (w00.alloc (.cells #[.int .i64 0, .int .i64 0, .slice none 0 0, .int .i64 0, .slice none 0 0, .slice none 0 0, .slice none 0 0] 36)) := belA _ _
    have xx : Wire.Bk (w00.alloc (.cells #[.int .i64 0, .int .i64 0, .slice none 0 0, .int .i64 0, .slice none 0 0, .slice none 0 0, .slice none 0 0] 36)) w00.heap.size #[.int .i64 0, .int .i64 0, .slice none 0 0, .int .i64 0, .slice none 0 0, .slice none 0 0, .slice none 0 0] 36 := Wire.Bk.new _ _ _
    have hzz : (w00.alloc (.cells #[.int .i64 0, .int .i64 0, .slice none 0 0, .int .i64 0, .slice none 0 0, .slice none 0 0, .slice none 0 0] 36)).heap.size = w00.heap.size + 1 := by simp
    have hs1 := belt hs0 hw
    refine hK.out _ _ hs1 (fun _ => ?_)
    clear hK K
    generalize w00.alloc (.cells #[.int .i64 0, .int .i64 0, .slice none 0 0, .int .i64 0, .slice none 0 0, .slice none 0 0, .slice none 0 0] 36) = w1 at *
    have hzw1 : w00.heap.size + 1 ≤ w1.heap.size := Nat.le_of_eq hzz.symm
    have X1 : Hid (Wire.Bk w1 w00.heap.size #[.int .i64 0, .int .i64 0, .slice none 0 0, .int .i64 0, .slice none 0 0, .slice none 0 0, .slice none 0 0] 36) := xx
    clear hw xx hzz
    refine wpAnyH_ready (rs := [3]) (by kernel_rfl) (by simp) ?_
    refine AllReadyH.cons rfl (fun K hK => ?_) AllReadyH.nil
    go_simp
    refine (copyPeers_any q b d ap cp ps _ hz1 hz2 HB3.out (Nat.lt_of_lt_of_le hq0 hs1.size) ((hs1.cell (p := ⟨q, 0, none⟩) hq0).trans j0) ((hs1.cell (p := ⟨q, 1, none⟩) hq0).trans j1) ((hs1.cell (p := ⟨q, 2, none⟩) hq0).trans j2) (HR0.out.p.keep hs1)).mono ?_
    rintro e w2 ⟨gP, LP, rfl, hLP, owP, hw⟩
    have hs2 := belt hs1 hw
    have hzw2 : w1.heap.size ≤ w2.heap.size := hw.size
    have X2 : Hid (Wire.Bk w2 w00.heap.size #[.int .i64 0, .int .i64 0, .slice none 0 0, .int .i64 0, .slice none 0 0, .slice none 0 0, .slice none 0 0] 36) := X1.out.keep hw
    have P2 : Hid (OwnPs w1.heap.size w2.heap.size w2 (some ⟨gP, 0, none⟩) ps.length ps) := ⟨rfl, .inr ⟨gP, LP, rfl, hLP, owP⟩⟩
    refine hK.out _ _ hs2 (fun _ => ?_)
    clear hK K hw hLP owP
    refine wpAnyH_ready (rs := [12]) (by kernel_rfl) (by simp) ?_
    refine AllReadyH.cons rfl (fun K hK => ?_) AllReadyH.nil
    go_simp
    refine (copyList_any ag cg gs _ hgl (HR0.out.g.keep hs2)).mono ?_
    rintro e w3 ⟨rfl, oz⟩
    have hw := oz.bel
    have hs3 := belt hs2 hw
    have hzw3 : w2.heap.size ≤ w3.heap.size := hw.size
    have P3 : Hid (OwnPs w1.heap.size w2.heap.size w3 (some ⟨gP, 0, none⟩) ps.length ps) := P2.out.keep hw
    have X3 : Hid (Wire.Bk w3 w00.heap.size #[.int .i64 0, .int .i64 0, .slice none 0 0, .int .i64 0, .slice none 0 0, .slice none 0 0, .slice none 0 0] 36) := X2.out.keep hw
    have G3 : Hid (OwnLs w2.heap.size w3.heap.size w3 (some ⟨w2.heap.size, 0, none⟩) gs.length gs) := ⟨rfl, .inr ⟨_, rfl, oz.lt, oz.owns⟩⟩
    refine hK.out _ _ hs3 (fun _ => ?_)
    clear hK K hw oz
    refine wpAnyH_take (i := 13) (oi := _) (v := _) rfl (by kernel_rfl) (by kernel_rfl) (by kernel_rfl) (fun _ _ _ h => h) (.inl ⟨by rfl, by intro w hSw; go_simp; with_reducible rfl⟩) hs3 ?_
    simp only [Act.put, List.setIfInBounds_toArray, List.set_cons_zero, List.set_cons_succ]
    refine wpAnyH_ready (rs := [15]) (by kernel_rfl) (by simp) ?_
    refine AllReadyH.cons rfl (fun K hK => ?_) AllReadyH.nil
    obtain ⟨q0, q1, q2, q3, q4, q5, q6⟩ := Wire.Bk.m7 X3.out
    obtain ⟨f0, f1, f2, f3, f4, f5, f6⟩ := Wire.Bk.g7 X3.out
    have xlt := X3.out.lt
    have hsl := hs3.size
    have hs0s : w0.heap.size ≤ w00.heap.size := Nat.le_of_eq hd0.out.symm
    go_simp
    have num : w0.heap.size ≤ w00.heap.size ∧ w0.heap.size ≤ w1.heap.size ∧ w1.heap.size ≤ w2.heap.size ∧ w2.heap.size ≤ w3.heap.size ∧ w0.heap.size ≤ w2.heap.size ∧ w2.heap.size ≤ w3.heap.size ∧ w3.heap.size ≤ w3.heap.size ∧ (w00.heap.size < w1.heap.size ∨ w2.heap.size ≤ w00.heap.size) ∧ (w00.heap.size < w2.heap.size ∨ w3.heap.size ≤ w00.heap.size) ∧ (w2.heap.size ≤ w2.heap.size ∨ w3.heap.size ≤ w1.heap.size) := by omega
    have bx1 := X3.out.setL [.int .i64 b, .int .i64 d, .slice (some ⟨gP, 0, none⟩) ps.length ps.length, .int .i64 ttl, .slice none 0 0, .slice (some ⟨w2.heap.size, 0, none⟩) gs.length gs.length, .slice none 0 0] 0
    rw [ovrE] at bx1
    have fin : CA w0 (Wire.setL w3 w00.heap.size 0 [.int .i64 b, .int .i64 d, .slice (some ⟨gP, 0, none⟩) ps.length ps.length, .int .i64 ttl, .slice none 0 0, .slice (some ⟨w2.heap.size, 0, none⟩) gs.length gs.length, .slice none 0 0]) w00.heap.size w1.heap.size w2.heap.size w2.heap.size w3.heap.size (some ⟨gP, 0, none⟩) (some ⟨w2.heap.size, 0, none⟩) b d ttl ps gs (.slice none 0 0) (.slice none 0 0) := ⟨Wire.setL_below num.1 _ 0 hs3, bx1, by rw [Wire.setL_size]; exact num, P3.out.blocks (fun z h1 h2 _ => Wire.setL_oth (by have := num.2.2.2.2.2.2.2.1; omega) _ _ _), G3.out.blocks (fun z h1 h2 _ => Wire.setL_oth (by have := num.2.2.2.2.2.2.2.2.1; omega) _ _ _)⟩
    refine hK.out _ _ fin.bel (fun _ => ?_)
    clear hK K q0 q1 q2 q3 q4 q5 q6 f0 f1 f2 f3 f4 f5 f6
    refine wpAnyH_done (by kernel_rfl) ?_ _
    have FIN : Hid (CA w0 _ _ _ _ _ _ _ _ b d ttl ps gs _ _) := fin
    clear fin bx1 num
    go_wp2_with fail
    go_meet
    exact ⟨_, _, _, _, _, _, _, rfl, FIN⟩
  case rest =>
    obtain ⟨X, p0, p1, g0, g1, av, gv, rfl, HCA⟩ := hcut
    obtain ⟨i0, hi, hz0, hz1, hz2⟩ := info_replyE
    go_wp2_with fail
    go_cut [3] (fun v3 wc => ∃ (r0 r1 : Nat) (ar' : Option Addr) (cr' : Nat), v3 = .pointer (some ⟨X, 0, none⟩) ∧ Hid (CA w0 wc X p0 p1 g0 g1 av gv b d ttl ps gs (.slice none 0 0) (.slice ar' rs.length cr')) ∧ Hid (RepW r0 r1 wc ar' cr' rs) ∧ Hid (p1 ≤ r0 ∧ g1 ≤ r0 ∧ X < r0 ∧ r0 ≤ r1 ∧ r1 ≤ wc.heap.size ∧ w0.heap.size ≤ r0))
    case first =>
      obtain ⟨j0, j1, j2, j3, j4, j5, j6⟩ := Wire.Bk.m7 HK0.out
      cases ar with
      | none =>
        have he : rs = [] := lsAt_none HR0.out.r
        subst he
        have hcz := hcr rfl
        subst hcz
        refine wp_region_held_drew (S := fun w' => Below w0.heap.size w0 w') (by kernel_rfl) (HCA.out.bel.drew) (fun hs0 => ?_)
        have HC0 : Hid (CA w0 wc.drew X p0 p1 g0 g1 av gv b d ttl ps gs (.slice none 0 0) (.slice none 0 0)) := HCA.out.keep ((Below.refl _ _).drew)
        have hdz : Hid (wc.drew.heap.size = wc.heap.size) := rfl
        generalize wc.drew = wd at *
        refine wpAnyH_take (i := 0) (oi := _) (v := _) rfl (by kernel_rfl) (by kernel_rfl) (by kernel_rfl) (fun _ _ _ h => h) (.inl ⟨by rfl, by intro w hSw; go_simp; with_reducible rfl⟩) hs0 ?_
        simp only [Act.put, List.setIfInBounds_toArray, List.set_cons_zero, List.set_cons_succ]
        refine wpAnyH_take (i := 2) (oi := _) (v := _) rfl (by kernel_rfl) (by kernel_rfl) (by kernel_rfl) (fun _ _ _ h => h) (.inl ⟨by rfl, by intro w hSw; go_simp; with_reducible rfl⟩) hs0 ?_
        simp only [Act.put, List.setIfInBounds_toArray, List.set_cons_zero, List.set_cons_succ]
        refine wpAnyH_take (i := 3) (oi := _) (v := _) rfl (by kernel_rfl) (by kernel_rfl) (by kernel_rfl) (fun _ _ _ h => h) (.inl ⟨by rfl, by intro w hSw; go_simp; with_reducible rfl⟩) hs0 ?_
        simp only [Act.put, List.setIfInBounds_toArray, List.set_cons_zero, List.set_cons_succ]
        refine wpAnyH_take (i := 4) (oi := _) (v := _) rfl (by kernel_rfl) (by kernel_rfl) (by kernel_rfl) (fun _ _ _ h => h) (.inl ⟨by rfl, by intro w hSw; go_simp; with_reducible rfl⟩) hs0 ?_
        simp only [Act.put, List.setIfInBounds_toArray, List.set_cons_zero, List.set_cons_succ]
        refine wpAnyH_take (i := 5) (oi := _) (v := _) rfl (by kernel_rfl) (by kernel_rfl) (by kernel_rfl) (fun _ _ _ h => h) (.inl ⟨by rfl, by intro w hSw; have hcc := (hSw.cell (p := ⟨q, 6, none⟩) hq0).trans j6; go_simp; with_reducible rfl⟩) hs0 ?_
        simp only [Act.put, List.setIfInBounds_toArray, List.set_cons_zero, List.set_cons_succ]
        refine wpAnyH_ready (rs := [1]) (by kernel_rfl) (by simp) ?_
        refine AllReadyH.cons rfl (fun K hK => ?_) AllReadyH.nil
        have c6 := HC0.out.bx.cell 6
        simp at c6
        go_simp
        refine hK.out _ _ hs0 (fun _ => ?_)
        clear hK K c6
        try simp only [Act.put, List.setIfInBounds_toArray, List.set_cons_zero, List.set_cons_succ]
        refine wpAnyH_ready (rs := [6]) (by kernel_rfl) (by simp) ?_
        refine AllReadyH.cons rfl (fun K hK => ?_) AllReadyH.nil
        rw [if_pos (by rfl)]
        refine wp_append_none _ _ 34 rfl wd.heap.size 45 i0 5 Tryz.underlying34 hi (.slice none 0 0) 0 [] rfl (World.ownsRow_nil _ _ _ _) rfl ?_
        refine hK.out _ _ hs0 (fun _ => ?_)
        clear hK K
        try simp only [Act.put, List.setIfInBounds_toArray, List.set_cons_zero, List.set_cons_succ]
        refine wpAnyH_take (i := 7) (oi := _) (v := _) rfl (by kernel_rfl) (by kernel_rfl) (by kernel_rfl) (fun _ _ _ h => h) (.inl ⟨by rfl, by intro w hSw; go_simp; with_reducible rfl⟩) hs0 ?_
        simp only [Act.put, List.setIfInBounds_toArray, List.set_cons_zero, List.set_cons_succ]
        refine wpAnyH_ready (rs := [8]) (by kernel_rfl) (by simp) ?_
        refine AllReadyH.cons rfl (fun K hK => ?_) AllReadyH.nil
        have c6 := HC0.out.bx.cell 6
        have f6 := HC0.out.bx.fr 6
        simp at c6
        go_simp
        have fin := HC0.out.setr (.slice none 0 0)
        refine hK.out _ _ fin.bel (fun _ => ?_)
        clear hK K c6 f6
        refine wpAnyH_done (by kernel_rfl) ?_ _
        have FIN : Hid (CA w0 (wd.setCell ⟨X, 6, none⟩ (.slice none 0 0)) X p0 p1 g0 g1 av gv b d ttl ps gs (.slice none 0 0) (.slice none 0 0)) := fin
        have FN : Hid (p1 ≤ wd.heap.size ∧ g1 ≤ wd.heap.size ∧ X < wd.heap.size ∧ wd.heap.size ≤ wd.heap.size ∧ wd.heap.size ≤ (wd.setCell ⟨X, 6, none⟩ (.slice none 0 0)).heap.size ∧ w0.heap.size ≤ wd.heap.size) := by
          have h1 := HC0.out.num
          have h2 := HC0.out.bx.lt
          simp only [Hid, World.setCell]
          refine ⟨by omega, by omega, h2, Nat.le_refl _, by simp, by omega⟩
        clear fin
        go_wp2_with fail
        go_meet
        exact ⟨_, _, none, 0, rfl, FIN, repW_nil _ _ _, FN⟩
      | some ad =>
        refine wp_region_held_drew (S := fun w' => Below w0.heap.size w0 w') (by kernel_rfl) (HCA.out.bel.drew) (fun hs0 => ?_)
        have HC0 : Hid (CA w0 wc.drew X p0 p1 g0 g1 av gv b d ttl ps gs (.slice none 0 0) (.slice none 0 0)) := HCA.out.keep ((Below.refl _ _).drew)
        have hdz : Hid (wc.drew.heap.size = wc.heap.size) := rfl
        generalize wc.drew = wd at *
        refine wpAnyH_take (i := 0) (oi := _) (v := _) rfl (by kernel_rfl) (by kernel_rfl) (by kernel_rfl) (fun _ _ _ h => h) (.inl ⟨by rfl, by intro w hSw; go_simp; with_reducible rfl⟩) hs0 ?_
        simp only [Act.put, List.setIfInBounds_toArray, List.set_cons_zero, List.set_cons_succ]
        refine wpAnyH_take (i := 2) (oi := _) (v := _) rfl (by kernel_rfl) (by kernel_rfl) (by kernel_rfl) (fun _ _ _ h => h) (.inl ⟨by rfl, by intro w hSw; go_simp; with_reducible rfl⟩) hs0 ?_
        simp only [Act.put, List.setIfInBounds_toArray, List.set_cons_zero, List.set_cons_succ]
        refine wpAnyH_take (i := 3) (oi := _) (v := _) rfl (by kernel_rfl) (by kernel_rfl) (by kernel_rfl) (fun _ _ _ h => h) (.inl ⟨by rfl, by intro w hSw; go_simp; with_reducible rfl⟩) hs0 ?_
        simp only [Act.put, List.setIfInBounds_toArray, List.set_cons_zero, List.set_cons_succ]
        refine wpAnyH_take (i := 4) (oi := _) (v := _) rfl (by kernel_rfl) (by kernel_rfl) (by kernel_rfl) (fun _ _ _ h => h) (.inl ⟨by rfl, by intro w hSw; go_simp; with_reducible rfl⟩) hs0 ?_
        simp only [Act.put, List.setIfInBounds_toArray, List.set_cons_zero, List.set_cons_succ]
        refine wpAnyH_take (i := 5) (oi := _) (v := _) rfl (by kernel_rfl) (by kernel_rfl) (by kernel_rfl) (fun _ _ _ h => h) (.inl ⟨by rfl, by intro w hSw; have hcc := (hSw.cell (p := ⟨q, 6, none⟩) hq0).trans j6; go_simp; with_reducible rfl⟩) hs0 ?_
        simp only [Act.put, List.setIfInBounds_toArray, List.set_cons_zero, List.set_cons_succ]
        refine wpAnyH_ready (rs := [1]) (by kernel_rfl) (by simp) ?_
        refine AllReadyH.cons rfl (fun K hK => ?_) AllReadyH.nil
        have c6 := HC0.out.bx.cell 6
        simp at c6
        go_simp
        refine hK.out _ _ hs0 (fun _ => ?_)
        clear hK K c6
        try simp only [Act.put, List.setIfInBounds_toArray, List.set_cons_zero, List.set_cons_succ]
        refine wpAnyH_ready (rs := [6]) (by kernel_rfl) (by simp) ?_
        refine AllReadyH.cons rfl (fun K hK => ?_) AllReadyH.nil
        rw [if_pos (by rfl)]
        obtain ⟨xs, hrow, hcell, hone⟩ := reps_src (HR0.out.r.keep hs0)
        refine wp_append_gw _ _ _ 34 rfl wd.heap.size 45 i0 _ 5 40 Tryz.underlying34 hi hz0 hz1 hz2 rfl (by decide) (.slice none 0 0) 0 [] rfl (World.ownsRow_nil _ _ _ _) ad rs.length cr xs rfl hrow.len hcell hone (by unfold maxLen; omega) (by omega) (Nat.le_refl _) ?_
        intro v5 w5 hown hgrow
        have hb5 : Below wd.heap.size wd w5 := hgrow.below (Nat.le_refl _) (fun k hk => by cases hk)
        rw [Nat.zero_add, List.nil_append] at hown
        have HC5 : Hid (CA w0 w5 X p0 p1 g0 g1 av gv b d ttl ps gs (.slice none 0 0) (.slice none 0 0)) := HC0.out.keep hb5
        obtain ⟨a5, c5, rfl, ho5⟩ := repW_of hown rfl hrow
        have HO5 : Hid (RepW wd.heap.size w5.heap.size w5 a5 c5 rs) := ho5
        have hz5 := hb5.size
        refine hK.out _ _ HC5.out.bel (fun _ => ?_)
        clear hK K
        try simp only [Act.put, List.setIfInBounds_toArray, List.set_cons_zero, List.set_cons_succ]
        have hs1 : Below w0.heap.size w0 w5 := HC5.out.bel
        refine wpAnyH_take (i := 7) (oi := _) (v := _) rfl (by kernel_rfl) (by kernel_rfl) (by kernel_rfl) (fun _ _ _ h => h) (.inl ⟨by rfl, by intro w hSw; go_simp; with_reducible rfl⟩) hs1 ?_
        simp only [Act.put, List.setIfInBounds_toArray, List.set_cons_zero, List.set_cons_succ]
        refine wpAnyH_ready (rs := [8]) (by kernel_rfl) (by simp) ?_
        refine AllReadyH.cons rfl (fun K hK => ?_) AllReadyH.nil
        have c6 := HC5.out.bx.cell 6
        have f6 := HC5.out.bx.fr 6
        simp at c6
        go_simp
        have fin := HC5.out.setr (.slice a5 rs.length c5)
        refine hK.out _ _ fin.bel (fun _ => ?_)
        clear hK K c6 f6
        refine wpAnyH_done (by kernel_rfl) ?_ _
        have FIN : Hid (CA w0 (w5.setCell ⟨X, 6, none⟩ (.slice a5 rs.length c5)) X p0 p1 g0 g1 av gv b d ttl ps gs (.slice none 0 0) (.slice a5 rs.length c5)) := fin
        have hxl := HC0.out.bx.lt
        have FO : Hid (RepW wd.heap.size w5.heap.size (w5.setCell ⟨X, 6, none⟩ (.slice a5 rs.length c5)) a5 c5 rs) := HO5.out.blocks (fun z h1 h2 _ => heap_setCell_other _ _ _ _ (by simp; omega))
        have FN : Hid (p1 ≤ wd.heap.size ∧ g1 ≤ wd.heap.size ∧ X < wd.heap.size ∧ wd.heap.size ≤ w5.heap.size ∧ w5.heap.size ≤ (w5.setCell ⟨X, 6, none⟩ (.slice a5 rs.length c5)).heap.size ∧ w0.heap.size ≤ wd.heap.size) := by
          have h1 := HC0.out.num
          simp only [Hid, World.setCell]
          refine ⟨by omega, by omega, hxl, hz5, by simp, by omega⟩
        clear fin
        go_wp2_with fail
        go_meet
        exact ⟨_, _, a5, c5, rfl, FIN, FO, FN⟩
    case rest =>
      clear HCA
      obtain ⟨r0, r1, ar', cr', rfl, HCA, HOR, HRN⟩ := hcut
      clear hz0 hz1 hz2 hi
      clear i0
      obtain ⟨i0, hi, hz0, hz1, hz2⟩ := info_msgE
      go_wp2_with fail
      go_cut [3] (fun v3 wc => ∃ (m0 : Nat) (am' : Option Addr) (cm' : Nat) (xs : List Value), v3 = .pointer (some ⟨X, 0, none⟩) ∧ Hid (CA w0 wc X p0 p1 g0 g1 av gv b d ttl ps gs (.slice am' ms.length cm') (.slice ar' rs.length cr')) ∧ Hid (RepW r0 r1 wc ar' cr' rs) ∧ Hid (wc.ownsRow m0 102 9 (.slice am' ms.length cm') ms.length xs) ∧ Hid (RowM xs ms 0) ∧ Hid (r1 ≤ m0 ∧ p1 ≤ m0 ∧ g1 ≤ m0 ∧ X < m0 ∧ w0.heap.size ≤ m0) ∧ Hid (r1 ≤ wc.heap.size))
      case first =>
        obtain ⟨j0, j1, j2, j3, j4, j5, j6⟩ := Wire.Bk.m7 HK0.out
        cases am with
        | none =>
          have he : ms = [] := lsAt_none HR0.out.m
          subst he
          have hcz := hcm rfl
          subst hcz
          refine wp_region_held_drew (S := fun w' => Below w0.heap.size w0 w') (by kernel_rfl) (HCA.out.bel.drew) (fun hs0 => ?_)
          have HC0 : Hid (CA w0 wc.drew X p0 p1 g0 g1 av gv b d ttl ps gs (.slice none 0 0) (.slice ar' rs.length cr')) := HCA.out.keep ((Below.refl _ _).drew)
          have HO0 : Hid (RepW r0 r1 wc.drew ar' cr' rs) := HOR.out.keep ((Below.refl _ _).drew)
          have hdz : Hid (wc.drew.heap.size = wc.heap.size) := rfl
          generalize wc.drew = wd at *
          refine wpAnyH_take (i := 0) (oi := _) (v := _) rfl (by kernel_rfl) (by kernel_rfl) (by kernel_rfl) (fun _ _ _ h => h) (.inl ⟨by rfl, by intro w hSw; go_simp; with_reducible rfl⟩) hs0 ?_
          simp only [Act.put, List.setIfInBounds_toArray, List.set_cons_zero, List.set_cons_succ]
          refine wpAnyH_take (i := 2) (oi := _) (v := _) rfl (by kernel_rfl) (by kernel_rfl) (by kernel_rfl) (fun _ _ _ h => h) (.inl ⟨by rfl, by intro w hSw; go_simp; with_reducible rfl⟩) hs0 ?_
          simp only [Act.put, List.setIfInBounds_toArray, List.set_cons_zero, List.set_cons_succ]
          refine wpAnyH_take (i := 3) (oi := _) (v := _) rfl (by kernel_rfl) (by kernel_rfl) (by kernel_rfl) (fun _ _ _ h => h) (.inl ⟨by rfl, by intro w hSw; go_simp; with_reducible rfl⟩) hs0 ?_
          simp only [Act.put, List.setIfInBounds_toArray, List.set_cons_zero, List.set_cons_succ]
          refine wpAnyH_take (i := 4) (oi := _) (v := _) rfl (by kernel_rfl) (by kernel_rfl) (by kernel_rfl) (fun _ _ _ h => h) (.inl ⟨by rfl, by intro w hSw; go_simp; with_reducible rfl⟩) hs0 ?_
          simp only [Act.put, List.setIfInBounds_toArray, List.set_cons_zero, List.set_cons_succ]
          refine wpAnyH_take (i := 5) (oi := _) (v := _) rfl (by kernel_rfl) (by kernel_rfl) (by kernel_rfl) (fun _ _ _ h => h) (.inl ⟨by rfl, by intro w hSw; have hcc := (hSw.cell (p := ⟨q, 4, none⟩) hq0).trans j4; go_simp; with_reducible rfl⟩) hs0 ?_
          simp only [Act.put, List.setIfInBounds_toArray, List.set_cons_zero, List.set_cons_succ]
          refine wpAnyH_ready (rs := [1]) (by kernel_rfl) (by simp) ?_
          refine AllReadyH.cons rfl (fun K hK => ?_) AllReadyH.nil
          have c6 := HC0.out.bx.cell 4
          simp at c6
          go_simp
          refine hK.out _ _ hs0 (fun _ => ?_)
          clear hK K c6
          try simp only [Act.put, List.setIfInBounds_toArray, List.set_cons_zero, List.set_cons_succ]
          refine wpAnyH_ready (rs := [6]) (by kernel_rfl) (by simp) ?_
          refine AllReadyH.cons rfl (fun K hK => ?_) AllReadyH.nil
          rw [if_pos (by rfl)]
          refine wp_append_none _ _ 33 rfl wd.heap.size 102 i0 9 Tryz.underlying33 hi (.slice none 0 0) 0 [] rfl (World.ownsRow_nil _ _ _ _) rfl ?_
          refine hK.out _ _ hs0 (fun _ => ?_)
          clear hK K
          try simp only [Act.put, List.setIfInBounds_toArray, List.set_cons_zero, List.set_cons_succ]
          refine wpAnyH_take (i := 7) (oi := _) (v := _) rfl (by kernel_rfl) (by kernel_rfl) (by kernel_rfl) (fun _ _ _ h => h) (.inl ⟨by rfl, by intro w hSw; go_simp; with_reducible rfl⟩) hs0 ?_
          simp only [Act.put, List.setIfInBounds_toArray, List.set_cons_zero, List.set_cons_succ]
          refine wpAnyH_ready (rs := [8]) (by kernel_rfl) (by simp) ?_
          refine AllReadyH.cons rfl (fun K hK => ?_) AllReadyH.nil
          have c6 := HC0.out.bx.cell 4
          have f6 := HC0.out.bx.fr 4
          simp at c6
          go_simp
          have fin := HC0.out.setb (.slice none 0 0)
          refine hK.out _ _ fin.bel (fun _ => ?_)
          clear hK K c6 f6
          refine wpAnyH_done (by kernel_rfl) ?_ _
          have FIN : Hid (CA w0 (wd.setCell ⟨X, 4, none⟩ (.slice none 0 0)) X p0 p1 g0 g1 av gv b d ttl ps gs (.slice none 0 0) (.slice ar' rs.length cr')) := fin
          have FO : Hid (RepW r0 r1 (wd.setCell ⟨X, 4, none⟩ (.slice none 0 0)) ar' cr' rs) := HO0.out.blocks (fun z h1 h2 _ => heap_setCell_other _ _ _ _ (by have := HRN.out; simp; omega))
          have FN : Hid (r1 ≤ wd.heap.size ∧ p1 ≤ wd.heap.size ∧ g1 ≤ wd.heap.size ∧ X < wd.heap.size ∧ w0.heap.size ≤ wd.heap.size) := by
            have h1 := HC0.out.num
            have h2 := HC0.out.bx.lt
            have h3 := HRN.out
            have h4 := hdz.out
            unfold Hid; omega
          have HFS : Hid (r1 ≤ (wd.setCell ⟨X, 4, none⟩ (.slice none 0 0)).heap.size) := by
            have h3 := HRN.out
            have h4 := hdz.out
            simp only [Hid, World.setCell]; simp; omega
          clear fin
          go_wp2_with fail
          go_meet
          exact ⟨_, none, 0, [], rfl, FIN, FO, World.ownsRow_nil _ _ _ _, ⟨rfl, fun i hi => by simp at hi⟩, FN, HFS⟩
        | some ad =>
          refine wp_region_held_drew (S := fun w' => Below w0.heap.size w0 w') (by kernel_rfl) (HCA.out.bel.drew) (fun hs0 => ?_)
          have HC0 : Hid (CA w0 wc.drew X p0 p1 g0 g1 av gv b d ttl ps gs (.slice none 0 0) (.slice ar' rs.length cr')) := HCA.out.keep ((Below.refl _ _).drew)
          have HO0 : Hid (RepW r0 r1 wc.drew ar' cr' rs) := HOR.out.keep ((Below.refl _ _).drew)
          have hdz : Hid (wc.drew.heap.size = wc.heap.size) := rfl
          generalize wc.drew = wd at *
          refine wpAnyH_take (i := 0) (oi := _) (v := _) rfl (by kernel_rfl) (by kernel_rfl) (by kernel_rfl) (fun _ _ _ h => h) (.inl ⟨by rfl, by intro w hSw; go_simp; with_reducible rfl⟩) hs0 ?_
          simp only [Act.put, List.setIfInBounds_toArray, List.set_cons_zero, List.set_cons_succ]
          refine wpAnyH_take (i := 2) (oi := _) (v := _) rfl (by kernel_rfl) (by kernel_rfl) (by kernel_rfl) (fun _ _ _ h => h) (.inl ⟨by rfl, by intro w hSw; go_simp; with_reducible rfl⟩) hs0 ?_
          simp only [Act.put, List.setIfInBounds_toArray, List.set_cons_zero, List.set_cons_succ]
          refine wpAnyH_take (i := 3) (oi := _) (v := _) rfl (by kernel_rfl) (by kernel_rfl) (by kernel_rfl) (fun _ _ _ h => h) (.inl ⟨by rfl, by intro w hSw; go_simp; with_reducible rfl⟩) hs0 ?_
          simp only [Act.put, List.setIfInBounds_toArray, List.set_cons_zero, List.set_cons_succ]
          refine wpAnyH_take (i := 4) (oi := _) (v := _) rfl (by kernel_rfl) (by kernel_rfl) (by kernel_rfl) (fun _ _ _ h => h) (.inl ⟨by rfl, by intro w hSw; go_simp; with_reducible rfl⟩) hs0 ?_
          simp only [Act.put, List.setIfInBounds_toArray, List.set_cons_zero, List.set_cons_succ]
          refine wpAnyH_take (i := 5) (oi := _) (v := _) rfl (by kernel_rfl) (by kernel_rfl) (by kernel_rfl) (fun _ _ _ h => h) (.inl ⟨by rfl, by intro w hSw; have hcc := (hSw.cell (p := ⟨q, 4, none⟩) hq0).trans j4; go_simp; with_reducible rfl⟩) hs0 ?_
          simp only [Act.put, List.setIfInBounds_toArray, List.set_cons_zero, List.set_cons_succ]
          refine wpAnyH_ready (rs := [1]) (by kernel_rfl) (by simp) ?_
          refine AllReadyH.cons rfl (fun K hK => ?_) AllReadyH.nil
          have c6 := HC0.out.bx.cell 4
          simp at c6
          go_simp
          refine hK.out _ _ hs0 (fun _ => ?_)
          clear hK K c6
          try simp only [Act.put, List.setIfInBounds_toArray, List.set_cons_zero, List.set_cons_succ]
          refine wpAnyH_ready (rs := [6]) (by kernel_rfl) (by simp) ?_
          refine AllReadyH.cons rfl (fun K hK => ?_) AllReadyH.nil
          rw [if_pos (by rfl)]
          obtain ⟨xs, hrow, hcell, hone⟩ := msgs_src (HR0.out.m.keep hs0)
          refine wp_append_gw _ _ _ 33 rfl wd.heap.size 102 i0 _ 9 88 Tryz.underlying33 hi hz0 hz1 hz2 rfl (by decide) (.slice none 0 0) 0 [] rfl (World.ownsRow_nil _ _ _ _) ad ms.length cm xs rfl hrow.len hcell hone (by unfold maxLen; omega) (by omega) (Nat.le_refl _) ?_
          intro v5 w5 hown hgrow
          have hb5 : Below wd.heap.size wd w5 := hgrow.below (Nat.le_refl _) (fun k hk => by cases hk)
          rw [Nat.zero_add, List.nil_append] at hown
          have HC5 : Hid (CA w0 w5 X p0 p1 g0 g1 av gv b d ttl ps gs (.slice none 0 0) (.slice ar' rs.length cr')) := HC0.out.keep hb5
          obtain ⟨a5, c5, rfl⟩ : ∃ a5 c5, v5 = .slice a5 ms.length c5 := by
            rcases Joins.ownsRow_forms hown with ⟨h1, h2⟩ | ⟨g, cap, h1⟩
            · exact ⟨none, 0, by rw [h1, h2]⟩
            · exact ⟨_, cap, h1⟩
          have HO5 : Hid (RepW r0 r1 w5 ar' cr' rs) := HO0.out.keep hb5
          have HM5 : Hid (w5.ownsRow wd.heap.size 102 9 (.slice a5 ms.length c5) ms.length xs) := hown
          have HRW : Hid (RowM xs ms 0) := hrow
          have hz5 := hb5.size
          refine hK.out _ _ HC5.out.bel (fun _ => ?_)
          clear hK K
          try simp only [Act.put, List.setIfInBounds_toArray, List.set_cons_zero, List.set_cons_succ]
          have hs1 : Below w0.heap.size w0 w5 := HC5.out.bel
          refine wpAnyH_take (i := 7) (oi := _) (v := _) rfl (by kernel_rfl) (by kernel_rfl) (by kernel_rfl) (fun _ _ _ h => h) (.inl ⟨by rfl, by intro w hSw; go_simp; with_reducible rfl⟩) hs1 ?_
          simp only [Act.put, List.setIfInBounds_toArray, List.set_cons_zero, List.set_cons_succ]
          refine wpAnyH_ready (rs := [8]) (by kernel_rfl) (by simp) ?_
          refine AllReadyH.cons rfl (fun K hK => ?_) AllReadyH.nil
          have c6 := HC5.out.bx.cell 4
          have f6 := HC5.out.bx.fr 4
          simp at c6
          go_simp
          have fin := HC5.out.setb (.slice a5 ms.length c5)
          refine hK.out _ _ fin.bel (fun _ => ?_)
          clear hK K c6 f6
          refine wpAnyH_done (by kernel_rfl) ?_ _
          have FIN : Hid (CA w0 (w5.setCell ⟨X, 4, none⟩ (.slice a5 ms.length c5)) X p0 p1 g0 g1 av gv b d ttl ps gs (.slice a5 ms.length c5) (.slice ar' rs.length cr')) := fin
          have hxl := HC0.out.bx.lt
          have FO : Hid (RepW r0 r1 (w5.setCell ⟨X, 4, none⟩ (.slice a5 ms.length c5)) ar' cr' rs) := HO5.out.blocks (fun z h1 h2 _ => heap_setCell_other _ _ _ _ (by have := HRN.out; simp; omega))
          have FM : Hid ((w5.setCell ⟨X, 4, none⟩ (.slice a5 ms.length c5)).ownsRow wd.heap.size 102 9 (.slice a5 ms.length c5) ms.length xs) := own_blocks HM5.out (fun z hz => heap_setCell_other _ _ _ _ (by have := (HM5.out.lt z hz).1; simp; omega))
          have FN : Hid (r1 ≤ wd.heap.size ∧ p1 ≤ wd.heap.size ∧ g1 ≤ wd.heap.size ∧ X < wd.heap.size ∧ w0.heap.size ≤ wd.heap.size) := by
            have h1 := HC0.out.num
            have h3 := HRN.out
            have h4 := hdz.out
            unfold Hid; omega
          have HFS : Hid (r1 ≤ (w5.setCell ⟨X, 4, none⟩ (.slice a5 ms.length c5)).heap.size) := by
            have h3 := HRN.out
            have h4 := hdz.out
            simp only [Hid, World.setCell]; simp; omega
          clear fin
          go_wp2_with fail
          go_meet
          exact ⟨_, a5, c5, xs, rfl, FIN, FO, FM, HRW, FN, HFS⟩
      case rest =>
        clear HCA HOR
        obtain ⟨m0, am', cm', xs, rfl, HCA, HOR, HOM, HXM, HMN, HRS⟩ := hcut
        clear hz0 hz1 hz2 hi
        clear i0
        obtain ⟨x0, x1, x2, x3, x4, x5, x6⟩ := Wire.Bk.m7 HCA.out.bx
        go_wp2_with fail
        clear x0 x1 x2 x3 x4 x5 x6
        go_loopw [38] (fun vi wr => ∃ (k : Nat) (ys : List Value), k ≤ ms.length ∧ vi = .int .i64 k ∧ Hid (CA w0 wr X p0 p1 g0 g1 av gv b d ttl ps gs (.slice am' ms.length cm') (.slice ar' rs.length cr')) ∧ Hid (RepW r0 r1 wr ar' cr' rs) ∧ Hid (wr.ownsRow m0 102 9 (.slice am' ms.length cm') ms.length ys) ∧ Hid (RowM ys ms k) ∧ Hid (r1 ≤ wr.heap.size)) (fun vi _ => ms.length - (intOf vi).toNat)
        case atStart => exact ⟨0, xs, Nat.zero_le _, rfl, HCA, HOR, HOM, HXM, HRS⟩
        case round =>
          clear HCA HOR HOM HXM HRS
          obtain ⟨k, ys, hk, rfl, HCA, HOR, HOM, HXM, HRS⟩ := hrel
          obtain ⟨x0, x1, x2, x3, x4, x5, x6⟩ := Wire.Bk.m7 HCA.out.bx
          have xlt := HCA.out.bx.lt
          by_cases hlt : k < ms.length
          · obtain ⟨g, cap, hv⟩ := Joins.ownsRow_form HOM.out (by omega)
            simp only [Value.slice.injEq] at hv
            obtain ⟨hv1, _, hv2⟩ := hv
            subst hv1 hv2
            obtain ⟨⟨cur, hcur⟩, hcap, hmg⟩ := owns_cells HOM.out
            have e8 := HOM.out.cellAt (k * 9 + 8) (by omega)
            have f8 := HOM.out.frozenAt (k * 9 + 8)
            have hyl : k * 9 + 8 < ys.length := by rw [HXM.out.len]; omega
            rw [List.getElem?_eq_getElem hyl] at e8
            generalize ys[k * 9 + 8] = y8 at e8
            have HN2 := HMN.out
            have HCA2 : Hid (CA w0 (wr.setCell ⟨g, k * 9 + 8, none⟩ (.slice none 0 0)) X p0 p1 g0 g1 av gv b d ttl ps gs (.slice (some ⟨g, 0, none⟩) ms.length cm') (.slice ar' rs.length cr')) := HCA.out.oth (by omega) (by omega) (by omega) (by omega) (k * 9 + 8) (.slice none 0 0)
            have HOR2 : Hid (RepW r0 r1 (wr.setCell ⟨g, k * 9 + 8, none⟩ (.slice none 0 0)) ar' cr' rs) := HOR.out.blocks (fun z a1 a2 _ => heap_setCell_other _ _ _ _ (by simp; omega))
            have HOM2 : Hid ((wr.setCell ⟨g, k * 9 + 8, none⟩ (.slice none 0 0)).ownsRow m0 102 9 (.slice (some ⟨g, 0, none⟩) ms.length cm') ms.length (ys.set (k * 9 + 8) (.slice none 0 0))) := (HOM.out.stored (k * 9 + 8) (.slice none 0 0)).1
            have HRS2 : Hid (r1 ≤ (wr.setCell ⟨g, k * 9 + 8, none⟩ (.slice none 0 0)).heap.size) := by have := HRS.out; simpa [Hid, World.setCell] using this
            have HXM2 : Hid (RowM (ys.set (k * 9 + 8) (.slice none 0 0)) ms (k + 1)) := HXM.out.set hlt
            have hgl : g < wr.heap.size := (Array.getElem?_eq_some_iff.1 hcur).1
            clear hcur HN2
            go_wp2
            go_roundw
            case rel => exact ⟨k + 1, _, by omega, by go_num, HCA2, HOR2, HOM2, HXM2, HRS2⟩
            case measure => simp [intOf]; omega
          · have hke : k = ms.length := by omega
            subst hke
            have HES : Hid (BagW m0 wr.heap.size wr am' cm' ms) := ⟨_, HOM.out, HXM.out, fun z hz => (HOM.out.lt z hz).2⟩
            have HRR : Hid (Wire.Bk wr w.heap.size #[.int .i64 0, .int .i64 0, .slice none 0 0, .int .i64 0, .slice none 0 0, .slice none 0 0, .slice none 0 0] 36) := HRC.out.keepN HCA.out.bel (by rw [hs0.out]; omega)
            obtain ⟨y0, y1, y2, y3, y4, y5, y6⟩ := Wire.Bk.m7 HRR.out
            obtain ⟨f0, f1, f2, f3, f4, f5, f6⟩ := Wire.Bk.g7 HRR.out
            clear HOM HXM
            go_wp2
            have hE := HRR.out.setL [.int .i64 b, .int .i64 d, .slice av ps.length ps.length, .int .i64 ttl, .slice am' ms.length cm', .slice gv gs.length gs.length, .slice ar' rs.length cr'] 0
            rw [ovrE] at hE
            have hoth : ∀ z, w0.heap.size ≤ z → (Wire.setL wr w.heap.size 0 [.int .i64 b, .int .i64 d, .slice av ps.length ps.length, .int .i64 ttl, .slice am' ms.length cm', .slice gv gs.length gs.length, .slice ar' rs.length cr']).heap[z]? = wr.heap[z]? := fun z hz => Wire.setL_oth (by have := hs0.out; omega) _ _ _
            have hsz : (Wire.setL wr w.heap.size 0 [.int .i64 b, .int .i64 d, .slice av ps.length ps.length, .int .i64 ttl, .slice am' ms.length cm', .slice gv gs.length gs.length, .slice ar' rs.length cr']).heap.size = wr.heap.size := Wire.setL_size _ _ _
            have hN : CpN w.heap.size (Wire.setL wr w.heap.size 0 [.int .i64 b, .int .i64 d, .slice av ps.length ps.length, .int .i64 ttl, .slice am' ms.length cm', .slice gv gs.length gs.length, .slice ar' rs.length cr']).heap.size (Wire.setL wr w.heap.size 0 [.int .i64 b, .int .i64 d, .slice av ps.length ps.length, .int .i64 ttl, .slice am' ms.length cm', .slice gv gs.length gs.length, .slice ar' rs.length cr']) av am' gv ar' cm' cr' ps ms gs rs := by
              rw [hsz]
              have n1 := HCA.out.num
              have n2 := HRN.out
              have n3 := HMN.out
              have n4 := hs0.out
              have n5 := HCA.out.bel.size
              have n6 := HRS.out
              exact ⟨⟨p0, p1, m0, wr.heap.size, g0, g1, r0, r1, by omega, by omega, HCA.out.op.blocks (fun z a1 a2 _ => hoth z (by omega)), HES.out.blocks (fun z a1 a2 _ => hoth z (by omega)), HCA.out.og.blocks (fun z a1 a2 _ => hoth z (by omega)), HOR.out.blocks (fun z a1 a2 _ => hoth z (by omega))⟩⟩
            have hB : Below w.heap.size w (Wire.setL wr w.heap.size 0 [.int .i64 b, .int .i64 d, .slice av ps.length ps.length, .int .i64 ttl, .slice am' ms.length cm', .slice gv gs.length gs.length, .slice ar' rs.length cr']) := Wire.setL_below (Nat.le_refl _) _ 0 (HB0.out.trans (HCA.out.bel.mono (by rw [hs0.out]; omega)))
            exact bodyPost_ret (results_cell_row Tryz.results92 _ _ w.heap.size _ _ _ _ rfl hE Tryz.underlying36 rfl (by kernel_rfl)) rfl ⟨_, _, _, _, _, _, rfl, hN, hB⟩
end Go.Proofs.YtdceimnapbblnaaGreat
