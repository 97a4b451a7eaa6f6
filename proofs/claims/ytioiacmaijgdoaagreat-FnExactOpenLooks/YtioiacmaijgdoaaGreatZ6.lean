/- GoodNet, both sides, as the laws call them. LostLooks, the program and the specification; the specification's OpenLooks. OpenLooks, the program and the specification. A law's argument that is a net, opened. -/
import Derived.Test.YtioiacmaijgdoaaGreatZ0
import Derived.Test.YtioiacmaijgdoaaGreatZ1
import Derived.Test.YtioiacmaijgdoaaGreatZ2
import Derived.Test.YtioiacmaijgdoaaGreatZ3
import Derived.Test.YtioiacmaijgdoaaGreatZ4
import Derived.Test.YtioiacmaijgdoaaGreatZ5
namespace Go.Proofs.YtioiacmaijgdoaaGreat
open Go.RowKit
set_option linter.unusedVariables false
theorem GoodNet_own (b d ttl : Int) (ap am ag ar : Option Addr) (cp cm cg cr : Nat) (ps : List Pr) (ms : List Mg) (gs : List Int) (rs : List Rp) (w : World) (hb : BigN ps ms gs rs) (hr : NetAt w ap am ag ar ps ms gs rs) :
    Calls Tryz.prog 18 #[.agg #[.int .i64 b, .int .i64 d, .slice ap ps.length cp, .int .i64 ttl, .slice am ms.length cm, .slice ag gs.length cg, .slice ar rs.length cr]] w fun e w' => e = .returned (.bool (goodN b d ttl ps ms gs rs)) ∧ Below w.heap.size w w' := GoodNet_any b d ttl ap am ag ar cp cm cg cr ps ms gs rs w hb hr
theorem lGoodNet_own (b d ttl : Int) (ap am ag ar : Option Addr) (cp cm cg cr : Nat) (ps : List Pr) (ms : List Mg) (gs : List Int) (rs : List Rp) (w : World) (hb : BigN ps ms gs rs) (hr : NetAt w ap am ag ar ps ms gs rs) :
    Calls Tryz.prog 25 #[.agg #[.int .i64 b, .int .i64 d, .slice ap ps.length cp, .int .i64 ttl, .slice am ms.length cm, .slice ag gs.length cg, .slice ar rs.length cr]] w fun e w' => e = .returned (.bool (goodN b d ttl ps ms gs rs)) ∧ Below w.heap.size w w' := by
  go_enter Tryz.func25, Tryz.ntmps25
  go_wp2_with fail
  refine (lgoodN_any b d ttl ap am ag ar cp cm cg cr ps ms gs rs _ hb (hr.keep (belA _ _))).mono ?_
  rintro e w1 ⟨rfl, HW⟩
  go_wp2
  go_ret
  exact ⟨rfl, belt (belA _ _) HW⟩
end Go.Proofs.YtioiacmaijgdoaaGreat
namespace Go.Proofs.YtioiacmaijgdoaaGreat
open Go.RowKit Go.Deep
set_option linter.unusedVariables false
set_option linter.unusedSimpArgs false
theorem ret_sb {v : Value} {g g' : Bool} (h : g = g') : Ending.returned (.tuple #[v, .bool g]) = Ending.returned (.tuple #[v, .bool g']) := by rw [h]
set_option maxRecDepth 100000 in
set_option maxHeartbeats 6400000 in
theorem LostLooks_own (b d ttl : Int) (ap am ag ar : Option Addr) (cp cm cg cr : Nat) (ps : List Pr) (ms : List Mg) (gs : List Int) (rs : List Rp) (w : World) (hb : BigN ps ms gs rs) (hr : NetAt w ap am ag ar ps ms gs rs) :
    Calls Tryz.prog 16 #[.agg #[.int .i64 b, .int .i64 d, .slice ap ps.length cp, .int .i64 ttl, .slice am ms.length cm, .slice ag gs.length cg, .slice ar rs.length cr]] w fun e w' => ∃ a n c, e = .returned (.tuple #[.slice a n c, .bool (goodN b d ttl ps ms gs rs)]) ∧ (lostL b d ttl ps ms gs rs).length = n ∧ OwnLs w.heap.size w'.heap.size w' a n (lostL b d ttl ps ms gs rs) ∧ Below w.heap.size w w' := by
  obtain ⟨i0, hi, hz0, hz1, hz2⟩ := info_parts'
  have HR : Hid (NetAt w ap am ag ar ps ms gs rs) := hr
  have hml : ms.length ≤ 1048576 := by have := hb.m; omega
  have hgl : gs.length ≤ 1048576 := hb.g
  have hrl : rs.length ≤ 1048576 := hb.r
  have CG := GoodNet_own b d ttl ap am ag ar cp cm cg cr ps ms gs rs _ hb (hr.keep (belA w (.cells #[.int .i64 b, .int .i64 d, .slice ap ps.length cp, .int .i64 ttl, .slice am ms.length cm, .slice ag gs.length cg, .slice ar rs.length cr] 36)))
  clear hr hb
  go_enter Tryz.func16, Tryz.ntmps16
  go_wp2_with fail
  refine CG.mono ?_
  rintro e w1 ⟨rfl, HW⟩
  have BX1 : Hid (B1 w w1 #[.int .i64 b, .int .i64 d, .slice ap ps.length cp, .int .i64 ttl, .slice am ms.length cm, .slice ag gs.length cg, .slice ar rs.length cr] 36) := (b10 w _ _).keep HW
  clear HW CG
  cases hG : goodN b d ttl ps ms gs rs
  · have HV : Hid (lostL b d ttl ps ms gs rs = []) := by unfold Hid lostL; rw [hG]; rfl
    have HGG : Hid (goodN b d ttl ps ms gs rs = false) := hG
    clear hG
    go_wp2
    go_ret2
    exact ⟨none, 0, 0, ret_sb HGG.out.symm, by rw [HV.out]; rfl, by rw [HV.out]; exact ownLs_nil _ _ _ _, BX1.out.bel⟩
  have HV : Hid (lostL b d ttl ps ms gs rs = gs.filter (lostP (lkL ms rs))) := by unfold Hid lostL; rw [if_pos hG]
  have HGG : Hid (goodN b d ttl ps ms gs rs = true) := hG
  clear hG
  obtain ⟨q0, q1, q2, q3, q4, q5, q6⟩ := Wire.Bk.m7 BX1.out.ka
  have qlt := BX1.out.ka.lt
  go_wp2_with fail
  refine (looksInPlaces_any w.heap.size am ar cm cr ms rs _ hml hrl qlt q4 q6 (HR.out.keep BX1.out.bel).m (HR.out.keep BX1.out.bel).r).mono ?_
  rintro e w2 ⟨vL, rfl, hown, HW⟩
  obtain ⟨aL, cL, rfl, hcL, hrow⟩ := own_rowAt hown
  have BX2 : Hid (B1 w w2 #[.int .i64 b, .int .i64 d, .slice ap ps.length cp, .int .i64 ttl, .slice am ms.length cm, .slice ag gs.length cg, .slice ar rs.length cr] 36) := BX1.out.keep HW
  have HL2 : Hid (RowAt w2 aL (lkL ms rs)) := hrow
  have HGS : Hid (RowAt w2 ag gs) := (HR.out.keep BX2.out.bel).g
  clear HW hrow hown BX1 q0 q1 q2 q3 q4 q5 q6 qlt HR
  have hll : Hid ((lkL ms rs).length = ms.length + rs.length) := lkL_len ms rs
  obtain ⟨L, hL⟩ : ∃ L, L = lkL ms rs := ⟨_, rfl⟩
  rw [← hL] at HL2 hcL hll HV
  rw [← hL]
  clear hL
  obtain ⟨q0, q1, q2, q3, q4, q5, q6⟩ := Wire.Bk.m7 BX2.out.ka
  have qlt := BX2.out.ka.lt
  go_wp2_with fail
  clear q0 q1 q2 q3 q4 q5 q6
  go_loopw [5, 15] (fun vs vi wr => ∃ (vo : Value) (k : Nat), vs = vo ∧ k ≤ gs.length ∧ vi = .int .i64 k ∧ Hid (wr.ownsRow w2.heap.size 3 1 vo ((gs.take k).filter (lostP L)).length (((gs.take k).filter (lostP L)).map (Value.int .i64))) ∧ Hid (Below w2.heap.size w2 wr)) (fun _ vi _ => gs.length - (intOf vi).toNat)
  case atStart => exact ⟨_, 0, rfl, Nat.zero_le _, rfl, World.ownsRow_nil _ _ _ _, Below.refl _ _⟩
  case round =>
    obtain ⟨vo, k, hvo, hk, rfl, HO, HB⟩ := hrel
    have hvo := hvo.symm
    subst hvo
    by_cases hlt : k < gs.length
    · have HGr : Hid (RowAt wr ag gs) := HGS.out.keep HB.out
      obtain ⟨bk, off, rfl⟩ := rowAt_form HGr.out (by omega)
      have hc := (rowAt_cell HGr.out (by omega)).2 k hlt
      have HST : Hid ((gs.take (k + 1)).filter (lostP L) = (gs.take k).filter (lostP L) ++ (if lostP L (gs.getD k 0) = true then [gs.getD k 0] else [])) := filter_step _ hlt
      have hle : ((gs.take k).filter (lostP L)).length ≤ 1048576 := Nat.le_trans (List.length_filter_le _ _) (by rw [List.length_take]; omega)
      obtain ⟨T, hT⟩ : ∃ T, T = (gs.take k).filter (lostP L) := ⟨_, rfl⟩
      rw [← hT] at HO HST hle
      clear hT
      generalize gs.getD k 0 = x at hc HST
      go_wp2_with fail
      refine (slContains_any aL cL L.length L x _ rfl (by have := hll.out; unfold maxLen; omega) (HL2.out.keep HB.out)).mono ?_
      rintro e wx ⟨rfl, hx⟩
      have hx' := hx.symm
      subst hx'
      clear hx
      cases h1 : hasB L x
      · have HT2 : Hid ((gs.take (k + 1)).filter (lostP L) = T ++ [x]) := by rw [Hid, HST.out, if_pos (by unfold lostP; rw [h1]; rfl)]
        clear h1 HST
        go_wp2_with (at_builtin; refine wpList_append_own _ rfl (.tmp 23) (.tmp 25) 30 rfl w2.heap.size 3 i0 (.int .i64 0) 1 8 Tryz.underlying30 hi hz0 hz1 hz2 rfl (by decide) _ _ _ rfl (HO.out.alloc _) ⟨wr.heap.size, 0, none⟩ 1 1 [.int .i64 x] rfl rfl (cell_one_new _ _ _) (by simp [Value.oneCell']) (by unfold maxLen; omega) (by omega) (alloc_size HB.out) ?_; intro v5 w5 hown5 hgrow5 _; have HB5 : Hid (Below w2.heap.size w2 w5) := grown_bel (HB.out.alloc HB.out.size _) hgrow5 (alloc_size HB.out) (fun k hk => (HO.out.lt k hk).1); have HO5 : Hid (w5.ownsRow w2.heap.size 3 1 v5 ((gs.take (k + 1)).filter (lostP L)).length (((gs.take (k + 1)).filter (lostP L)).map (Value.int .i64))) := own_snoc HT2.out hown5; clear hown5 hgrow5)
        go_roundw
        case rel => exact ⟨_, k + 1, rfl, by omega, by go_num, HO5, HB5⟩
        case measure => simp [intOf]; omega
      · have HT2 : Hid ((gs.take (k + 1)).filter (lostP L) = T) := by rw [Hid, HST.out, if_neg (by unfold lostP; rw [h1]; simp), List.append_nil]
        have HO2 : Hid (wr.ownsRow w2.heap.size 3 1 vo ((gs.take (k + 1)).filter (lostP L)).length (((gs.take (k + 1)).filter (lostP L)).map (Value.int .i64))) := by rw [HT2.out]; exact HO
        clear h1 HST
        go_wp2
        go_roundw
        case rel => exact ⟨_, k + 1, rfl, by omega, by go_num, HO2, HB⟩
        case measure => simp [intOf]; omega
    · have hke : k = gs.length := by omega
      subst hke
      have HF : Hid ((gs.take gs.length).filter (lostP L) = lostL b d ttl ps ms gs rs) := by rw [Hid, HV.out, List.take_of_length_le (Nat.le_refl _)]
      have HO2 := HO.out
      rw [HF.out] at HO2
      obtain ⟨aR, cR, rfl, hls⟩ := own_ls (Joins.ownsRow_le HO2 BX2.out.bel.size)
      have HLS : Hid (OwnLs w.heap.size wr.heap.size wr aR (lostL b d ttl ps ms gs rs).length (lostL b d ttl ps ms gs rs)) := hls
      have HBE : Hid (Below w.heap.size w wr) := BX2.out.bel.trans (HB.out.mono BX2.out.bel.size)
      clear HO2 hls HO HF
      go_wp2
      go_ret2
      exact ⟨_, _, _, ret_sb HGG.out.symm, rfl, HLS.out, HBE.out⟩
def opnL (b d ttl : Int) (ps : List Pr) (ms : List Mg) (gs : List Int) (rs : List Rp) : List Int := if goodN b d ttl ps ms gs rs = true then putL [] (lkM ms) else []
theorem putL_nil_v {L : List Int} (h : putL [] L = []) : L = [] := by
  cases L with
  | nil => rfl
  | cons x L =>
    have : (x :: L) = (x :: L).dropLast ++ [(x :: L).getLast (by simp)] := (List.dropLast_concat_getLast (by simp)).symm
    rw [this, putL_snoc] at h
    exact absurd h (putI_len _ _).2
set_option maxRecDepth 100000 in
set_option maxHeartbeats 6400000 in
theorem lOpenLooks_any (b d ttl : Int) (ap am ag ar : Option Addr) (cp cm cg cr : Nat) (ps : List Pr) (ms : List Mg) (gs : List Int) (rs : List Rp) (w : World) (hb : BigN ps ms gs rs) (hr : NetAt w ap am ag ar ps ms gs rs) :
    Calls Tryz.prog 23 #[.agg #[.int .i64 b, .int .i64 d, .slice ap ps.length cp, .int .i64 ttl, .slice am ms.length cm, .slice ag gs.length cg, .slice ar rs.length cr]] w fun e w' => ∃ v, e = .returned (.tuple #[v, .bool (goodN b d ttl ps ms gs rs)]) ∧ OwnM w.heap.size w' v (opnL b d ttl ps ms gs rs) ∧ (opnL b d ttl ps ms gs rs = [] → v = .slice none 0 0) ∧ Below w.heap.size w w' := by
  have HR : Hid (NetAt w ap am ag ar ps ms gs rs) := hr
  have hml : ms.length ≤ 1048576 := by have := hb.m; omega
  have CG := lgoodN_any b d ttl ap am ag ar cp cm cg cr ps ms gs rs _ hb (hr.keep (belA w (.cells #[.int .i64 b, .int .i64 d, .slice ap ps.length cp, .int .i64 ttl, .slice am ms.length cm, .slice ag gs.length cg, .slice ar rs.length cr] 36)))
  clear hr hb
  go_enter Tryz.func23, Tryz.ntmps23
  go_wp2_with fail
  refine CG.mono ?_
  rintro e w1 ⟨rfl, HW⟩
  have BX1 : Hid (B1 w w1 #[.int .i64 b, .int .i64 d, .slice ap ps.length cp, .int .i64 ttl, .slice am ms.length cm, .slice ag gs.length cg, .slice ar rs.length cr] 36) := (b10 w _ _).keep HW
  clear HW CG
  cases hG : goodN b d ttl ps ms gs rs
  · have HV : Hid (opnL b d ttl ps ms gs rs = []) := by unfold Hid opnL; rw [hG]; rfl
    have HGG : Hid (goodN b d ttl ps ms gs rs = false) := hG
    clear hG
    go_wp2
    go_ret2
    exact ⟨_, ret_sb HGG.out.symm, by rw [HV.out]; exact World.ownsRow_nil _ _ _ _, fun _ => rfl, BX1.out.bel⟩
  have HV : Hid (opnL b d ttl ps ms gs rs = putL [] (lkM ms)) := by unfold Hid opnL; rw [if_pos hG]
  have HGG : Hid (goodN b d ttl ps ms gs rs = true) := hG
  have hm12 : ms.length ≤ 12 := by have := goodN_len hG; omega
  clear hG
  obtain ⟨q0, q1, q2, q3, q4, q5, q6⟩ := Wire.Bk.m7 BX1.out.ka
  have qlt := BX1.out.ka.lt
  have HM1 : Hid (LsAt tyMg w1 am ms) := (HR.out.keep BX1.out.bel).m
  go_wp2_with fail
  clear q0 q1 q2 q3 q4 q5 q6
  go_loopw [4, 13] (fun vs vi wr => ∃ (vo : Value) (k : Nat), vs = vo ∧ k ≤ ms.length ∧ vi = .int .i64 k ∧ Hid (OwnM w1.heap.size wr vo (putL [] ((lkM ms).take k))) ∧ Hid (putL [] ((lkM ms).take k) = [] → vo = .slice none 0 0) ∧ Hid (Below w1.heap.size w1 wr)) (fun _ vi _ => ms.length - (intOf vi).toNat)
  case atStart => exact ⟨_, 0, rfl, Nat.zero_le _, rfl, World.ownsRow_nil _ _ _ _, fun _ => rfl, Below.refl _ _⟩
  case round =>
    obtain ⟨vo, k, hvo, hk, rfl, HO, HN, HB⟩ := hrel
    have hvo := hvo.symm
    subst hvo
    by_cases hlt : k < ms.length
    · have HMr : Hid (LsAt tyMg wr am ms) := HM1.out.keep HB.out
      obtain ⟨bk, off, rfl⟩ := lsAt_form HMr.out (by show 0 < ms.length; omega)
      obtain ⟨hb1, ab, cb, hc, _⟩ := msAt_cell HMr.out hlt
      obtain ⟨c0, c1, c2, c3, c4, c5, c6, c7, c8⟩ := hc.m9
      have HTK : Hid (putL [] ((lkM ms).take (k + 1)) = putI (putL [] ((lkM ms).take k)) (ms.getD k mg0).x1) := by rw [Hid, take_snoc (by rw [lkM_len]; exact hlt), putL_snoc, lkM_get hlt]
      have hle : (putL [] ((lkM ms).take k)).length ≤ 16 := by have := putL_len ((lkM ms).take k) []; rw [List.length_take, lkM_len] at this; simp at this; omega
      obtain ⟨T, hT⟩ : ∃ T, T = putL [] ((lkM ms).take k) := ⟨_, rfl⟩
      rw [← hT] at HO HN HTK hle
      clear hc hT
      generalize ms.getD k mg0 = p at c0 c1 c2 c3 c4 c5 c6 c7 c8 HTK
      obtain ⟨x0, x1, x2, x3, x4, x5, x6, x7, l⟩ := p
      have HTK : Hid (putL [] ((lkM ms).take (k + 1)) = putI T x1) := HTK
      go_wp2_with fail
      refine (lputP_any w1.heap.size vo T x1 _ (World.ownsRow.alloc HO.out _) HN.out hle (by have := HB.out.size; simp; omega)).mono ?_
      rintro e w3 ⟨v', rfl, ho, HW⟩
      have HO3 : Hid (OwnM w1.heap.size w3 v' (putL [] ((lkM ms).take (k + 1)))) := by rw [HTK.out]; exact ho
      have HN3 : Hid (putL [] ((lkM ms).take (k + 1)) = [] → v' = .slice none 0 0) := fun h => by rw [HTK.out] at h; exact absurd h (putI_len _ _).2
      have HB3 : Hid (Below w1.heap.size w1 w3) := belt HB.out (belt (belA _ _) HW)
      clear ho HW
      go_wp2_with fail
      go_roundw
      case rel => exact ⟨_, k + 1, rfl, by omega, by go_num, HO3, HN3, HB3⟩
      case measure => simp [intOf]; omega
    · have hke : k = ms.length := by omega
      subst hke
      have HF : Hid (putL [] ((lkM ms).take ms.length) = opnL b d ttl ps ms gs rs) := by rw [Hid, HV.out, List.take_of_length_le (by rw [lkM_len]; exact Nat.le_refl _)]
      have HO2 := HO.out
      have HN2 := HN.out
      rw [HF.out] at HO2 HN2
      have HO3 : Hid (OwnM w.heap.size wr vo (opnL b d ttl ps ms gs rs)) := HO2.mono BX1.out.bel.size
      have HN3 : Hid (opnL b d ttl ps ms gs rs = [] → vo = .slice none 0 0) := HN2
      have HBE : Hid (Below w.heap.size w wr) := BX1.out.bel.trans (HB.out.mono BX1.out.bel.size)
      clear HO2 HN2 HO HN HF
      go_wp2
      go_ret2
      exact ⟨_, ret_sb HGG.out.symm, HO3.out, HN3.out, HBE.out⟩
set_option maxRecDepth 100000 in
set_option maxHeartbeats 6400000 in
theorem lLostLooks_own (b d ttl : Int) (ap am ag ar : Option Addr) (cp cm cg cr : Nat) (ps : List Pr) (ms : List Mg) (gs : List Int) (rs : List Rp) (w : World) (hb : BigN ps ms gs rs) (hr : NetAt w ap am ag ar ps ms gs rs) :
    Calls Tryz.prog 22 #[.agg #[.int .i64 b, .int .i64 d, .slice ap ps.length cp, .int .i64 ttl, .slice am ms.length cm, .slice ag gs.length cg, .slice ar rs.length cr]] w fun e w' => ∃ a n c, e = .returned (.tuple #[.slice a n c, .bool (goodN b d ttl ps ms gs rs)]) ∧ (lostL b d ttl ps ms gs rs).length = n ∧ RowAt w' a (lostL b d ttl ps ms gs rs) ∧ Below w.heap.size w w' := by
  obtain ⟨i0, hi, hz0, hz1, hz2⟩ := info_parts'
  have HR : Hid (NetAt w ap am ag ar ps ms gs rs) := hr
  have hgl : gs.length ≤ 1048576 := hb.g
  have CG := lOpenLooks_any b d ttl ap am ag ar cp cm cg cr ps ms gs rs _ hb (hr.keep (belA w (.cells #[.int .i64 b, .int .i64 d, .slice ap ps.length cp, .int .i64 ttl, .slice am ms.length cm, .slice ag gs.length cg, .slice ar rs.length cr] 36)))
  clear hr hb
  go_enter Tryz.func22, Tryz.ntmps22
  go_wp2_with fail
  refine CG.mono ?_
  rintro e w1 ⟨v1, rfl, hom, hnm, HW⟩
  have BX1 : Hid (B1 w w1 #[.int .i64 b, .int .i64 d, .slice ap ps.length cp, .int .i64 ttl, .slice am ms.length cm, .slice ag gs.length cg, .slice ar rs.length cr] 36) := (b10 w _ _).keep HW
  cases hG : goodN b d ttl ps ms gs rs
  · have HV : Hid (lostL b d ttl ps ms gs rs = []) := by unfold Hid lostL; rw [hG]; rfl
    have HGG : Hid (goodN b d ttl ps ms gs rs = false) := hG
    clear hG HW CG hom hnm
    go_wp2
    go_ret2
    exact ⟨none, 0, 0, ret_sb HGG.out.symm, by rw [HV.out]; rfl, by rw [HV.out]; exact .inl rfl, BX1.out.bel⟩
  have HV : Hid (lostL b d ttl ps ms gs rs = gs.filter (lostP (lkL ms rs))) := by unfold Hid lostL; rw [if_pos hG]
  have HGG : Hid (goodN b d ttl ps ms gs rs = true) := hG
  have HOP : Hid (opnL b d ttl ps ms gs rs = putL [] (lkM ms)) := by unfold Hid opnL; rw [if_pos hG]
  have hm12 : ms.length + rs.length ≤ 12 := by have := goodN_len hG; omega
  have HO1 : Hid (OwnM (w.heap.size + 1) w1 v1 (putL [] (lkM ms ++ (lkR rs).take 0))) := by
    have h := hom
    rw [HOP.out] at h
    simp only [World.size_alloc] at h
    rw [List.take_zero, List.append_nil]
    exact h
  have HN1 : Hid (putL [] (lkM ms ++ (lkR rs).take 0) = [] → v1 = .slice none 0 0) := by
    have h := hnm
    rw [HOP.out] at h
    rw [List.take_zero, List.append_nil]
    exact h
  clear hG HW CG hom hnm
  obtain ⟨q0, q1, q2, q3, q4, q5, q6⟩ := Wire.Bk.m7 BX1.out.ka
  have qlt := BX1.out.ka.lt
  have HQ1 : Hid (LsAt tyRp w1 ar rs) := (HR.out.keep BX1.out.bel).r
  go_wp2_with fail
  clear q0 q1 q2 q3 q4 q5 q6
  go_loopw [4, 21] (fun vs vi wr => ∃ (vo : Value) (k : Nat), vs = vo ∧ k ≤ rs.length ∧ vi = .int .i64 k ∧ Hid (OwnM (w.heap.size + 1) wr vo (putL [] (lkM ms ++ (lkR rs).take k))) ∧ Hid (putL [] (lkM ms ++ (lkR rs).take k) = [] → vo = .slice none 0 0) ∧ Hid (Below w1.heap.size w1 wr)) (fun _ vi _ => rs.length - (intOf vi).toNat)
  case atStart => exact ⟨_, 0, rfl, Nat.zero_le _, rfl, HO1, HN1, Below.refl _ _⟩
  case round =>
    clear HO1 HN1
    obtain ⟨vo, k, hvo, hk, rfl, HO, HN, HB⟩ := hrel
    have hvo := hvo.symm
    subst hvo
    have BX : Hid (B1 w wr #[.int .i64 b, .int .i64 d, .slice ap ps.length cp, .int .i64 ttl, .slice am ms.length cm, .slice ag gs.length cg, .slice ar rs.length cr] 36) := BX1.out.keep HB.out
    obtain ⟨q0, q1, q2, q3, q4, q5, q6⟩ := Wire.Bk.m7 BX.out.ka
    have qltr := BX.out.ka.lt
    by_cases hlt : k < rs.length
    · have HMr : Hid (LsAt tyRp wr ar rs) := HQ1.out.keep HB.out
      obtain ⟨bk, off, rfl⟩ := lsAt_form HMr.out (by show 0 < rs.length; omega)
      obtain ⟨hb1, hc⟩ := rsAt_cell HMr.out hlt
      obtain ⟨c0, c1, c2, c3, c4⟩ := hc.r5
      have HTK : Hid (putL [] (lkM ms ++ (lkR rs).take (k + 1)) = putI (putL [] (lkM ms ++ (lkR rs).take k)) (rs.getD k rp0).x0) := by rw [Hid, take_snoc (by rw [lkR_len]; exact hlt), ← List.append_assoc, putL_snoc, lkR_get hlt]
      have hle : (putL [] (lkM ms ++ (lkR rs).take k)).length ≤ 16 := by have := putL_len (lkM ms ++ (lkR rs).take k) []; rw [List.length_append, List.length_take, lkM_len, lkR_len] at this; simp at this; omega
      obtain ⟨T, hT⟩ : ∃ T, T = putL [] (lkM ms ++ (lkR rs).take k) := ⟨_, rfl⟩
      rw [← hT] at HO HN HTK hle
      clear hc hT
      generalize rs.getD k rp0 = p at c0 c1 c2 c3 c4 HTK
      obtain ⟨x0, x1, x2, x3, bb⟩ := p
      have HTK : Hid (putL [] (lkM ms ++ (lkR rs).take (k + 1)) = putI T x0) := HTK
      go_wp2_with fail
      refine (lputP_any (w.heap.size + 1) vo T x0 _ (World.ownsRow.alloc HO.out _) HN.out hle (by simp; omega)).mono ?_
      rintro e w3 ⟨v', rfl, ho, HW⟩
      have HO3 : Hid (OwnM (w.heap.size + 1) w3 v' (putL [] (lkM ms ++ (lkR rs).take (k + 1)))) := by rw [HTK.out]; exact ho
      have HN3 : Hid (putL [] (lkM ms ++ (lkR rs).take (k + 1)) = [] → v' = .slice none 0 0) := fun h => by rw [HTK.out] at h; exact absurd h (putI_len _ _).2
      have HB3 : Hid (Below w1.heap.size w1 w3) := belt HB.out (belt (belA _ _) HW)
      clear ho HW
      go_wp2_with fail
      go_roundw
      case rel => exact ⟨_, k + 1, rfl, by omega, by go_num, HO3, HN3, HB3⟩
      case measure => simp [intOf]; omega
    · have hke : k = rs.length := by omega
      subst hke
      have HTE : Hid (lkM ms ++ (lkR rs).take rs.length = lkL ms rs) := by rw [Hid, List.take_of_length_le (by rw [lkR_len]; exact Nat.le_refl _)]; rfl
      rw [HTE.out] at HO HN
      obtain ⟨T, hT⟩ : ∃ T, T = putL [] (lkL ms rs) := ⟨_, rfl⟩
      have HHB : Hid (∀ x, hasB T x = hasB (lkL ms rs) x) := fun x => by
        rw [hT, Bool.eq_iff_iff, hasB_mem, hasB_mem, putL_mem _ inc_nil]
        simp
      have hle : T.length ≤ 16 := by rw [hT]; have := putL_len (lkL ms rs) []; rw [lkL_len] at this; simp at this; omega
      rw [← hT] at HO
      obtain ⟨aT, cT, rfl, hcT, hrow⟩ := own_rowAt HO.out
      have HRT : Hid (RowAt wr aT T) := hrow
      have HGS : Hid (RowAt wr ag gs) := (HR.out.keep BX.out.bel).g
      obtain ⟨L, hL⟩ : ∃ L, L = lkL ms rs := ⟨_, rfl⟩
      rw [← hL] at HV HHB
      clear hT hrow HO HN HTE hL
      obtain ⟨wb, rfl⟩ : ∃ wb : World, wb = wr := ⟨_, rfl⟩
      go_wp2_with fail
      clear q0 q1 q2 q3 q4 q5 q6
      go_loopw [8, 33] (fun vs vi w' => ∃ (vo : Value) (j : Nat), vs = vo ∧ j ≤ gs.length ∧ vi = .int .i64 j ∧ Hid (w'.ownsRow wb.heap.size 3 1 vo ((gs.take j).filter (lostP L)).length (((gs.take j).filter (lostP L)).map (Value.int .i64))) ∧ Hid (Below wb.heap.size wb w')) (fun _ vi _ => gs.length - (intOf vi).toNat)
      case atStart => exact ⟨_, 0, rfl, Nat.zero_le _, rfl, World.ownsRow_nil _ _ _ _, Below.refl _ _⟩
      case round =>
        obtain ⟨vo, j, hvo, hj, rfl, HO, HC⟩ := hrel
        have hvo := hvo.symm
        subst hvo
        by_cases hlt : j < gs.length
        · have HGr : Hid (RowAt wr ag gs) := HGS.out.keep HC.out
          obtain ⟨bk, off, rfl⟩ := rowAt_form HGr.out (by omega)
          have hc := (rowAt_cell HGr.out (by omega)).2 j hlt
          have HST : Hid ((gs.take (j + 1)).filter (lostP L) = (gs.take j).filter (lostP L) ++ (if lostP L (gs.getD j 0) = true then [gs.getD j 0] else [])) := filter_step _ hlt
          have hle2 : ((gs.take j).filter (lostP L)).length ≤ 1048576 := Nat.le_trans (List.length_filter_le _ _) (by rw [List.length_take]; omega)
          obtain ⟨F, hF⟩ : ∃ F, F = (gs.take j).filter (lostP L) := ⟨_, rfl⟩
          rw [← hF] at HO HST hle2
          clear hF
          generalize gs.getD j 0 = x at hc HST
          have CH := lhasN aT cT T.length T x _ rfl (by unfold maxLen; omega) (HRT.out.keep HC.out)
          rw [HHB.out x] at CH
          go_wp2_with fail
          refine CH.mono ?_
          rintro e wx ⟨rfl, hx⟩
          have hx' := hx.symm
          subst hx'
          clear hx CH
          cases h1 : hasB L x
          · have HT2 : Hid ((gs.take (j + 1)).filter (lostP L) = F ++ [x]) := by rw [Hid, HST.out, if_pos (by unfold lostP; rw [h1]; rfl)]
            clear h1 HST
            go_wp2_with (at_builtin; refine wpList_append_own _ rfl (.tmp 41) (.tmp 43) 30 rfl wb.heap.size 3 i0 (.int .i64 0) 1 8 Tryz.underlying30 hi hz0 hz1 hz2 rfl (by decide) _ _ _ rfl (HO.out.alloc _) ⟨_, 0, none⟩ 1 1 [.int .i64 x] rfl rfl (cell_one_new _ _ _) (by simp [Value.oneCell']) (by unfold maxLen; omega) (by omega) (alloc_size HC.out) ?_; intro v5 w5 hown5 hgrow5 _; have HB5 : Hid (Below wb.heap.size wb w5) := grown_bel (HC.out.alloc HC.out.size _) hgrow5 (alloc_size HC.out) (fun k hk => (HO.out.lt k hk).1); have HO5 : Hid (w5.ownsRow wb.heap.size 3 1 v5 ((gs.take (j + 1)).filter (lostP L)).length (((gs.take (j + 1)).filter (lostP L)).map (Value.int .i64))) := own_snoc HT2.out hown5; clear hown5 hgrow5)
            go_roundw
            case rel => exact ⟨_, j + 1, rfl, by omega, by go_num, HO5, HB5⟩
            case measure => simp [intOf]; omega
          · have HT2 : Hid ((gs.take (j + 1)).filter (lostP L) = F) := by rw [Hid, HST.out, if_neg (by unfold lostP; rw [h1]; simp), List.append_nil]
            have HO2 : Hid (wr.ownsRow wb.heap.size 3 1 vo ((gs.take (j + 1)).filter (lostP L)).length (((gs.take (j + 1)).filter (lostP L)).map (Value.int .i64))) := by rw [HT2.out]; exact HO
            clear h1 HST
            go_wp2
            go_roundw
            case rel => exact ⟨_, j + 1, rfl, by omega, by go_num, HO2, HC⟩
            case measure => simp [intOf]; omega
        · have hke : j = gs.length := by omega
          subst hke
          have HF : Hid ((gs.take gs.length).filter (lostP L) = lostL b d ttl ps ms gs rs) := by rw [Hid, HV.out, List.take_of_length_le (Nat.le_refl _)]
          have HO2 := HO.out
          rw [HF.out] at HO2
          obtain ⟨aR, cR, rfl, _, hls⟩ := own_rowAt HO2
          have HLS : Hid (RowAt wr aR (lostL b d ttl ps ms gs rs)) := hls
          have HBE : Hid (Below w.heap.size w wr) := BX.out.bel.trans (HC.out.mono BX.out.bel.size)
          clear HO2 hls HO HF
          go_wp2
          go_ret2
          exact ⟨_, _, _, ret_sb HGG.out.symm, rfl, HLS.out, HBE.out⟩
end Go.Proofs.YtioiacmaijgdoaaGreat
namespace Go.Proofs.YtioiacmaijgdoaaGreat
open Go.RowKit Go.Deep
set_option linter.unusedVariables false
set_option linter.unusedSimpArgs false
theorem appB_nodup {gs L : List Int} (h : appB gs L = true) : L.Nodup := by
  have h' := of_decide_eq_true h
  have gE : ∀ i (hi : i < L.length), L.getD i 0 = L[i] := fun i hi => by rw [List.getD_eq_getElem?_getD, List.getElem?_eq_getElem hi]; rfl
  refine List.pairwise_iff_getElem.2 (fun i j hi hj hij he => ?_)
  have h2 := (h' j hj).2
  have : hasB (L.take j) (L.getD j 0) = true := hasB_mem.2 (by
    rw [gE j hj, ← he]
    exact List.mem_take_iff_getElem.2 ⟨i, by omega, rfl⟩)
  rw [this] at h2
  cases h2
theorem goodN_nodup {b d ttl : Int} {ps : List Pr} {ms : List Mg} {gs : List Int} {rs : List Rp} (h : goodN b d ttl ps ms gs rs = true) : (lkM ms).Nodup := by
  unfold goodN at h
  simp only [Bool.and_eq_true] at h
  exact (List.nodup_append.1 (appB_nodup h.2)).1
theorem opnL_big {b d ttl : Int} {ps : List Pr} {ms : List Mg} {gs : List Int} {rs : List Rp} (h : ms.length ≤ 1048576) : (opnL b d ttl ps ms gs rs).length ≤ 1048576 := by
  unfold opnL
  split
  · have := putL_len (lkM ms) []
    rw [lkM_len] at this
    simp at this
    omega
  · simp
set_option maxRecDepth 100000 in
set_option maxHeartbeats 6400000 in
theorem OpenLooks_own (b d ttl : Int) (ap am ag ar : Option Addr) (cp cm cg cr : Nat) (ps : List Pr) (ms : List Mg) (gs : List Int) (rs : List Rp) (w : World) (hb : BigN ps ms gs rs) (hr : NetAt w ap am ag ar ps ms gs rs) :
    Calls Tryz.prog 17 #[.agg #[.int .i64 b, .int .i64 d, .slice ap ps.length cp, .int .i64 ttl, .slice am ms.length cm, .slice ag gs.length cg, .slice ar rs.length cr]] w fun e w' => ∃ a n c, e = .returned (.tuple #[.slice a n c, .bool (goodN b d ttl ps ms gs rs)]) ∧ (opnL b d ttl ps ms gs rs).length = n ∧ OwnLs w.heap.size w'.heap.size w' a n (opnL b d ttl ps ms gs rs) ∧ Below w.heap.size w w' := by
  have HR : Hid (NetAt w ap am ag ar ps ms gs rs) := hr
  have hml : ms.length ≤ 1048576 := by have := hb.m; omega
  have CG := GoodNet_own b d ttl ap am ag ar cp cm cg cr ps ms gs rs _ hb (hr.keep (belA w (.cells #[.int .i64 b, .int .i64 d, .slice ap ps.length cp, .int .i64 ttl, .slice am ms.length cm, .slice ag gs.length cg, .slice ar rs.length cr] 36)))
  clear hr hb
  go_enter Tryz.func17, Tryz.ntmps17
  go_wp2_with fail
  refine CG.mono ?_
  rintro e w1 ⟨rfl, HW⟩
  have BX1 : Hid (B1 w w1 #[.int .i64 b, .int .i64 d, .slice ap ps.length cp, .int .i64 ttl, .slice am ms.length cm, .slice ag gs.length cg, .slice ar rs.length cr] 36) := (b10 w _ _).keep HW
  clear HW CG
  cases hG : goodN b d ttl ps ms gs rs
  · have HV : Hid (opnL b d ttl ps ms gs rs = []) := by unfold Hid opnL; rw [hG]; rfl
    have HGG : Hid (goodN b d ttl ps ms gs rs = false) := hG
    clear hG
    go_wp2
    go_ret2
    exact ⟨none, 0, 0, ret_sb HGG.out.symm, by rw [HV.out]; rfl, by rw [HV.out]; exact ownLs_nil _ _ _ _, BX1.out.bel⟩
  have HV : Hid (opnL b d ttl ps ms gs rs = putL [] (lkM ms)) := by unfold Hid opnL; rw [if_pos hG]
  have HGG : Hid (goodN b d ttl ps ms gs rs = true) := hG
  have hm12 : ms.length ≤ 12 := by have := goodN_len hG; omega
  have HND : Hid ((lkM ms).Nodup) := goodN_nodup hG
  clear hG
  obtain ⟨q0, q1, q2, q3, q4, q5, q6⟩ := Wire.Bk.m7 BX1.out.ka
  have qlt := BX1.out.ka.lt
  go_wp2_with fail
  refine (looksInBag_any w.heap.size am cm ms _ hml qlt q4 (HR.out.keep BX1.out.bel).m).mono ?_
  rintro e w2 ⟨rfl, ow⟩
  have HO2 : Hid (OwnZ w1 w2 w1.heap.size (lkM ms)) := ow
  have hlk : Hid ((lkM ms).length = ms.length) := lkM_len ms
  clear ow q0 q1 q2 q3 q4 q5 q6 qlt
  have CS := slSort_any w1 w1.heap.size ms.length (lkM ms) w2 HND.out (by rw [hlk.out]; exact hm12) HO2.out
  rw [hlk.out] at CS
  go_wp2_with fail
  refine CS.mono ?_
  rintro e w3 ⟨rfl, HO3⟩
  have HE : Hid (Below w.heap.size w w3) := BX1.out.bel.trans (HO3.bel.mono BX1.out.bel.size)
  have HLN : Hid ((opnL b d ttl ps ms gs rs).length = ms.length) := by
    rw [Hid, HV.out]
    have := srt_len HND.out (Nat.le_refl (lkM ms).length)
    unfold srt at this
    rw [List.take_of_length_le (Nat.le_refl _)] at this
    rw [this, hlk.out]
  have HLS : Hid (OwnLs w.heap.size w3.heap.size w3 (some ⟨w1.heap.size, 0, none⟩) ms.length (opnL b d ttl ps ms gs rs)) := by
    rw [Hid, HV.out]
    exact ⟨by rw [← HV.out]; exact HLN.out, .inr ⟨w1.heap.size, rfl, HO3.lt, (HO3.owns).mono BX1.out.bel.size⟩⟩
  clear CS HO3 HO2
  go_wp2
  go_ret2
  exact ⟨_, _, _, ret_sb HGG.out.symm, HLN.out, HLS.out, HE.out⟩
theorem lOpenLooks_own (b d ttl : Int) (ap am ag ar : Option Addr) (cp cm cg cr : Nat) (ps : List Pr) (ms : List Mg) (gs : List Int) (rs : List Rp) (w : World) (hb : BigN ps ms gs rs) (hr : NetAt w ap am ag ar ps ms gs rs) :
    Calls Tryz.prog 23 #[.agg #[.int .i64 b, .int .i64 d, .slice ap ps.length cp, .int .i64 ttl, .slice am ms.length cm, .slice ag gs.length cg, .slice ar rs.length cr]] w fun e w' => ∃ a n c, e = .returned (.tuple #[.slice a n c, .bool (goodN b d ttl ps ms gs rs)]) ∧ (opnL b d ttl ps ms gs rs).length = n ∧ RowAt w' a (opnL b d ttl ps ms gs rs) ∧ Below w.heap.size w w' := by
  refine (lOpenLooks_any b d ttl ap am ag ar cp cm cg cr ps ms gs rs w hb hr).mono ?_
  rintro e w1 ⟨v, rfl, ho, _, HW⟩
  obtain ⟨a, c, rfl, _, hrow⟩ := own_rowAt ho
  exact ⟨a, _, c, rfl, rfl, hrow, HW⟩
end Go.Proofs.YtioiacmaijgdoaaGreat
namespace Go.Proofs.YtioiacmaijgdoaaGreat
open Go.RowKit Go.ChangeShapes Go.WideShapes Go.Deep
set_option linter.unusedVariables false
set_option linter.unusedSimpArgs false
section
variable {H : Type} {enc : TypeId × Value → H} {W : World} {base : Nat} {held : Bool}
theorem ls_of_trod (e : TyI) {ts te : TypeId} (hts : Tryz.prog.underlying ts = some (.slice te)) (hw : Tryz.prog.cellsOf te = e.wide) (hpos : 0 < e.wide)
    (hel : ∀ (fuel : Nat) (cs : List Value) (x : DataW H × List MemPlace), DataW.trod enc Tryz.prog W base (fun _ => true) held fuel te cs = some x → ∃ m, e.rep W cs m)
    {fuel : Nat} {a : Option Addr} {n cap : Nat} {x : DataW H × List MemPlace} (h : DataW.trod enc Tryz.prog W base (fun _ => true) held fuel ts [.slice a n cap] = some x) :
    ∃ ms : List e.den, ms.length = n ∧ n ≤ maxLen ∧ n ≤ cap ∧ LsAt e W a ms := by
  rcases open_slice hts h with ⟨hcs, _⟩ | ⟨⟨b, off, spot⟩, l, c, m, k, D, Pl, hcs, _, hl, hm, hmm, _, hx⟩
  · simp at hcs
    obtain ⟨rfl, rfl, rfl⟩ := hcs
    exact ⟨[], rfl, Nat.zero_le _, Nat.zero_le _, .inl rfl⟩
  · simp at hcs
    obtain ⟨rfl, rfl, rfl⟩ := hcs
    simp at hmm
    subst hmm
    by_cases h0 : n = 0
    · subst h0; exact ⟨[], rfl, Nat.zero_le _, Nat.zero_le _, .inl rfl⟩
    rw [hw] at hx
    have hs : spot = none := by
      obtain ⟨cs, h1, h2⟩ := hx 0 (by omega)
      obtain ⟨p, hp⟩ := hel _ _ _ h2
      have hlen := e.rep_len hp
      obtain ⟨_, _, hce⟩ := World.cells?_some h1
      have g0 := hce 0 hpos
      rw [List.getElem?_eq_getElem (by omega)] at g0
      simpa [Addr.add] using World.cell?_spot g0
    subst hs
    have key : ∀ i, i < n → ∃ p : e.den, b < W.heap.size ∧ ∃ ci, CellsAt W b (off + i * e.wide) ci ∧ e.rep W ci p := by
      intro i hi
      obtain ⟨cs, h1, h2⟩ := hx i (by omega)
      obtain ⟨p, hp⟩ := hel _ _ _ h2
      have hlen := e.rep_len hp
      obtain ⟨_, _, hce⟩ := World.cells?_some h1
      have at_ : ∀ j, j < e.wide → W.cell? ⟨b, off + i * e.wide + j, none⟩ = cs[j]? := fun j hj => by
        have g := hce j hj
        rw [add_add] at g
        rw [add_none'] at g
        rw [Nat.add_assoc]
        exact g
      have g0 := at_ 0 hpos
      rw [List.getElem?_eq_getElem (by omega)] at g0
      refine ⟨p, by simpa using block_lt_of_cell g0, cs, fun j v hj => ?_, hp⟩
      have hjl := (List.getElem?_eq_some_iff.1 hj).1
      exact (at_ j (by omega)).trans hj
    obtain ⟨f, hf⟩ := @choose_lt e.den ⟨e.dflt⟩ _ _ key
    obtain ⟨hb, _⟩ := hf 0 (by omega)
    refine ⟨(List.range n).map f, by simp, by omega, hl, .inr ⟨b, off, rfl, hb, fun i hi => ?_⟩⟩
    have hi' : i < n := by simpa using hi
    have := (hf i hi').2
    simpa [List.getD_eq_getElem?_getD, hi'] using this
theorem msg_of_trod {fuel : Nat} {cs : List Value} {x : DataW H × List MemPlace} (h : DataW.trod enc Tryz.prog W base (fun _ => true) held fuel 201 cs = some x) : ∃ m, tyMg.rep W cs m := by
  obtain ⟨xs, n, _, _, hl, hlen, hf⟩ := DataW.trod_struct Tryz.underlying201 h
  obtain ⟨c0, c1, c2, c3, c4, c5, c6, c7, c8, rfl⟩ := Wire.list9 (hl.trans Wire.cellsM)
  obtain ⟨x0, x1, x2, x3, x4, x5, x6, x7, x8, rfl⟩ := Wire.list9 (l := xs) hlen
  have g0 := hf 0 _ rfl
  have g1 := hf 1 _ rfl
  have g2 := hf 2 _ rfl
  have g3 := hf 3 _ rfl
  have g4 := hf 4 _ rfl
  have g5 := hf 5 _ rfl
  have g6 := hf 6 _ rfl
  have g7 := hf 7 _ rfl
  have g8 := hf 8 _ rfl
  simp [Value.cells, cellsI, cellsIs] at g0 g1 g2 g3 g4 g5 g6 g7 g8
  obtain ⟨a0, e0, _, _⟩ := DataW.trod_int Tryz.underlying3 g0
  obtain ⟨a1, e1, _, _⟩ := DataW.trod_int Tryz.underlying3 g1
  obtain ⟨a2, e2, _, _⟩ := DataW.trod_int Tryz.underlying3 g2
  obtain ⟨a3, e3, _, _⟩ := DataW.trod_int Tryz.underlying3 g3
  obtain ⟨a4, e4, _, _⟩ := DataW.trod_int Tryz.underlying3 g4
  obtain ⟨a5, e5, _, _⟩ := DataW.trod_int Tryz.underlying3 g5
  obtain ⟨a6, e6, _, _⟩ := DataW.trod_int Tryz.underlying3 g6
  obtain ⟨a7, e7, _, _⟩ := DataW.trod_int Tryz.underlying3 g7
  simp at e0 e1 e2 e3 e4 e5 e6 e7
  subst e0 e1 e2 e3 e4 e5 e6 e7
  obtain ⟨ab, nb, cb, rfl⟩ := slice_of_trod Tryz.underlying30 g8
  obtain ⟨ys, rfl, hm, hc, hr⟩ := ints_row g8
  exact ⟨⟨a0, a1, a2, a3, a4, a5, a6, a7, ys⟩, ab, cb, rfl, hr, hm, hc⟩
theorem list5 {α : Type} {l : List α} (h : l.length = 5) : ∃ c0 c1 c2 c3 c4, l = [c0, c1, c2, c3, c4] := by
  match l, h with
  | [c0, c1, c2, c3, c4], _ => exact ⟨c0, c1, c2, c3, c4, rfl⟩
theorem list7 {α : Type} {l : List α} (h : l.length = 7) : ∃ c0 c1 c2 c3 c4 c5 c6, l = [c0, c1, c2, c3, c4, c5, c6] := by
  match l, h with
  | [c0, c1, c2, c3, c4, c5, c6], _ => exact ⟨c0, c1, c2, c3, c4, c5, c6, rfl⟩
theorem array7 {α : Type} {cs : Array α} (h : cs.size = 7) : ∃ c0 c1 c2 c3 c4 c5 c6, cs = #[c0, c1, c2, c3, c4, c5, c6] := by
  obtain ⟨l⟩ := cs
  obtain ⟨c0, c1, c2, c3, c4, c5, c6, rfl⟩ := list7 (l := l) (by simpa using h)
  exact ⟨c0, c1, c2, c3, c4, c5, c6, rfl⟩
theorem cellsMs : Tryz.prog.cellsOf 68 = 1 := by kernel_rfl
theorem cellsRs : Tryz.prog.cellsOf 69 = 1 := by kernel_rfl
theorem cellsR : Tryz.prog.cellsOf 204 = 5 := by kernel_rfl
theorem cellsB : Tryz.prog.cellsOf 4 = 1 := by kernel_rfl
theorem cellsNt : Tryz.prog.cellsOf 71 = 7 := by kernel_rfl
theorem reply_of_trod {fuel : Nat} {cs : List Value} {x : DataW H × List MemPlace} (h : DataW.trod enc Tryz.prog W base (fun _ => true) held fuel 204 cs = some x) : ∃ m, tyRp.rep W cs m := by
  obtain ⟨xs, n, _, _, hl, hlen, hf⟩ := DataW.trod_struct Tryz.underlying204 h
  obtain ⟨c0, c1, c2, c3, c4, rfl⟩ := list5 (hl.trans cellsR)
  obtain ⟨x0, x1, x2, x3, x4, rfl⟩ := list5 (l := xs) hlen
  have g0 := hf 0 _ rfl
  have g1 := hf 1 _ rfl
  have g2 := hf 2 _ rfl
  have g3 := hf 3 _ rfl
  have g4 := hf 4 _ rfl
  simp [Value.cells, cellsI, cellsB] at g0 g1 g2 g3 g4
  obtain ⟨a0, e0, _, _⟩ := DataW.trod_int Tryz.underlying3 g0
  obtain ⟨a1, e1, _, _⟩ := DataW.trod_int Tryz.underlying3 g1
  obtain ⟨a2, e2, _, _⟩ := DataW.trod_int Tryz.underlying3 g2
  obtain ⟨a3, e3, _, _⟩ := DataW.trod_int Tryz.underlying3 g3
  obtain ⟨a4, e4, _⟩ := DataW.trod_bool Tryz.underlying4 g4
  simp at e0 e1 e2 e3 e4
  subst e0 e1 e2 e3 e4
  exact ⟨⟨a0, a1, a2, a3, a4⟩, rfl⟩
set_option maxRecDepth 100000 in
theorem open_net {v : Value} {r : Reach} {b0 : Nat} {d : DataW H} {p : List MemPlace} (hv : Value.okWide Tryz.prog W r b0 71 v) (h : DataW.Trod enc Tryz.prog W base (fun _ => true) held 71 v d p) :
    ∃ (b g t : Int) (ap am ag ar : Option Addr) (cp cm cg cr : Nat) (ps : List Pr) (ms : List Mg) (gs : List Int) (rs : List Rp), v = .agg #[.int .i64 b, .int .i64 g, .slice ap ps.length cp, .int .i64 t, .slice am ms.length cm, .slice ag gs.length cg, .slice ar rs.length cr] ∧
      ps.length ≤ maxLen ∧ ms.length ≤ maxLen ∧ gs.length ≤ maxLen ∧ rs.length ≤ maxLen ∧ NetAt W ap am ag ar ps ms gs rs := by
  obtain ⟨cs, rfl, hsz⟩ := okWide_struct Tryz.underlying71 hv
  obtain ⟨c0, c1, c2, c3, c4, c5, c6, rfl⟩ := array7 (hsz.trans cellsNt)
  obtain ⟨fuel, hf⟩ := h
  obtain ⟨xs, n, _, _, hl, hlen, hf⟩ := DataW.trod_struct Tryz.underlying71 hf
  obtain ⟨x0, x1, x2, x3, x4, rfl⟩ := list5 (l := xs) hlen
  have g0 := hf 0 _ rfl
  have g1 := hf 1 _ rfl
  have g2 := hf 2 _ rfl
  have g3 := hf 3 _ rfl
  have g4 := hf 4 _ rfl
  simp [Value.cells, cellsI, cellsIs, cellsPs, cellsMs, cellsRs] at g0 g1 g2 g3 g4
  obtain ⟨y0, y1, m, _, _, h0, h1⟩ := trod_struct2 Tryz.underlying67 g0
  simp [cellsS] at h0
  simp [cellsS, cellsPl] at h1
  obtain ⟨z0, z1, m, _, _, i0, i1⟩ := trod_struct2 Tryz.underlying64 h0
  simp [cellsI] at i0 i1
  obtain ⟨b, e0, _, _⟩ := DataW.trod_int Tryz.underlying3 i0
  obtain ⟨g, e1, _, _⟩ := DataW.trod_int Tryz.underlying3 i1
  obtain ⟨t, e2, _, _⟩ := DataW.trod_int Tryz.underlying3 g1
  simp at e0 e1 e2
  subst e0 e1 e2
  obtain ⟨ap, np, cp, rfl⟩ := slice_of_trod Tryz.underlying65 h1
  obtain ⟨ps, rfl, hm, hc, hr⟩ := peersl_of_trod h1
  obtain ⟨am, nm, cm, rfl⟩ := slice_of_trod Tryz.underlying68 g2
  obtain ⟨ms, rfl, hm2, _, hr2⟩ := ls_of_trod tyMg Tryz.underlying68 Wire.cellsM (by show 0 < 9; omega) (fun _ _ _ h => msg_of_trod h) g2
  obtain ⟨ag, ng, cg, rfl⟩ := slice_of_trod Tryz.underlying30 g3
  obtain ⟨gs, rfl, hm3, _, hr3⟩ := ints_row g3
  obtain ⟨ar, nr, cr, rfl⟩ := slice_of_trod Tryz.underlying69 g4
  obtain ⟨rs, rfl, hm4, _, hr4⟩ := ls_of_trod tyRp Tryz.underlying69 cellsR (by show 0 < 5; omega) (fun _ _ _ h => reply_of_trod h) g4
  exact ⟨b, g, t, ap, am, ag, ar, cp, cm, cg, cr, ps, ms, gs, rs, rfl, hm, hm2, hm3, hm4, ⟨hr, hr2, hr3, hr4⟩⟩
end
end Go.Proofs.YtioiacmaijgdoaaGreat
