/- errors.As finds the fault behind its place. -/
import Derived.Test.YtabbicfakkehpaaDoorAs0
import Derived.Test.YtabbicfakkehpaaDoorF2
namespace Go.Proofs.YtabbicfakkehpaaDoor
open Go.RowKit Go.Extern.Stop Go.Stop Go.Extern
set_option linter.unusedVariables false
set_option linter.unusedSimpArgs false
theorem below_set {n t : Nat} {w w1 : World} {C : Array Value} {T : TypeId} (hb : Below n w w1) (ht : Bk w t C T) (htn : t < n) (v : Value) : Below n (w.setCell ⟨t, 0, none⟩ v) (w1.setCell ⟨t, 0, none⟩ v) := by
  refine ⟨hb.os, hb.tape, hb.output, by simpa [World.setCell] using hb.size, ?_⟩
  intro k hk
  by_cases h : k = t
  · subst h
    exact ((ht.keepN hb htn).set 0 v).trans (ht.set 0 v).symm
  · rw [heap_setCell_other _ _ _ _ (by simpa using h), heap_setCell_other _ _ _ _ (by simpa using h)]
    exact hb.block k hk
set_option maxRecDepth 100000 in
set_option maxHeartbeats 8000000 in
theorem asRound (p c : Int) (t a : Nat) (old : Int) (w : World) (ha : Bk w a #[.pointer (some ⟨t, 0, none⟩)] 46) (ht : Bk w t #[.int .i64 old] 44) :
    Calls Tryd.prog 34 #[.iface 98 (.agg #[.int .i64 p, .iface 44 (.agg #[.int .i64 c])]), .iface 46 (.pointer (some ⟨t, 0, none⟩)), .agg #[.pointer (some ⟨1, 46, none⟩), .pointer (some ⟨a, 0, none⟩), .int .u64 150], .iface 83 (.agg #[.pointer (some ⟨1, 44, none⟩)])] w fun e w' => e = .returned (.bool true) ∧ Below w.heap.size (w.setCell ⟨t, 0, none⟩ (.int .i64 c)) w' := by
  have h31 := @run_callFunc_extern Tryd.prog 31 _ (fun args => ReflectliteValue.unpack (args.getD 0 (.tuple #[]))) Tryd.func31 (by kernel_rfl) (by kernel_rfl) (by kernel_rfl) (by kernel_rfl)
  have h47 := @run_callFunc_extern Tryd.prog 47 _ ReflectliteType.typeOf Tryd.func47 (by kernel_rfl) (by kernel_rfl) (by kernel_rfl) (by kernel_rfl)
  have h73 := @run_callFunc_extern Tryd.prog 73 _ (ReflectliteType.relation "AssignableTo" ReflectliteType.assignableTo) Tryd.func73 (by kernel_rfl) (by kernel_rfl) (by kernel_rfl) (by kernel_rfl)
  have h48 := @run_callFunc_extern Tryd.prog 48 _ (ReflectliteValue.method (ReflectliteValue.valueError "reflectlite.Value.Elem" 0) ReflectliteValue.elem) Tryd.func48 (by kernel_rfl) (by kernel_rfl) (by kernel_rfl) (by kernel_rfl)
  have h49 := @run_callFunc_extern Tryd.prog 49 _ ReflectliteValue.set Tryd.func49 (by kernel_rfl) (by kernel_rfl) (by kernel_rfl) (by kernel_rfl)
  have mA := as_mAss
  have mU := as_mUnwrap
  have nA := as_noAs
  have hU := as_hasUn
  have tD := as_typeOfD
  have tF := as_typeOfF
  have aD := as_assD
  have aF := as_assF
  have vF := as_valueF
  go_enter Tryd.func34, Tryd.ntmps34
  go_wp2
  refine wp_loop_rounds 2 ?_
  rw [rounds_succ]
  go_wp2_with fail
  refine (unwrap_any p _ ⟨_, _, rfl⟩ _).mono ?_
  rintro e w1 ⟨rfl, hw⟩
  have HB : Hid (Below w.heap.size w w1) := ((Below.refl _ _).alloc (Nat.le_refl _) _).trans (hw.mono (by simp))
  have HT : Hid (Bk w1 t #[.int .i64 old] 44) := ht.keep HB.out
  have HA : Hid (Bk w1 a #[.pointer (some ⟨t, 0, none⟩)] 46) := ha.keep HB.out
  have HV := (Bk.new w #[.pointer (some ⟨1, 46, none⟩), .pointer (some ⟨a, 0, none⟩), .int .u64 150] 59).keepN hw (by simp)
  obtain ⟨v0, v1, v2⟩ := HV.c3
  have htl := ht.lt
  have hal := ha.lt
  have hsz := hw.size
  simp only [World.size_alloc] at hsz
  clear hw ha HV
  go_wp2_with fail
  rw [rounds_succ]
  have el := as_elemV ⟨a, 0, none⟩ ⟨t, 0, none⟩ w1 (HA.out.cell 0)
  have st := as_set t w1.heap.size c old (w1.alloc (.cells #[.int .i64 c] 44)) (by rw [(Bk.new w1 _ _).cell]; rfl) (by rw [(HT.out.alloc _).cell]; rfl) ((HT.out.alloc _).fr 0)
  go_wp2
  go_ret
  exact ⟨rfl, (below_set (HB.out.alloc HB.out.size _) ht htl _)⟩
/-- what errors.As reads of the package's own -/
def AsG (w : World) : Prop := w.cell? ⟨0, 0, none⟩ = some (.iface 83 (.agg #[.pointer (some ⟨1, 40, none⟩)]))
theorem AsG.lt {w : World} (h : AsG w) : 0 < w.heap.size := by
  rcases Nat.eq_zero_or_pos w.heap.size with h0 | h1
  · simp [AsG, World.cell?, h0] at h
  · exact h1
theorem AsG.keep {w w1 : World} (h : AsG w) (hb : Below w.heap.size w w1) : AsG w1 := (hb.cell (p := ⟨0, 0, none⟩) h.lt).trans h
set_option maxRecDepth 100000 in
set_option maxHeartbeats 8000000 in
theorem As_hit (p c : Int) (t : Nat) (old : Int) (w : World) (hg : AsG w) (ht : Bk w t #[.int .i64 old] 44) :
    Calls Tryd.prog 17 #[.iface 98 (.agg #[.int .i64 p, .iface 44 (.agg #[.int .i64 c])]), .iface 46 (.pointer (some ⟨t, 0, none⟩))] w fun e w' => e = .returned (.bool true) ∧ Below w.heap.size (w.setCell ⟨t, 0, none⟩ (.int .i64 c)) w' := by
  have h31 := @run_callFunc_extern Tryd.prog 31 _ (fun args => ReflectliteValue.unpack (args.getD 0 (.tuple #[]))) Tryd.func31 (by kernel_rfl) (by kernel_rfl) (by kernel_rfl) (by kernel_rfl)
  have h32 := @run_callFunc_extern Tryd.prog 32 _ (ReflectliteValue.methodAny (ReflectliteValue.valueError "reflectlite.Value.Type" 0) (fun t _ _ _ => ReflectliteType.toType t)) Tryd.func32 (by kernel_rfl) (by kernel_rfl) (by kernel_rfl) (by kernel_rfl)
  have h33 := @run_callFunc_extern Tryd.prog 33 _ (ReflectliteValue.method (ReflectliteValue.valueError "reflectlite.Value.IsNil" 0) ReflectliteValue.isNil) Tryd.func33 (by kernel_rfl) (by kernel_rfl) (by kernel_rfl) (by kernel_rfl)
  have hk := @run_callFunc_extern Tryd.prog 65 _ (ReflectliteType.abiMethod fun t => do pure (.int .u8 (← Rtype.kind t))) Tryd.func65 (by kernel_rfl) (by kernel_rfl) (by kernel_rfl) (by kernel_rfl)
  have he := @run_callFunc_extern Tryd.prog 75 _ (ReflectliteType.method ReflectliteType.elem) Tryd.func75 (by kernel_rfl) (by kernel_rfl) (by kernel_rfl) (by kernel_rfl)
  have hi := @run_callFunc_extern Tryd.prog 76 _ (ReflectliteType.relation "Implements" ReflectliteType.implements_) Tryd.func76 (by kernel_rfl) (by kernel_rfl) (by kernel_rfl) (by kernel_rfl)
  have vP := as_valueP
  have tP := as_typeP
  have mK := as_mKind
  have mE := as_mElem
  have mI := as_mImpl
  have kP := as_kindP
  have kF := as_kindF
  have eP := as_elemP
  have iF := as_impl
  have HW1 : Hid (Below w.heap.size w ((w.alloc (.cells #[.pointer (some ⟨t, 0, none⟩)] 46)).alloc (.cells #[.pointer (some ⟨1, 46, none⟩), .pointer (some ⟨w.heap.size, 0, none⟩), .int .u64 150] 59))) := ((Below.refl _ _).alloc (Nat.le_refl _) _).alloc (by simp) _
  have KA : Hid (Bk ((w.alloc (.cells #[.pointer (some ⟨t, 0, none⟩)] 46)).alloc (.cells #[.pointer (some ⟨1, 46, none⟩), .pointer (some ⟨w.heap.size, 0, none⟩), .int .u64 150] 59)) w.heap.size #[.pointer (some ⟨t, 0, none⟩)] 46) := (Bk.new w _ _).alloc _
  have n8 := as_isNil ⟨w.heap.size, 0, none⟩ ⟨t, 0, none⟩ ((w.alloc (.cells #[.pointer (some ⟨t, 0, none⟩)] 46)).alloc (.cells #[.pointer (some ⟨1, 46, none⟩), .pointer (some ⟨w.heap.size, 0, none⟩), .int .u64 150] 59)) (KA.out.cell 0)
  have hg2 := hg.keep HW1.out
  unfold AsG at hg2
  go_enter Tryd.func17, Tryd.ntmps17
  go_wp2_with (go_at_call 34; refine (asRound p c t _ old _ KA.out (ht.keep HW1.out)).mono ?_; rintro e w' ⟨rfl, hw⟩)
  go_ret
  exact ⟨rfl, (below_set HW1.out ht ht.lt _).trans (hw.mono (by simp [World.setCell]; omega))⟩
end Go.Proofs.YtabbicfakkehpaaDoor
