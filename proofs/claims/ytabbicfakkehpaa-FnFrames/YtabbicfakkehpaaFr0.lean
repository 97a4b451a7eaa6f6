/- Frames split and laid together again: the plain mathematics. -/
import Derived.Test.YtabbicfakkehpaaSf1
import Derived.Test.YtabbicfakkehpaaBy3
namespace Go.Proofs.Ytabbicfakkehpaa
open Go.RowKit
set_option linter.unusedVariables false
theorem ba_ext {s t : ByteArray} (h : s.data.toList = t.data.toList) : s = t := ByteArray.ext (Array.toList_inj.1 h)
theorem tb_ext (s : ByteArray) (a b : Nat) : (s.extract a b).data.toList = (s.data.toList.drop a).take (b - a) := by
  rw [ByteArray.data_extract, Array.toList_extract]
theorem tb_app (s t : ByteArray) : (s ++ t).data.toList = s.data.toList ++ t.data.toList := by rw [ByteArray.data_append, Array.toList_append]
theorem tb_len (s : ByteArray) : s.data.toList.length = s.size := Array.length_toList
theorem fb_tb (s : ByteArray) : fb s = 1 + (s.data.toList.head?.map UInt8.toNat).getD 0 := by
  unfold fb
  split
  · rename_i h
    have e : s.data.toList.head? = some s[0] := by
      rw [List.head?_eq_getElem?, Array.getElem?_toList]
      exact Array.getElem?_eq_getElem h
    rw [e]
    rfl
  · rename_i h
    have e : s.data.toList = [] := List.eq_nil_of_length_eq_zero (by rw [tb_len]; omega)
    rw [e]
    rfl
theorem whB_iff (s : ByteArray) : whB s = true ↔ 0 < s.size ∧ fb s ≤ s.size := by unfold whB; exact decide_eq_true_iff
theorem hd_tl {s : ByteArray} (h : whB s = true) : hdt s ++ tl s = s := by
  obtain ⟨h1, h2⟩ := (whB_iff s).1 h
  apply ba_ext
  rw [tb_app]
  unfold hdt tl
  rw [tb_ext, tb_ext, List.drop_zero, Nat.sub_zero, List.take_of_length_le (l := s.data.toList.drop (fb s)) (by rw [List.length_drop, tb_len]; omega)]
  exact List.take_append_drop _ _
theorem hd_size {s : ByteArray} (h : whB s = true) : (hdt s).size = fb s := by
  obtain ⟨h1, h2⟩ := (whB_iff s).1 h
  unfold hdt
  rw [ByteArray.size_extract]
  omega
theorem hd_fb {s : ByteArray} (h : whB s = true) : fb (hdt s) = fb s := by
  have h3 := fb_bd s
  rw [fb_tb (hdt s), fb_tb s]
  unfold hdt
  rw [tb_ext, List.drop_zero, Nat.sub_zero]
  obtain ⟨k, hk⟩ : ∃ k, fb s = k + 1 := ⟨fb s - 1, by omega⟩
  rw [hk]
  cases s.data.toList <;> rfl
theorem frames_ok : ∀ (n : Nat) (s : ByteArray), ∀ f ∈ splF n s, 0 < f.size ∧ f.size = fb f
  | 0, _, f, hf => by simp [splF] at hf
  | n + 1, s, f, hf => by
    rw [splF] at hf
    split at hf
    · rename_i h
      rcases List.mem_cons.1 hf with rfl | hf
      · rw [hd_size h, hd_fb h]
        have := fb_bd s
        omega
      · exact frames_ok n _ f hf
    · simp at hf
theorem frames_cat : ∀ (n : Nat) (s acc : ByteArray), (splF n s).foldl (· ++ ·) acc ++ splR n s = acc ++ s
  | 0, s, acc => by simp [splF, splR]
  | n + 1, s, acc => by
    rw [splF, splR]
    split
    · rename_i h
      rw [List.foldl_cons, frames_cat n (tl s) (acc ++ hdt s), ByteArray.append_assoc, hd_tl h]
    · rfl
theorem rest_no : ∀ (n : Nat) (s : ByteArray), s.size ≤ n → whB (splR n s) = false
  | 0, s, h => by
    rw [splR]
    exact decide_eq_false (fun k => by omega)
  | n + 1, s, h => by
    rw [splR]
    split
    · rename_i hw
      have := fb_bd s
      exact rest_no n (tl s) (by rw [tl_size hw]; omega)
    · rename_i hw
      exact Bool.eq_false_iff.2 hw
theorem app_fb {s f : ByteArray} (h : 0 < s.size) : fb (s ++ f) = fb s := by
  rw [fb_tb, fb_tb, tb_app]
  have : s.data.toList ≠ [] := by intro e; have := tb_len s; rw [e] at this; simp at this; omega
  cases e : s.data.toList with
  | nil => exact absurd e this
  | cons x l => rfl
theorem one_frame {m : Nat} {f : ByteArray} (hm : f.size ≤ m) (h0 : 0 < f.size) (h1 : fb f = f.size) : splF m f = [] ++ [f] ∧ splR m f = ⟨#[]⟩ := by
  have hw : whB f = true := (whB_iff f).2 ⟨h0, by omega⟩
  have ht : tl f = ⟨#[]⟩ := ba_empty (by rw [tl_size hw]; omega)
  have hh : hdt f = f := by
    apply ba_ext
    unfold hdt
    rw [tb_ext, List.drop_zero, Nat.sub_zero, List.take_of_length_le (by rw [tb_len]; omega)]
  obtain ⟨k, rfl⟩ : ∃ k, m = k + 1 := ⟨m - 1, by omega⟩
  rw [splF, if_pos hw, splR, if_pos hw, hh, ht]
  have hn : whB ⟨#[]⟩ = false := decide_eq_false (fun k => by have := k.1; simp [ByteArray.size] at this)
  obtain ⟨e1, e2⟩ := splF_end (n := k) hn
  rw [e1, e2]
  exact ⟨rfl, rfl⟩
theorem frames_app : ∀ (n m : Nat) (s f : ByteArray), s.size ≤ n → (s ++ f).size ≤ m → splR n s = ⟨#[]⟩ → 0 < f.size → fb f = f.size → splF m (s ++ f) = splF n s ++ [f] ∧ splR m (s ++ f) = ⟨#[]⟩ := by
  intro n
  induction n with
  | zero =>
    intro m s f hs hm hr h0 h1
    have he : s = ⟨#[]⟩ := ba_empty (by omega)
    subst he
    have hf : (⟨#[]⟩ : ByteArray) ++ f = f := ba_ext (by rw [tb_app]; rfl)
    rw [hf] at hm ⊢
    have e0 : splF 0 ⟨#[]⟩ = [] := rfl
    rw [e0]
    exact one_frame hm h0 h1
  | succ n ih =>
    intro m s f hs hm hr h0 h1
    by_cases hw : whB s = true
    · obtain ⟨w1, w2⟩ := (whB_iff s).1 hw
      have hsz : (s ++ f).size = s.size + f.size := ByteArray.size_append
      have hfb := app_fb (f := f) w1
      have hw2 : whB (s ++ f) = true := (whB_iff _).2 ⟨by omega, by omega⟩
      have hb := fb_bd s
      have hh : hdt (s ++ f) = hdt s := by
        apply ba_ext
        unfold hdt
        rw [hfb, tb_ext, tb_ext, tb_app, List.drop_zero, List.drop_zero, Nat.sub_zero, List.take_append_of_le_length (by rw [tb_len]; omega)]
      have ht : tl (s ++ f) = tl s ++ f := by
        apply ba_ext
        unfold tl
        rw [hfb, tb_ext, tb_app, tb_app, tb_ext, List.drop_append_of_le_length (by rw [tb_len]; omega), List.take_of_length_le (by rw [List.length_append, List.length_drop, tb_len, tb_len]; omega), List.take_of_length_le (by rw [List.length_drop, tb_len]; omega)]
      obtain ⟨k, rfl⟩ : ∃ k, m = k + 1 := ⟨m - 1, by omega⟩
      rw [splR, if_pos hw] at hr
      have hts : (tl s).size = s.size - fb s := tl_size hw
      obtain ⟨e1, e2⟩ := ih k (tl s) f (by omega) (by rw [ByteArray.size_append]; omega) hr h0 h1
      rw [splF, if_pos hw2, splR, if_pos hw2, hh, ht, e1, e2, splF, if_pos hw]
      exact ⟨rfl, rfl⟩
    · have hw' : whB s = false := Bool.eq_false_iff.2 hw
      obtain ⟨e1, e2⟩ := splF_end (n := n + 1) hw'
      rw [e2] at hr
      subst hr
      have e3 : splF (n + 1) ⟨#[]⟩ = splF 0 ⟨#[]⟩ := by rw [e1]; rfl
      rw [e3]
      have hf : (⟨#[]⟩ : ByteArray) ++ f = f := ba_ext (by rw [tb_app]; rfl)
      rw [hf] at hm ⊢
      have e0 : splF 0 ⟨#[]⟩ = [] := rfl
      rw [e0]
      exact one_frame hm h0 h1
theorem mbS_size (b d x0 x1 x2 x3 x4 x5 x6 x7 : Int) (l : List Int) : (mbS b d x0 x1 x2 x3 x4 x5 x6 x7 l).size ≤ 61 := by
  unfold mbS
  split
  · rename_i h
    have hb := body_len x0 x1 x2 x3 x4 x5 x6 x7 l (gm_bd h).len
    rw [strOfNums_size]
    unfold wire
    rw [List.length_cons]
    omega
  · simp [ByteArray.size]
theorem mbS_frame {b d x0 x1 x2 x3 x4 x5 x6 x7 : Int} {l : List Int} (h : gmB b d x0 x1 x2 x3 x4 x5 x6 x7 l = true) : 0 < (mbS b d x0 x1 x2 x3 x4 x5 x6 x7 l).size ∧ fb (mbS b d x0 x1 x2 x3 x4 x5 x6 x7 l) = (mbS b d x0 x1 x2 x3 x4 x5 x6 x7 l).size := by
  have hb := body_len x0 x1 x2 x3 x4 x5 x6 x7 l (gm_bd h).len
  rw [mbS_yes h, strOfNums_size, fb_tb, strOfNums_data]
  unfold wire
  rw [List.length_cons, List.map_cons, List.head?_cons]
  simp only [Option.map_some, Option.getD_some]
  rw [Int.toNat_natCast, UInt8.toNat_ofNat_of_lt' (by show _ < 256; omega)]
  omega
end Go.Proofs.Ytabbicfakkehpaa
