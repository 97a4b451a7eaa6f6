/- The specification's ring without a member, and its list of those that come next. -/
import Derived.Test.YtejajlloipkkhaaS3
namespace Go.Proofs.Ytejajlloipkkhaa
open Go.RowKit
set_option linter.unusedVariables false

def dropX (zs : List Int) (x : Int) : List Int := zs.filter (fun y => !decide (y = x))
theorem dropX_take {zs : List Int} {x : Int} {k : Nat} (hk : k < zs.length) : dropX (zs.take (k + 1)) x = dropX (zs.take k) x ++ (if zs.getD k 0 = x then [] else [zs.getD k 0]) := by
  unfold dropX
  rw [List.take_succ_eq_append_getElem hk, List.filter_append]
  congr 1
  have e : zs.getD k 0 = zs[k] := by simp [List.getD_eq_getElem?_getD, List.getElem?_eq_getElem hk]
  rw [e]
  by_cases h : zs[k] = x
  · simp [h]
  · simp [h]
theorem dropX_le (zs : List Int) (x : Int) (k : Nat) : (dropX (zs.take k) x).length ≤ zs.length := by
  unfold dropX
  refine Nat.le_trans (List.length_filter_le _ _) ?_
  simp; omega
theorem dropX_none {l : List Int} {x : Int} (h : ∀ i, i < l.length → ¬ l.getD i 0 = x) : dropX l x = l := by
  unfold dropX
  rw [List.filter_eq_self]
  intro y hy
  obtain ⟨i, hi, rfl⟩ := List.mem_iff_getElem.1 hy
  have := h i hi
  rw [List.getD_eq_getElem?_getD, List.getElem?_eq_getElem hi] at this
  simpa using this
theorem dropX_leave {b d : Int} {zs : List Int} (R : Ring b d zs) {x : Int} (h : memI zs x = true) : dropX zs x = leaveL zs x := by
  have hm := of_decide_eq_true h
  obtain ⟨hlt, he⟩ := hm
  unfold leaveL
  obtain ⟨p, hp⟩ : ∃ p, p = blw zs x := ⟨_, rfl⟩
  rw [← hp] at hlt he ⊢
  have e : zs = zs.take p ++ (zs.getD p 0 :: zs.drop (p + 1)) := by
    conv => lhs; rw [← List.take_append_drop p zs]
    rw [List.drop_eq_getElem_cons hlt, List.getD_eq_getElem?_getD, List.getElem?_eq_getElem hlt]
    rfl
  conv => lhs; rw [e]
  unfold dropX
  rw [List.filter_append, List.filter_cons_of_neg (by rw [he]; simp)]
  have h1 : dropX (zs.take p) x = zs.take p := dropX_none (fun i hi hc => by
    rw [List.length_take] at hi
    have hip : i < p := by omega
    have := R.ris i p hip hlt
    rw [List.getD_eq_getElem?_getD, List.getElem?_take_of_lt hip, ← List.getD_eq_getElem?_getD] at hc
    omega)
  have h2 : dropX (zs.drop (p + 1)) x = zs.drop (p + 1) := dropX_none (fun i hi hc => by
    rw [List.length_drop] at hi
    have := R.ris p (p + 1 + i) (by omega) (by omega)
    rw [List.getD_eq_getElem?_getD, List.getElem?_drop, ← List.getD_eq_getElem?_getD] at hc
    omega)
  unfold dropX at h1 h2
  rw [h1, h2]
theorem leaveL_len {zs : List Int} {x : Int} (h : memI zs x = true) : (leaveL zs x).length = zs.length - 1 := by
  have hm := (of_decide_eq_true h).1
  unfold leaveL
  simp; omega

theorem own_snoc {w : World} {B n : Nat} {v : Value} {l l' : List Int} {z : Int} (e : l' = l ++ [z]) (h : w.ownsRow B n 1 v (l.length + 1) (l.map (Value.int .i64) ++ [Value.int .i64 z])) : w.ownsRow B n 1 v l'.length (l'.map (Value.int .i64)) := by
  rw [e, List.length_append, List.map_append]; exact h

def lstL (zs : List Int) (x : Int) (k : Nat) : List Int := (List.range k).map (fun i => zs.getD ((uptI zs x + i) % zs.length) 0)
theorem lstL_len (zs : List Int) (x : Int) (k : Nat) : (lstL zs x k).length = k := by simp [lstL]
theorem lstL_succ (zs : List Int) (x : Int) (k : Nat) : lstL zs x (k + 1) = lstL zs x k ++ [zs.getD ((uptI zs x + k) % zs.length) 0] := by
  unfold lstL; rw [List.range_succ, List.map_append]; rfl
theorem nxt_go {b d : Int} {zs : List Int} (R : Ring b d zs) (u i : Nat) : nxtI zs (zs.getD ((u + i) % zs.length) 0) = zs.getD ((u + (i + 1)) % zs.length) 0 := by
  have hl := R.l1
  rw [nxt_at R (Nat.mod_lt _ (by omega)), Nat.mod_add_mod, Nat.add_assoc]
end Go.Proofs.Ytejajlloipkkhaa
