/- The members round and round, and the first ones of them. -/
import Derived.Test.YtjolkpfenloobaaU0
import Derived.Test.YtjolkpfenloobaaS4
namespace Go.Proofs.Ytjolkpfenloobaa
open Go.RowKit Go.Shelf
set_option linter.unusedVariables false

theorem goingUp_any (a0 : Option Addr) (n cap : Nat) (p : Int) (w : World) :
    Calls Try.prog 59 #[.slice a0 n cap, .int .i64 p] w fun e w' => e = .returned (.func (.func 77) #[] #[.pointer (some ⟨w.heap.size + 1, 0, none⟩), .pointer (some ⟨w.heap.size, 0, none⟩)]) ∧
      w' = (w.alloc (.cells #[.slice a0 n cap] 26)).alloc (.cells #[.int .i64 p] 3) := by
  go_enter Try.func59, Try.ntmps59
  go_wp2
  go_ret
  exact ⟨rfl, rfl⟩

/-- how long the slice is that lies in a box -/
def lenAt (W : World) (B : Nat) : Nat := match W.cell? ⟨B, 0, none⟩ with
  | some (.slice _ n _) => n
  | _ => 0
theorem mod_next (u k n : Nat) : ((((u + k) % n : Nat) : Int) + 1) % (n : Int) = (((u + (k + 1)) % n : Nat) : Int) := by
  have : ((u + k) % n + 1) % n = (u + (k + 1)) % n := by rw [Nat.mod_add_mod, Nat.add_assoc]
  rw [← this]; simp

set_option maxRecDepth 100000 in
set_option maxHeartbeats 1600000 in
theorem going_in (n pb mb Bl M : Nat) (a0 : Option Addr) (cap : Nat) (ms : List Int) (u l : Nat) (J : Nat → World → Prop) (Jx : World → Prop) (W : World) (hn : 1 ≤ n) (h1 : 1 ≤ ms.length) (h2 : ms.length ≤ 16) (hu : u ≤ 16)
    (hJ : ∀ k W1, J k W1 → W1.cell? ⟨pb, 0, none⟩ = some (.int .i64 u) ∧ W1.cell? ⟨mb, 0, none⟩ = some (.slice a0 ms.length cap) ∧ RowAt W1 a0 ms ∧ lenAt W1 Bl = k ∧ k ≤ M)
    (hY : ∀ k W1, J k W1 → YieldAt Fence.wide (n - 1) Try.prog l #[.int .i64 (ms.getD ((u + k) % ms.length) 0)] W1 fun e W' => (e = .returned (.bool true) ∧ J (k + 1) W') ∨ (e = .returned (.bool false) ∧ Jx W'))
    (h0 : J 0 W) :
    CallsIn Fence.wide n Try.prog 77 #[.func (.yield l) #[] #[], .pointer (some ⟨pb, 0, none⟩), .pointer (some ⟨mb, 0, none⟩)] W fun e W' => (∃ v, e = .returned v) ∧ Jx W' := by
  obtain ⟨c0, c1, _, _, _⟩ := hJ 0 W h0
  have hq := natmod u ms.length
  have hq' := nattmod u ms.length
  obtain ⟨q0, hq0⟩ : ∃ q0, q0 = u % ms.length := ⟨_, rfl⟩
  rw [← hq0] at hq hq'
  have HQ0 : Hid (q0 = u % ms.length) := hq0
  clear hq0
  refine callsIn_of_wp Try.func77 rfl trivial ?_ rfl
  simp only [Try.ntmps77, List.size_toArray, List.length_cons, List.length_nil, Nat.reduceAdd, Nat.reduceSub, Array.replicate_succ, Array.replicate_zero, List.push_toArray, List.append_toArray, List.nil_append, List.cons_append]
  gi_wp2
  clear c0 c1
  gi_loopw [4] (fun i wr => ∃ k : Nat, i = .int .i64 (((u + k) % ms.length : Nat) : Int) ∧ J k wr) (fun _ wr => M + 1 - lenAt wr Bl)
  case atStart => exact ⟨0, by rw [HQ0.out]; rfl, h0⟩
  case round =>
    obtain ⟨k, rfl, hj⟩ := hrel
    obtain ⟨c0, c1, hr, hl, hk⟩ := hJ k wr hj
    have hmd : (u + k) % ms.length < ms.length := Nat.mod_lt _ (by omega)
    obtain ⟨bk, off, rfl⟩ := rowAt_form hr (by omega)
    have hcell := (rowAt_cell hr (by omega)).2 _ hmd
    obtain ⟨fn, tmps, assign, body, hy, hR⟩ := hY k wr hj
    have en := mod_next u k ms.length
    clear hq hq'
    obtain ⟨q2, hq2⟩ : ∃ q2, q2 = (u + (k + 1)) % ms.length := ⟨_, rfl⟩
    rw [← hq2] at en
    have HQ2 : Hid (q2 = (u + (k + 1)) % ms.length) := hq2
    clear hq2
    generalize ms.getD ((u + k) % ms.length) 0 = z at hcell hy
    generalize hqq : (u + k) % ms.length = q at hcell hmd en ⊢
    clear hqq hr
    gi_wp2
    refine hR.mono ?_
    rintro e W3 (⟨rfl, hj3⟩ | ⟨rfl, hx3⟩)
    · obtain ⟨d0, d1, _, hl3, hk3⟩ := hJ (k + 1) W3 hj3
      gi_wp2
      go_roundw
      case rel => exact ⟨k + 1, by rw [← HQ2.out, en], hj3⟩
      case measure => rw [hl3, hl]; omega
    · gi_wp2
      go_end0
      exact ⟨⟨_, rfl⟩, hx3⟩
end Go.Proofs.Ytjolkpfenloobaa
