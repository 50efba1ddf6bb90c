/- Layer 5: Check, flagsOf; the document's Right and Check. -/
import Derived.Test.YtpccelebidiekaaSltA
namespace Go.Proofs.Ytpccelebidiekaa
open Go.RowKit
set_option linter.unusedVariables false

def sbox (s : St) : Obj := .cells #[.int .i64 s.e, .int .i64 s.q, .bool s.f, .bool s.z, .string s.d] 23
theorem key5 (s : St) : (s.e < 0 ∧ r5 s = false) ∨ (0 ≤ s.e ∧ 2147483647 < s.e ∧ r5 s = false) ∨ ((0 ≤ s.e ∧ s.e ≤ 2147483647) ∧ s.q < 0 ∧ r5 s = false) ∨ ((0 ≤ s.e ∧ s.e ≤ 2147483647) ∧ 0 ≤ s.q ∧ 1152921504606846976 < s.q ∧ r5 s = false)
    ∨ ((0 ≤ s.e ∧ s.e ≤ 2147483647) ∧ (0 ≤ s.q ∧ s.q ≤ 1152921504606846976) ∧ (108 : Int) < (s.d.size : Int) ∧ r5 s = false) ∨ ((0 ≤ s.e ∧ s.e ≤ 2147483647) ∧ (0 ≤ s.q ∧ s.q ≤ 1152921504606846976) ∧ (s.d.size : Int) ≤ 108 ∧ r5 s = true) := by
  unfold r5
  simp only [decide_eq_false_iff_not, decide_eq_true_eq]
  omega
set_option maxRecDepth 100000 in
set_option maxHeartbeats 2000000 in
theorem check5 (s : St) (w : World) : Calls Try.prog 14 #[stv s] w fun e w' => e = .returned (.int .i64 (if r5 s then 0 else 2)) ∧ w' = w.alloc (sbox s) := by
  have key := key5 s
  obtain ⟨e, q, f, z, d⟩ := s
  unfold stv sbox
  simp only at key ⊢
  generalize r5 ⟨e, q, f, z, d⟩ = r at *
  rcases key with ⟨h1, rfl⟩ | ⟨h1, h2, rfl⟩ | ⟨⟨h1, h2⟩, h3, rfl⟩ | ⟨⟨h1, h2⟩, h3, h4, rfl⟩ | ⟨⟨h1, h2⟩, ⟨h3, h4⟩, h5, rfl⟩ | ⟨⟨h1, h2⟩, ⟨h3, h4⟩, h5, rfl⟩
  all_goals
    go_enter Try.func14, Try.ntmps14
    go_wp2
    go_ret
    exact ⟨rfl, rfl⟩
set_option maxRecDepth 100000 in
set_option maxHeartbeats 2000000 in
theorem refRight5 (s : St) (w : World) : Calls Try.prog 42 #[stv s] w fun e w' => e = .returned (.bool (r5 s)) ∧ w' = w.alloc (sbox s) := by
  have key := key5 s
  obtain ⟨e, q, f, z, d⟩ := s
  unfold stv sbox
  simp only at key ⊢
  generalize r5 ⟨e, q, f, z, d⟩ = r at *
  have h2' : 2147483647 < e → decide (e ≤ 2147483647) = false := fun h => by simp; omega
  have h4' : 1152921504606846976 < q → decide (q ≤ 1152921504606846976) = false := fun h => by simp; omega
  have h5' : (108 : Int) < (d.size : Int) → decide ((d.size : Int) ≤ 108) = false := fun h => by simp; omega
  rcases key with ⟨h1, rfl⟩ | ⟨h1, h2, rfl⟩ | ⟨⟨h1, h2⟩, h3, rfl⟩ | ⟨⟨h1, h2⟩, h3, h4, rfl⟩ | ⟨⟨h1, h2⟩, ⟨h3, h4⟩, h5, rfl⟩ | ⟨⟨h1, h2⟩, ⟨h3, h4⟩, h5, rfl⟩
  all_goals
    (try have k2 := h2' h2)
    (try have k4 := h4' h4)
    (try have k5 := h5' h5)
    clear h2' h4' h5'
    go_enter Try.func42, Try.ntmps42
    go_wp2
    go_ret
    exact ⟨by first | rfl | (simp; omega) | simp [*], rfl⟩
theorem refCheck5 (s : St) (w : World) : Calls Try.prog 15 #[stv s] w fun e w' => e = .returned (.int .i64 (if r5 s then 0 else 2)) ∧ Below w.heap.size w w' := by
  have HR := Lib.hid (refRight5 s)
  obtain ⟨e, q, f, z, d⟩ := s
  unfold stv at *
  simp only at HR ⊢
  generalize r5 ⟨e, q, f, z, d⟩ = r at *
  cases r
  all_goals
    go_enter Try.func15, Try.ntmps15
    go_wp2_with (go_at_call 42; refine (HR.out _).mono ?_; rintro e w' ⟨rfl, rfl⟩)
    go_ret
    exact ⟨rfl, ((Below.refl _ _).alloc (Nat.le_refl _) _).alloc (by simp) _⟩
theorem flags5 (s : St) (w : World) : Calls Try.prog 37 #[stv s] w fun e w' => e = .returned (.int .u8 (flg s.f s.z : Nat)) ∧ w' = w.alloc (sbox s) := by
  obtain ⟨e, q, f, z, d⟩ := s
  unfold stv sbox
  simp only
  cases f <;> cases z
  all_goals
    go_enter Try.func37, Try.ntmps37
    go_wp2
    go_ret
    exact ⟨by first | rfl | decide, rfl⟩
end Go.Proofs.Ytpccelebidiekaa
