/- Layer 5: Check, flagsOf; the document's Right and Check. -/
import Derived.Test.YthhmodbggngelaaSltA
namespace Go.Proofs.Ythhmodbggngelaa
open Go.RowKit
set_option linter.unusedVariables false

def sbox (s : St) : Obj := .cells #[.int .i64 s.e, .int .i64 s.q, .bool s.f, .bool s.z, .string s.d] 81
theorem key5 (s : St) : (s.e < 0 ∧ r5 s = false) ∨ (0 ≤ s.e ∧ 2147483647 < s.e ∧ r5 s = false) ∨ ((0 ≤ s.e ∧ s.e ≤ 2147483647) ∧ s.q < 0 ∧ r5 s = false) ∨ ((0 ≤ s.e ∧ s.e ≤ 2147483647) ∧ 0 ≤ s.q ∧ 1152921504606846976 < s.q ∧ r5 s = false)
    ∨ ((0 ≤ s.e ∧ s.e ≤ 2147483647) ∧ (0 ≤ s.q ∧ s.q ≤ 1152921504606846976) ∧ (108 : Int) < (s.d.size : Int) ∧ r5 s = false) ∨ ((0 ≤ s.e ∧ s.e ≤ 2147483647) ∧ (0 ≤ s.q ∧ s.q ≤ 1152921504606846976) ∧ (s.d.size : Int) ≤ 108 ∧ r5 s = true) := by
  unfold r5
  simp only [decide_eq_false_iff_not, decide_eq_true_eq]
  omega
set_option maxRecDepth 100000 in
set_option maxHeartbeats 2000000 in
theorem check5 (s : St) (w : World) : Calls Try.prog 41 #[stv s] w fun e w' => e = .returned (.int .i64 (if r5 s then 0 else 2)) ∧ w' = w.alloc (sbox s) := by
  have key := key5 s
  obtain ⟨e, q, f, z, d⟩ := s
  unfold stv sbox
  simp only at key ⊢
  generalize r5 ⟨e, q, f, z, d⟩ = r at *
  rcases key with ⟨h1, rfl⟩ | ⟨h1, h2, rfl⟩ | ⟨⟨h1, h2⟩, h3, rfl⟩ | ⟨⟨h1, h2⟩, h3, h4, rfl⟩ | ⟨⟨h1, h2⟩, ⟨h3, h4⟩, h5, rfl⟩ | ⟨⟨h1, h2⟩, ⟨h3, h4⟩, h5, rfl⟩
  all_goals
    go_enter Try.func41, Try.ntmps41
    go_wp2
    go_ret
    exact ⟨rfl, rfl⟩
theorem flags5 (s : St) (w : World) : Calls Try.prog 58 #[stv s] w fun e w' => e = .returned (.int .u8 (flg s.f s.z : Nat)) ∧ w' = w.alloc (sbox s) := by
  obtain ⟨e, q, f, z, d⟩ := s
  unfold stv sbox
  simp only
  cases f <;> cases z
  all_goals
    go_enter Try.func58, Try.ntmps58
    go_wp2
    go_ret
    exact ⟨by first | rfl | decide, rfl⟩
end Go.Proofs.Ythhmodbggngelaa
