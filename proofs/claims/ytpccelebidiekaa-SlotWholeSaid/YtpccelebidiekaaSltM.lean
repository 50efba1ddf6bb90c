/- Layer 5: the document's Cut. -/
import Derived.Test.YtpccelebidiekaaSltL
namespace Go.Proofs.Ytpccelebidiekaa
open Go.RowKit
set_option linter.unusedVariables false
set_option maxRecDepth 100000

theorem refCut5_big (S : ByteArray) (h : 16384 < S.size) (e q : Int) (w : World) :
    Calls Try.prog 20 #[.string S, .int .i64 e, .int .i64 q] w fun r w' => r = .returned (.tuple #[.slice none 0 0, .int .i64 5]) ∧ w' = w := by
  have h2 : (16384 : Int) < (S.size : Int) := by omega
  clear h
  go_enter Try.func20, Try.ntmps20
  go_wp2
  go_ret2
  exact ⟨rfl, rfl⟩
theorem cut_max (S : ByteArray) : max 1 (((S.size : Int) + 108 - 1) / 108) = ((pcs5 S).length : Int) := by
  have := pcs5_count S.size S rfl
  omega
set_option maxHeartbeats 1000000 in
theorem refCut5_bad (S : ByteArray) (h : S.size ≤ 16384) (e q : Int) (w : World) (hb : ¬ (0 ≤ e ∧ e ≤ 2147483647 ∧ 0 ≤ q ∧ q ≤ 1152921504606846976 - ((pcs5 S).length : Int) + 1)) :
    Calls Try.prog 20 #[.string S, .int .i64 e, .int .i64 q] w fun r w' => r = .returned (.tuple #[.slice none 0 0, .int .i64 2]) ∧ w' = w := by
  have h2 : (S.size : Int) ≤ 16384 := by omega
  have w1 := wrap_of ((S.size : Int) + 108) (by omega) (by omega)
  have w2 := wrap_of ((S.size : Int) + 108 - 1) (by omega) (by omega)
  have hm := cut_max S
  have hc := pcs5_count S.size S rfl
  generalize (pcs5 S).length = n at *
  have w3 := wrap_of (1152921504606846976 - (n : Int)) (by omega) (by omega)
  have w4 := wrap_of (1152921504606846976 - (n : Int) + 1) (by omega) (by omega)
  have hcase : e < 0 ∨ (0 ≤ e ∧ 2147483647 < e) ∨ (0 ≤ e ∧ e ≤ 2147483647 ∧ q < 0) ∨ (0 ≤ e ∧ e ≤ 2147483647 ∧ 0 ≤ q ∧ 1152921504606846976 - (n : Int) + 1 < q) := by omega
  clear hb hc h
  rcases hcase with k1 | ⟨k1, k2⟩ | ⟨k1, k2, k3⟩ | ⟨k1, k2, k3, k4⟩
  all_goals
    go_enter Try.func20, Try.ntmps20
    go_wp2
    go_ret2
    exact ⟨rfl, rfl⟩
end Go.Proofs.Ytpccelebidiekaa
