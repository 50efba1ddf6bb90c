/- Layer 3: the document's answer: Right, Check, Of, power, Join. -/
import Derived.Test.YtcpnmbklkjdjlaaTagF
namespace Go.Proofs.Ytcpnmbklkjdjlaa
open Go.RowKit
set_option linter.unusedVariables false

set_option maxHeartbeats 1000000 in
theorem refRight_new (t : Int × Int) (w : World) : Calls Try.prog 32 #[tv t] w fun e w' => e = .returned (.bool (rt t)) ∧ w' = w.alloc (.cells #[.int .i64 t.1, .int .i64 t.2] 28) := by
  obtain ⟨a, b⟩ := t
  unfold tv
  have key : (a < 0 ∧ rt (a, b) = false) ∨ (0 ≤ a ∧ decide (a < 1048573) = false ∧ rt (a, b) = false) ∨ ((0 ≤ a ∧ a < 1048573) ∧ b < 0 ∧ rt (a, b) = false) ∨ ((0 ≤ a ∧ a < 1048573) ∧ 0 ≤ b ∧ decide (b < 1048573) = false ∧ rt (a, b) = false) ∨ ((0 ≤ a ∧ a < 1048573) ∧ (0 ≤ b ∧ b < 1048573) ∧ rt (a, b) = true) := by
    unfold rt pr
    simp only [Bool.and_eq_false_iff, Bool.and_eq_true, decide_eq_false_iff_not, decide_eq_true_eq]
    omega
  generalize rt (a, b) = r at *
  rcases key with ⟨h1, rfl⟩ | ⟨h1, h2, rfl⟩ | ⟨⟨h1, h2⟩, h3, rfl⟩ | ⟨⟨h1, h2⟩, h3, h4, rfl⟩ | ⟨⟨h1, h2⟩, ⟨h3, h4⟩, rfl⟩
  all_goals
    go_enter Try.func32, Try.ntmps32
    go_wp2
    go_ret
    exact ⟨by first | rfl | (simp; omega) | simp [*], rfl⟩
theorem refCheck_any (t : Int × Int) (w : World) : Calls Try.prog 19 #[tv t] w fun e w' => e = .returned (.int .i64 (ck t)) ∧ Below w.heap.size w w' := by
  have HR := Lib.hid (refRight_new t)
  have HK : Hid (ck t = if rt t then 0 else 2) := rfl
  obtain ⟨a, b⟩ := t
  unfold tv at *
  generalize rt (a, b) = r at *
  cases r
  all_goals
    go_enter Try.func19, Try.ntmps19
    go_wp2_with (go_at_call 32; refine (HR.out _).mono ?_; rintro e w' ⟨rfl, rfl⟩)
    go_ret
    exact ⟨by rw [HK.out]; rfl, by repeat (first | exact Below.refl _ _ | (refine Below.alloc ?_ (by simp; omega) _) | (refine Below.alloc ?_ (by simp) _) | refine Below.drew ?_)⟩
end Go.Proofs.Ytcpnmbklkjdjlaa
