/- Layer 5: does a slot follow another one. -/
import Derived.Test.YtpccelebidiekaaSltB
namespace Go.Proofs.Ytpccelebidiekaa
open Go.RowKit
set_option linter.unusedVariables false
set_option maxRecDepth 100000

def fol5 (a s : St) : Bool := decide (s.q = wrap64 (a.q + 1)) && (decide (s.e = a.e) || (s.f && decide (a.e < s.e)))
theorem fol_key (a s : St) : (s.q ≠ wrap64 (a.q + 1) ∧ fol5 a s = false) ∨ (s.q = wrap64 (a.q + 1) ∧ s.e = a.e ∧ fol5 a s = true) ∨ (s.q = wrap64 (a.q + 1) ∧ s.e ≠ a.e ∧ s.f = false ∧ fol5 a s = false)
    ∨ (s.q = wrap64 (a.q + 1) ∧ s.e ≠ a.e ∧ s.f = true ∧ a.e < s.e ∧ fol5 a s = true) ∨ (s.q = wrap64 (a.q + 1) ∧ s.e ≠ a.e ∧ s.f = true ∧ ¬ a.e < s.e ∧ fol5 a s = false) := by
  unfold fol5
  by_cases h1 : s.q = wrap64 (a.q + 1)
  · by_cases h2 : s.e = a.e
    · exact .inr (.inl ⟨h1, h2, by simp [h1, h2]⟩)
    · cases h3 : s.f
      · exact .inr (.inr (.inl ⟨h1, h2, rfl, by simp [h2]⟩))
      · by_cases h4 : a.e < s.e
        · exact .inr (.inr (.inr (.inl ⟨h1, h2, rfl, h4, by simp [h1, h4]⟩)))
        · exact .inr (.inr (.inr (.inr ⟨h1, h2, rfl, h4, by simp [h2, h4]⟩)))
  · exact .inl ⟨h1, by simp [h1]⟩
set_option maxHeartbeats 4000000 in
theorem follows5 (a s : St) (w : World) : Calls Try.prog 77 #[stv a, stv s] w fun e w' => e = .returned (.bool (fol5 a s)) ∧ w' = (w.alloc (sbox a)).alloc (sbox s) := by
  have key := fol_key a s
  generalize fol5 a s = r at *
  obtain ⟨e, q, f, z, d⟩ := a
  obtain ⟨e2, q2, f2, z2, d2⟩ := s
  unfold stv sbox
  simp only at key ⊢
  have hw := IntWalk.i64_left (q + 1)
  obtain ⟨Q, hQ⟩ : ∃ Q, wrap64 (q + 1) = Q := ⟨_, rfl⟩
  rw [hQ] at hw key
  clear hQ
  rcases key with ⟨h1, rfl⟩ | ⟨h1, h2, rfl⟩ | ⟨h1, h2, h3, rfl⟩ | ⟨h1, h2, h3, h4, rfl⟩ | ⟨h1, h2, h3, h4, rfl⟩
  · have t1 : (q2 == Q) = false := by simpa using h1
    have t2 : (q2 != Q) = true := by simpa using h1
    clear h1
    go_enter Try.func77, Try.ntmps77
    go_wp2
    go_ret
    exact ⟨rfl, rfl⟩
  · subst h1 h2
    go_enter Try.func77, Try.ntmps77
    go_wp2
    go_ret
    exact ⟨rfl, rfl⟩
  · subst h1 h3
    have t3 : (e2 == e) = false := by simpa using h2
    clear h2
    go_enter Try.func77, Try.ntmps77
    go_wp2
    go_ret
    exact ⟨rfl, rfl⟩
  · subst h1 h3
    have t3 : (e2 == e) = false := by simpa using h2
    have t4 : decide (e < e2) = true := by simpa using h4
    clear h2
    go_enter Try.func77, Try.ntmps77
    go_wp2
    go_ret
    exact ⟨rfl, rfl⟩
  · subst h1 h3
    have t3 : (e2 == e) = false := by simpa using h2
    have t4 : decide (e < e2) = false := by simpa using h4
    have t5 : e2 ≤ e := by omega
    clear h2
    go_enter Try.func77, Try.ntmps77
    go_wp2
    go_ret
    exact ⟨rfl, rfl⟩
end Go.Proofs.Ytpccelebidiekaa
