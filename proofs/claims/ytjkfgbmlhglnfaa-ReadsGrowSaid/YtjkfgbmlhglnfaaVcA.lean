/- Layer 13: versions; which are right (the document's). -/
import Derived.Test.YtjkfgbmlhglnfaaKern
namespace Go.Proofs.Ytjkfgbmlhglnfaa
open Go.RowKit
set_option linter.unusedVariables false
set_option linter.unusedSimpArgs false
set_option maxRecDepth 100000

/-- A version: its time, its value, whether it is a marker. -/
structure Vn where
  t : Int
  s : ByteArray
  d : Bool
@[go_sem] def vg (x : Vn) : Value := .agg #[.int .i64 x.t, .string x.s, .bool x.d]
def vc (x : Vn) : List Value := [.int .i64 x.t, .string x.s, .bool x.d]
def vbox (x : Vn) : Obj := .cells #[.int .i64 x.t, .string x.s, .bool x.d] 83
def rt (x : Vn) : Bool := decide ((1 ≤ x.t ∧ x.t ≤ 1152921504606846976) ∧ x.s.size ≤ 200 ∧ (x.d = true → x.s.size = 0))
theorem nil_size (s : ByteArray) : s.toList = [] ↔ s.size = 0 := by
  rw [ByteArray.toList_eq, Array.toList_eq_nil_iff, ← Array.size_eq_zero_iff]
  rfl
theorem key_rt (x : Vn) : (x.t < 1 ∧ rt x = false) ∨ (1 ≤ x.t ∧ 1152921504606846976 < x.t ∧ rt x = false) ∨ ((1 ≤ x.t ∧ x.t ≤ 1152921504606846976) ∧ (200 : Int) < (x.s.size : Int) ∧ rt x = false)
    ∨ ((1 ≤ x.t ∧ x.t ≤ 1152921504606846976) ∧ (x.s.size : Int) ≤ 200 ∧ x.d = false ∧ rt x = true) ∨ ((1 ≤ x.t ∧ x.t ≤ 1152921504606846976) ∧ (x.s.size : Int) ≤ 200 ∧ x.d = true ∧ x.s.size = 0 ∧ rt x = true) ∨ ((1 ≤ x.t ∧ x.t ≤ 1152921504606846976) ∧ (x.s.size : Int) ≤ 200 ∧ x.d = true ∧ x.s.size ≠ 0 ∧ rt x = false) := by
  unfold rt
  simp only [decide_eq_false_iff_not, decide_eq_true_eq]
  generalize x.s.size = n
  generalize x.t = t
  cases x.d <;> simp only [Bool.false_eq_true, false_implies, true_implies, reduceCtorEq, and_true, false_and, and_false, or_false, false_or, true_and] <;> omega
set_option maxHeartbeats 2000000 in
theorem refRight13 (x : Vn) (w : World) : Calls Try.prog 119 #[vg x] w fun e w' => e = .returned (.bool (rt x)) ∧ w' = w.alloc (vbox x) := by
  have key := key_rt x
  obtain ⟨t, s, d⟩ := x
  unfold vg vbox
  simp only at key ⊢
  generalize rt ⟨t, s, d⟩ = r at *
  have h1' : 1152921504606846976 < t → decide (t ≤ 1152921504606846976) = false := fun h => by simp; omega
  have h2' : (200 : Int) < (s.size : Int) → decide ((s.size : Int) ≤ 200) = false := fun h => by simp; omega
  rcases key with ⟨h1, rfl⟩ | ⟨h1, h2, rfl⟩ | ⟨⟨h1, h2⟩, h3, rfl⟩ | ⟨⟨h1, h2⟩, h3, rfl, rfl⟩ | ⟨⟨h1, h2⟩, h3, rfl, h4, rfl⟩ | ⟨⟨h1, h2⟩, h3, rfl, h4, rfl⟩
  all_goals
    (try have k2 := h1' h2)
    (try have k3 := h2' h3)
    clear h1' h2'
    go_enter Try.func119, Try.ntmps119
    go_wp2
    go_ret
    exact ⟨by first | rfl | (simp [nil_size]; done) | (simp [nil_size]; omega) | simp [nil_size, *], rfl⟩
end Go.Proofs.Ytjkfgbmlhglnfaa
