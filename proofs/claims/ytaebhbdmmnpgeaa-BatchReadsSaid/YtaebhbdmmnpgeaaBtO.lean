/- Layer 15: the document's Mark and Kept. -/
import Derived.Test.YtaebhbdmmnpgeaaBtC
namespace Go.Proofs.Ytaebhbdmmnpgeaa
open Go.RowKit Go.Shelf
set_option linter.unusedVariables false
set_option linter.unusedSimpArgs false
set_option maxRecDepth 100000
attribute [local go_sem] Oper.semAt_some

theorem refKept_15 (x : Cg) (w : World) :
    Calls Try.prog 150 #[.agg #[.string x.k, .string x.v, .bool x.d]] w fun e w' => e = .returned (.bool (kpt x)) ∧ w' = w.alloc (.cells #[.string x.k, .string x.v, .bool x.d] 92) := by
  obtain ⟨k, v, d⟩ := x
  obtain ⟨R, hR⟩ : ∃ r, kpt ⟨k, v, d⟩ = r := ⟨_, rfl⟩
  have HR := Lib.hid hR
  simp only
  rw [hR]
  have hky : (¬ (k.size : Int) ≤ 120 ∧ R = false) ∨ ((k.size : Int) ≤ 120 ∧ ¬ (v.size : Int) ≤ 199 ∧ R = false) ∨ ((k.size : Int) ≤ 120 ∧ (v.size : Int) ≤ 199 ∧ d = false ∧ R = true) ∨ ((k.size : Int) ≤ 120 ∧ (v.size : Int) ≤ 199 ∧ d = true ∧ (v.toList == []) = true ∧ R = true) ∨ ((k.size : Int) ≤ 120 ∧ (v.size : Int) ≤ 199 ∧ d = true ∧ (v.toList == []) = false ∧ R = false) := by
    rw [← hR]
    unfold kpt
    simp only
    by_cases h1 : k.size ≤ 120
    · by_cases h2 : v.size ≤ 199
      · have e : v.toList.isEmpty = (v.toList == []) := by cases v.toList <;> rfl
        rw [e]
        cases d <;> cases h3 : (v.toList == []) <;> simp [h1, h2] <;> omega
      · refine .inr (.inl ⟨by omega, by omega, by simp [h2]⟩)
    · refine .inl ⟨by omega, by simp [h1]⟩
  clear hR HR
  rcases hky with ⟨h1, rfl⟩ | ⟨h1, h2, rfl⟩ | ⟨h1, h2, rfl, rfl⟩ | ⟨h1, h2, rfl, h4, rfl⟩ | ⟨h1, h2, rfl, h4, rfl⟩
  all_goals
    go_enter Try.func150, Try.ntmps150
    go_wp2_with fail
    go_ret
    first | exact ⟨rfl, rfl⟩ | exact ⟨by simp [*], rfl⟩
theorem field15 (n : Int) (k : Nat) (hk : k ≤ 8) (x : Int) (hx : x = k) (w : World) :
    Calls Try.prog 63 #[.int .i64 n, .int .i64 x] w fun e w' => ∃ v, e = .returned v ∧ v = .string ⟨(fld k n).toArray⟩ ∧ Turn (fun _ => False) w w' := by
  subst hx
  exact (refField_any n k hk w).mono fun e w' ⟨h1, h2⟩ => ⟨_, h1, rfl, Turn.of_below h2 (fun k h1 h2 => by omega)⟩
end Go.Proofs.Ytaebhbdmmnpgeaa
