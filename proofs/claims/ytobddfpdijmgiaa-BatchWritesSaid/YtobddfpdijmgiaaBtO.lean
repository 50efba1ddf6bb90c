/- Layer 15: the document's Mark and Kept. -/
import Derived.Test.YtobddfpdijmgiaaBtC
namespace Go.Proofs.Ytobddfpdijmgiaa
open Go.RowKit Go.Shelf
set_option linter.unusedVariables false
set_option linter.unusedSimpArgs false
set_option maxRecDepth 100000
attribute [local go_sem] Oper.semAt_some

theorem refKept_15 (x : Cg) (w : World) :
    Calls Try.prog 123 #[.agg #[.string x.k, .string x.v, .bool x.d]] w fun e w' => e = .returned (.bool (kpt x)) ∧ w' = w.alloc (.cells #[.string x.k, .string x.v, .bool x.d] 95) := by
  obtain ⟨k, v, d⟩ := x
  obtain ⟨R, hR⟩ : ∃ r, kpt ⟨k, v, d⟩ = r := ⟨_, rfl⟩
  have HR := Lib.hid hR
  simp only
  rw [hR]
  have hky : (¬ (k.size : Int) ≤ 120 ∧ R = false) ∨ ((k.size : Int) ≤ 120 ∧ ¬ (v.size : Int) ≤ 199 ∧ R = false) ∨ ((k.size : Int) ≤ 120 ∧ (v.size : Int) ≤ 199 ∧ d = false ∧ R = true) ∨ ((k.size : Int) ≤ 120 ∧ (v.size : Int) ≤ 199 ∧ d = true ∧ (v.toList == []) = true ∧ R = true) ∨ ((k.size : Int) ≤ 120 ∧ (v.size : Int) ≤ 199 ∧ d = true ∧ (v.toList == []) = false ∧ R = false) := by
    rw [← hR]
    unfold kpt
    simp only
    by_cases h1 : k.size ≤ 120
    · by_cases h2 : v.size ≤ 199
      · have e : v.toList.isEmpty = (v.toList == []) := by cases v.toList <;> rfl
        rw [e]
        cases d <;> cases h3 : (v.toList == []) <;> simp [h1, h2] <;> omega
      · refine .inr (.inl ⟨by omega, by omega, by simp [h2]⟩)
    · refine .inl ⟨by omega, by simp [h1]⟩
  clear hR HR
  rcases hky with ⟨h1, rfl⟩ | ⟨h1, h2, rfl⟩ | ⟨h1, h2, rfl, rfl⟩ | ⟨h1, h2, rfl, h4, rfl⟩ | ⟨h1, h2, rfl, h4, rfl⟩
  all_goals
    go_enter Try.func123, Try.ntmps123
    go_wp2_with fail
    go_ret
    first | exact ⟨rfl, rfl⟩ | exact ⟨by simp [*], rfl⟩
theorem field15 (n : Int) (k : Nat) (hk : k ≤ 8) (x : Int) (hx : x = k) (w : World) :
    Calls Try.prog 77 #[.int .i64 n, .int .i64 x] w fun e w' => ∃ v, e = .returned v ∧ v = .string ⟨(fld k n).toArray⟩ ∧ Turn (fun _ => False) w w' := by
  subst hx
  exact (refField_any n k hk w).mono fun e w' ⟨h1, h2⟩ => ⟨_, h1, rfl, Turn.of_below h2 (fun k h1 h2 => by omega)⟩
set_option maxHeartbeats 4000000 in
theorem refMark_15 (m : Int) (w : World) :
    Calls Try.prog 34 #[.int .i64 m] w fun e w' => e = .returned (mkv15 m) ∧ Turn (fun _ => False) w w' := by
  have hways : m < 0 ∨ (¬ m < 0 ∧ (1152921504606846976 : Int) < m) ∨ (¬ m < 0 ∧ ¬ (1152921504606846976 : Int) < m) := by omega
  unfold mkv15
  rcases hways with h1 | ⟨h1, h2⟩ | ⟨h1, h2⟩
  · rw [mok_no (.inl h1)]
    simp only [Bool.false_eq_true, if_false]
    go_enter Try.func34, Try.ntmps34
    go_wp2_with fail
    go_ret2
    exact ⟨rfl, Turn.refl _ _⟩
  · rw [mok_no (.inr h2)]
    simp only [Bool.false_eq_true, if_false]
    go_enter Try.func34, Try.ntmps34
    go_wp2_with fail
    go_ret2
    exact ⟨rfl, Turn.refl _ _⟩
  · rw [mok_yes (by omega) (by omega)]
    simp only [if_true]
    have hsz : (⟨(fld 8 m).toArray⟩ : ByteArray).size = 8 := by simp [ByteArray.size, len_fld]
    have hcat : (⟨#[77]⟩ : ByteArray) ++ ⟨(fld 8 m).toArray⟩ = ⟨(mrk15 m).toArray⟩ := by
      have e : fld 1 77 = [77] := by decide +kernel
      apply ByteArray.ext
      unfold mrk15
      rw [e, ByteArray.data_append]
      simp
    obtain ⟨P, hP⟩ : ∃ P, (⟨(fld 8 m).toArray⟩ : ByteArray) = P := ⟨_, rfl⟩
    have HF := Lib.hid (fun W => field15 m 8 (by decide) 8 rfl W)
    rw [hP] at HF hsz hcat
    obtain ⟨Q, hQ⟩ : ∃ Q, (⟨(mrk15 m).toArray⟩ : ByteArray) = Q := ⟨_, rfl⟩
    rw [hQ] at hcat ⊢
    clear hP hQ
    go_enter Try.func34, Try.ntmps34
    go_wp2_with (go_at_call 77; refine (HF.out _).mono ?_; rintro e w2 ⟨_, rfl, rfl, ht2⟩; have T2 := Lib.hid ht2; clear ht2)
    try rw [hcat]
    go_ret2
    exact ⟨by first | rfl | rw [hcat], T2.out⟩
end Go.Proofs.Ytobddfpdijmgiaa
