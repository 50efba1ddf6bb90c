/- Layer 7, plain: what is taken, given, counted. -/
import Derived.Test.YtmedljnbcpdoeaaDoorAlT
namespace Go.Proofs.YtmedljnbcpdoeaaDoor
open Go.RowKit
set_option linter.unusedVariables false

/-- How Take ends. -/
theorem tak7_cases (l : List Bool) (k : Int) :
    (k < 1 ∧ tak7 l k = (l, 0, 2)) ∨ (1 ≤ k ∧ (rows7 l).find? (fun x => decide (k ≤ (x.2 : Int))) = none ∧ tak7 l k = (l, 0, 10)) ∨
    ∃ I C K : Nat, k = K ∧ 1 ≤ K ∧ (rows7 l).find? (fun x => decide (k ≤ (x.2 : Int))) = some (I, C) ∧ K ≤ C ∧ I + C ≤ l.length ∧ (∀ j, I ≤ j → j < I + C → l.getD j false = true) ∧ tak7 l k = (flip l I K, (I : Int), 0) := by
  by_cases h : k < 1
  · exact .inl ⟨h, by unfold tak7; rw [if_pos h]⟩
  · cases hf : (rows7 l).find? (fun x => decide (k ≤ (x.2 : Int))) with
    | none => exact .inr (.inl ⟨by omega, rfl, by unfold tak7; rw [if_neg h, hf]⟩)
    | some x =>
      obtain ⟨I, C⟩ := x
      have hm := List.mem_of_find?_eq_some hf
      have hp := List.find?_some hf
      simp only [decide_eq_true_eq] at hp
      obtain ⟨h1, h2, h3⟩ := rows7_mem l (I, C) hm
      refine .inr (.inr ⟨I, C, k.toNat, by omega, by omega, rfl, by omega, h2, h3, ?_⟩)
      unfold tak7
      rw [if_neg h, hf]
theorem cnt_set (l : List Bool) (i b : Nat) (hi : i < l.length) (ht : l.getD i false = true) : cnt (l.set i false) 0 b + (if i < b then 1 else 0) = cnt l 0 b := by
  induction b with
  | zero => rfl
  | succ b ih =>
    rw [cnt, cnt, Nat.zero_add, getD_set _ _ _ _ hi, ← ih]
    by_cases h : b = i
    · subst h
      rw [if_pos rfl, ht]
      simp
    · have e : (if i < b then 1 else 0) = (if i < b + 1 then 1 else 0 : Nat) := by split <;> split <;> omega
      rw [if_neg h, e]
      omega
theorem free_take (l : List Bool) (I K : Nat) (h : I + K ≤ l.length) (ht : ∀ j, I ≤ j → j < I + K → l.getD j false = true) : free7 (flip l I K) + K = free7 l := by
  induction K with
  | zero => rfl
  | succ K ih =>
    have h1 := ih (by omega) (fun j a b => ht j a (by omega))
    have h2 : (flip l I K).getD (I + K) false = true := by
      rw [flip_at _ _ _ _ (by omega), if_neg (by omega)]
      exact ht _ (by omega) (by omega)
    have h3 := cnt_set (flip l I K) (I + K) (flip l I K).length (by rw [len_flip]; omega) h2
    rw [if_pos (by rw [len_flip]; omega)] at h3
    rw [flip, h2]
    unfold free7 at *
    rw [List.length_set]
    simp only [Bool.not_true]
    omega
/-- Give of one page. -/
theorem giv7_one (l : List Bool) (x : Nat) (hx : x < l.length) : giv7 l x 1 = if l.getD x false then (l, 7) else (l.set x true, 0) := by
  unfold giv7
  rw [if_neg (by omega), if_neg (by omega), Int.toNat_natCast, show (1 : Int).toNat = 1 from rfl]
  cases h : l.getD x false with
  | true => rw [some7_yes (j := 0) (by omega) (by simpa using h)]; rfl
  | false =>
    rw [some7_no (fun j hj => by rw [show x + j = x from by omega]; exact h)]
    simp only [flip, Nat.add_zero, h]; rfl
theorem cnt_cons (b : Bool) (l : List Bool) (n : Nat) : cnt (b :: l) 0 (n + 1) = (if b then 1 else 0) + cnt l 0 n := by
  induction n with
  | zero => simp [cnt]
  | succ n ih =>
    rw [cnt, ih, cnt, Nat.zero_add, Nat.zero_add, List.getD_cons_succ, Nat.add_assoc]
theorem free_cons (b : Bool) (l : List Bool) : free7 (b :: l) = (if b then 1 else 0) + free7 l := by
  unfold free7
  rw [List.length_cons, cnt_cons]
/-- The rows have all that is free. -/
def sum7 (l : List (Nat × Nat)) : Nat := (l.map (·.2)).sum
theorem sum_rw7 (l : List Bool) (i r : Nat) : sum7 (rw7 i r (l ++ [false])) = r + free7 l := by
  induction l generalizing i r with
  | nil =>
    rw [List.nil_append, rw7, rw7, List.append_nil]
    unfold sum7
    split
    · rfl
    · rename_i h
      have : r = 0 := by omega
      subst this; rfl
  | cons b l ih =>
    rw [free_cons]
    cases b with
    | true => rw [List.cons_append, rw7, ih]; simp; omega
    | false =>
      rw [List.cons_append, rw7]
      have := ih (i + 1) 0
      unfold sum7 at *
      rw [List.map_append, List.sum_append, this]
      split
      · simp
      · rename_i h
        simp; omega
theorem sum_rows7 (l : List Bool) : sum7 (rows7 l) = free7 l := by
  have := sum_rw7 l 0 0
  rw [Nat.zero_add] at this
  exact this
theorem free_le (l : List Bool) : free7 l ≤ l.length := cnt_le l 0 l.length
end Go.Proofs.YtmedljnbcpdoeaaDoor
