/- Layer 5: a record's slots, plain. -/
import Derived.Test.YthhmodbggngelaaSltJ
namespace Go.Proofs.Ythhmodbggngelaa
open Go.RowKit
set_option linter.unusedVariables false
set_option maxRecDepth 100000

theorem pcs5_count (n : Nat) : ∀ S : ByteArray, S.size = n → (pcs5 S).length = max 1 ((n + 107) / 108) := by
  induction n using Nat.strongRecOn with
  | _ n ih =>
    intro S hn
    by_cases h : 108 < S.size
    · rw [pcs5_more h]
      have hs : (S.extract 108 S.size).size = n - 108 := by rw [ByteArray.size_extract]; omega
      have := ih (n - 108) (by omega) _ hs
      simp only [List.length_cons, this]
      omega
    · rw [pcs5_last h]; simp only [List.length_cons, List.length_nil]; omega
theorem pcs5_at (n : Nat) : ∀ (S : ByteArray) (i : Nat), S.size = n → i < (pcs5 S).length → (pcs5 S)[i]? = some (S.extract (i * 108) (min S.size ((i + 1) * 108))) := by
  induction n using Nat.strongRecOn with
  | _ n ih =>
    intro S i hn hi
    by_cases h : 108 < S.size
    · rw [pcs5_more h] at hi ⊢
      cases i with
      | zero =>
        rw [List.getElem?_cons_zero, show min S.size ((0 + 1) * 108) = 108 from by omega, show 0 * 108 = 0 from rfl]
      | succ i =>
        have hs : (S.extract 108 S.size).size = n - 108 := by rw [ByteArray.size_extract]; omega
        rw [List.getElem?_cons_succ, ih (n - 108) (by omega) _ i hs (by simpa using hi)]
        have e1 : 108 + i * 108 = (i + 1) * 108 := by omega
        have e2 : min (108 + min (n - 108) ((i + 1) * 108)) S.size = min S.size ((i + 1 + 1) * 108) := by omega
        rw [ByteArray.extract_extract, hs, e1, e2]
    · rw [pcs5_last h] at hi ⊢
      obtain rfl : i = 0 := by simpa using hi
      rw [List.getElem?_cons_zero, show min S.size ((0 + 1) * 108) = S.size from by omega, show 0 * 108 = 0 from rfl]
      rw [ByteArray.extract_zero_size]
theorem pcs5_small (n : Nat) : ∀ S : ByteArray, S.size = n → ∀ x ∈ pcs5 S, x.size ≤ 108 := by
  intro S hn x hx
  obtain ⟨i, hi⟩ := List.mem_iff_getElem?.1 hx
  rw [pcs5_at n S i hn (List.getElem?_eq_some_iff.1 hi).1] at hi
  injection hi with hi
  rw [← hi, ByteArray.size_extract]
  omega
theorem raw5_at (e q : Int) (ps : List ByteArray) (i : Nat) : (raw5 e q ps)[i]? = ps[i]?.map (fun x => ⟨e, wrap64 (q + (i : Int)), false, false, x⟩) := by
  unfold raw5
  rw [List.getElem?_map, List.getElem?_zipIdx]
  cases ps[i]? <;> simp
theorem mod5_at (g : St → St) : ∀ (l : List St) (j i : Nat), (mod5 g l j)[i]? = bif decide (i = j) then l[i]?.map g else l[i]?
  | [], _, i => by simp [mod5]
  | x :: l, 0, 0 => by simp [mod5]
  | x :: l, 0, i + 1 => by simp [mod5]
  | x :: l, j + 1, 0 => by simp [mod5]
  | x :: l, j + 1, i + 1 => by simp [mod5, mod5_at g l j i]
/-- The document's slot number i of a record. -/
def cut_at (e q : Int) (S : ByteArray) (n i : Nat) : St := ⟨e, wrap64 (q + (i : Int)), decide (i = 0), decide (i = n - 1), S.extract (i * 108) (min S.size ((i + 1) * 108))⟩
theorem mk5_at (e q : Int) (S : ByteArray) (i : Nat) (hi : i < (pcs5 S).length) : (mk5 (raw5 e q (pcs5 S)))[i]? = some (cut_at e q S (pcs5 S).length i) := by
  unfold mk5 cut_at
  rw [mod5_at, mod5_at, raw5_at, pcs5_at S.size S i rfl hi, len_raw5]
  generalize decide (i = 0) = b0
  generalize decide (i = (pcs5 S).length - 1) = b1
  cases b0 <;> cases b1 <;> rfl
theorem len_mk5 (R : List St) : (mk5 R).length = R.length := by unfold mk5; rw [len_mod5, len_mod5]
theorem ok5_raw (e q : Int) (S : ByteArray) (hq1 : -9223372036854775808 ≤ q) (hq2 : q ≤ 9223372036854775807) (hS : S.size ≤ 16384) :
    ok5 (raw5 e q (pcs5 S)) = decide (0 ≤ e ∧ e ≤ 2147483647 ∧ 0 ≤ q ∧ q ≤ 1152921504606846976 - ((pcs5 S).length : Int) + 1) := by
  have hp := pcs5_pos S
  have hc := pcs5_count S.size S rfl
  have hl : ∀ i, i < (pcs5 S).length → ∃ x, (pcs5 S)[i]? = some x ∧ x.size ≤ 108 := fun i hi => ⟨_, List.getElem?_eq_getElem hi, pcs5_small S.size S rfl _ (List.getElem_mem hi)⟩
  obtain ⟨x0, h0, s0⟩ := hl 0 hp
  obtain ⟨x1, h1, s1⟩ := hl ((pcs5 S).length - 1) (by omega)
  unfold ok5
  rw [len_raw5, raw5_at, raw5_at, h0, h1]
  generalize (pcs5 S).length = n at *
  simp only [Option.map_some, Option.all_some]
  unfold r5 wrap64
  rw [Bool.eq_iff_iff]
  simp only [Bool.and_eq_true, decide_eq_true_eq]
  constructor
  · rintro ⟨a, b⟩
    omega
  · intro a
    constructor <;> omega
end Go.Proofs.Ythhmodbggngelaa
/- Layer 5: the document's Cut. -/
namespace Go.Proofs.Ythhmodbggngelaa
open Go.RowKit
set_option linter.unusedVariables false
set_option maxRecDepth 100000

theorem cut_max (S : ByteArray) : max 1 (((S.size : Int) + 108 - 1) / 108) = ((pcs5 S).length : Int) := by
  have := pcs5_count S.size S rfl
  omega
end Go.Proofs.Ythhmodbggngelaa
/- Layer 5: the document's Cut, its loop. -/
namespace Go.Proofs.Ythhmodbggngelaa
open Go.RowKit
set_option linter.unusedVariables false
set_option maxRecDepth 100000

theorem mk5_range (e q : Int) (S : ByteArray) : mk5 (raw5 e q (pcs5 S)) = (List.range (pcs5 S).length).map (cut_at e q S (pcs5 S).length) := by
  apply List.ext_getElem?
  intro i
  by_cases h : i < (pcs5 S).length
  · rw [mk5_at e q S i h, List.getElem?_map, List.getElem?_range h]; rfl
  · rw [List.getElem?_eq_none (by rw [len_mk5, len_raw5]; omega), List.getElem?_eq_none (by simp; omega)]
end Go.Proofs.Ythhmodbggngelaa
