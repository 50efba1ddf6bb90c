/- Layer 5: what Join makes of records' slots one behind the other, plain. -/
import Derived.Test.YtpccelebidiekaaSltS
namespace Go.Proofs.Ytpccelebidiekaa
open Go.RowKit
set_option linter.unusedVariables false
set_option maxRecDepth 100000

theorem ext_list (S : ByteArray) (a b : Nat) : (S.extract a b).data.toList = (S.data.toList.drop a).take (b - a) := by
  rw [ByteArray.data_extract, Array.toList_extract]
theorem cut_take (S : ByteArray) (i : Nat) (h : i * 108 ≤ S.size) : S.data.toList.take (i * 108) ++ (S.extract (i * 108) (min S.size ((i + 1) * 108))).data.toList = S.data.toList.take ((i + 1) * 108) := by
  have hl : S.data.toList.length = S.size := len_data S
  rw [ext_list]
  rw [show (i + 1) * 108 = i * 108 + 108 from by omega]
  generalize S.data.toList = l at *
  generalize i * 108 = a at *
  have h2 : (l.drop a).take (min S.size (a + 108) - a) = (l.drop a).take 108 := by
    rcases Nat.le_total (a + 108) S.size with h3 | h3
    · rw [Nat.min_eq_right h3]; congr 1; omega
    · rw [Nat.min_eq_left h3, List.take_of_length_le (by rw [List.length_drop]; omega), List.take_of_length_le (by rw [List.length_drop]; omega)]
  rw [h2, List.take_add]
theorem ba_list (S : ByteArray) (l : List UInt8) (h : l = S.data.toList) : (⟨l.toArray⟩ : ByteArray) = S := by subst h; exact (ba_self S).symm
section
variable (e q : Int) (S : ByteArray) (n : Nat) (hn : n = max 1 ((S.size + 107) / 108)) (hq : 0 ≤ q ∧ q + (n : Int) ≤ 9223372036854775807)
include hn hq
theorem jn_step (i : Nat) (hi : i < n) (L : List St) (rs : List Rc) : jn5 (cut_at e q S n i :: L) rs (S.data.toList.take (i * 108)) q (decide (0 < i)) =
    if i + 1 = n then jn5 L (rs ++ [⟨q, q + n, S⟩]) [] (q + n) false else jn5 L rs (S.data.toList.take ((i + 1) * 108)) q (decide (0 < i + 1)) := by
  have h1 : i * 108 ≤ S.size := by omega
  have hf : ¬ ((cut_at e q S n i).f = decide (0 < i)) := by
    show ¬ (decide (i = 0) = decide (0 < i))
    by_cases h : i = 0
    · subst h; simp
    · rw [decide_eq_false h, decide_eq_true (by omega : 0 < i)]; simp
  rw [jn5, if_neg hf]
  by_cases hz : i + 1 = n
  · have hz2 : (cut_at e q S n i).z = true := decide_eq_true (by omega : i = n - 1)
    rw [hz2, if_pos rfl, if_pos hz]
    have e1 : wrap64 ((cut_at e q S n i).q + 1) = q + n := by
      show wrap64 (wrap64 (q + (i : Int)) + 1) = q + n
      unfold wrap64; omega
    have e2 : S.data.toList.take (i * 108) ++ (cut_at e q S n i).d.data.toList = S.data.toList := by
      show _ ++ (S.extract (i * 108) (min S.size ((i + 1) * 108))).data.toList = _
      rw [cut_take S i h1, List.take_of_length_le (by rw [len_data]; omega)]
    rw [e1, e2, ba_list S _ rfl]
  · have hz2 : (cut_at e q S n i).z = false := decide_eq_false (by omega : ¬ i = n - 1)
    rw [hz2, if_neg (by simp), if_neg hz]
    have e2 : S.data.toList.take (i * 108) ++ (cut_at e q S n i).d.data.toList = S.data.toList.take ((i + 1) * 108) := cut_take S i h1
    rw [e2, decide_eq_true (by omega : 0 < i + 1)]
/-- The slots from i on, the first m of them. -/
theorem jn_run (m : Nat) : ∀ (i : Nat), i + m ≤ n → i < n → ∀ (T : List St) (rs : List Rc), jn5 (((List.range' i m).map (cut_at e q S n)) ++ T) rs (S.data.toList.take (i * 108)) q (decide (0 < i)) =
    if i + m = n then jn5 T (rs ++ [⟨q, q + n, S⟩]) [] (q + n) false else jn5 T rs (S.data.toList.take ((i + m) * 108)) q (decide (0 < i + m)) := by
  induction m with
  | zero =>
    intro i _ hi T rs
    rw [if_neg (by omega)]
    rfl
  | succ m ih =>
    intro i hm hi T rs
    rw [List.range'_succ, List.map_cons, List.cons_append, jn_step e q S n hn hq i hi]
    by_cases h : i + 1 = n
    · have hm0 : m = 0 := by omega
      subst hm0
      rw [if_pos h, if_pos (by omega)]
      rfl
    · rw [if_neg h, ih (i + 1) (by omega) (by omega) T rs, show i + 1 + m = i + (m + 1) from by omega]
theorem jn_whole (hc : (pcs5 S).length = n) (T : List St) (rs : List Rc) : jn5 (mk5 (raw5 e q (pcs5 S)) ++ T) rs [] q false = jn5 T (rs ++ [⟨q, q + n, S⟩]) [] (q + n) false := by
  have h0 : 0 < n := by omega
  have h := jn_run e q S n hn hq n 0 (by omega) h0 T rs
  rw [if_pos (by omega)] at h
  rw [mk5_range, hc, List.range_eq_range']
  simpa using h
theorem jn_part (hc : (pcs5 S).length = n) (m : Nat) (hm : m < n) (rs : List Rc) : jn5 ((mk5 (raw5 e q (pcs5 S))).take m) rs [] q false = (rs, q) := by
  have h0 : 0 < n := by omega
  have h := jn_run e q S n hn hq m 0 (by omega) h0 [] rs
  rw [if_neg (by omega)] at h
  rw [mk5_range, hc, ← List.map_take, List.take_range, Nat.min_eq_left (by omega), List.range_eq_range']
  simp only [List.append_nil, Nat.zero_mul, List.take_zero] at h
  rw [show decide (0 < 0) = false from rfl] at h
  rw [h]
  rfl
end
/-- Slots of one epoch, each right, that have the Seqs from q on. -/
def SeqRow (e q : Int) (R : List St) : Prop := ∀ (i : Nat) (s : St), R[i]? = some s → s.e = e ∧ s.q = q + (i : Int) ∧ s.d.size ≤ 108
theorem SeqRow.cut (e q : Int) (S : ByteArray) (hq : 0 ≤ q ∧ q + ((pcs5 S).length : Int) ≤ 9223372036854775807) : SeqRow e q (mk5 (raw5 e q (pcs5 S))) := by
  intro i s hs
  have hi : i < (pcs5 S).length := by have := (List.getElem?_eq_some_iff.1 hs).1; rwa [len_mk5, len_raw5] at this
  rw [mk5_at e q S i hi] at hs
  injection hs with hs
  subst hs
  refine ⟨rfl, ?_, ?_⟩
  · show wrap64 (q + (i : Int)) = _
    unfold wrap64; omega
  · show (S.extract _ _).size ≤ 108
    rw [ByteArray.size_extract]; omega
theorem SeqRow.app {e q : Int} {R T : List St} (h : SeqRow e q R) (k : SeqRow e (q + (R.length : Int)) T) : SeqRow e q (R ++ T) := by
  intro i s hs
  rcases Nat.lt_or_ge i R.length with hi | hi
  · rw [List.getElem?_append_left hi] at hs; exact h i s hs
  · rw [List.getElem?_append_right hi] at hs
    obtain ⟨a, b, c⟩ := k _ s hs
    exact ⟨a, by omega, c⟩
theorem SeqRow.take {e q : Int} {R : List St} (h : SeqRow e q R) (m : Nat) : SeqRow e q (R.take m) := by
  intro i s hs
  rw [List.getElem?_take] at hs
  split at hs
  · exact h i s hs
  · cases hs
/-- Such slots are right and follow one another, whatever stands behind them. -/
theorem SeqRow.adv {e q : Int} {R : List St} (h : SeqRow e q R) (he : 0 ≤ e ∧ e ≤ 2147483647) (hq : 0 ≤ q ∧ q + (R.length : Int) ≤ 1152921504606846977) (T : List St) (i : Nat) (hi : i < R.length) : adv5 (R ++ T) i = true := by
  have g : ∀ j, j < R.length → ∃ s, (R ++ T)[j]? = some s ∧ s.e = e ∧ s.q = q + (j : Int) ∧ s.d.size ≤ 108 := fun j hj => by
    refine ⟨R[j], ?_, h j _ (List.getElem?_eq_getElem hj)⟩
    rw [List.getElem?_append_left hj, List.getElem?_eq_getElem hj]
  obtain ⟨s, hs, s1, s2, s3⟩ := g i hi
  have hr : r5 s = true := decide_eq_true (by omega)
  unfold adv5
  rw [hs]
  cases i with
  | zero => simp [hr]
  | succ k =>
    obtain ⟨a, ha, a1, a2, a3⟩ := g k (by omega)
    have hf : fol5 a s = true := by
      unfold fol5
      have : s.q = wrap64 (a.q + 1) := by unfold wrap64; omega
      simp [this, s1, a1]
    simp only [ha, hr, hf, Bool.and_self]
theorem adv_end (R : List St) (i : Nat) (h : R.length ≤ i) : adv5 R i = false := by
  unfold adv5
  rw [List.getElem?_eq_none h]
/-- A slot that does not follow ends the row. -/
theorem adv_cut {R T : List St} {a s : St} (ha : R[R.length - 1]? = some a) (hs : T[0]? = some s) (h0 : 0 < R.length) (hf : fol5 a s = false) : adv5 (R ++ T) R.length = false := by
  unfold adv5
  rw [List.getElem?_append_right (Nat.le_refl _), Nat.sub_self, hs]
  obtain ⟨k, hk⟩ : ∃ k, R.length = k + 1 := ⟨R.length - 1, by omega⟩
  have h2 : (R ++ T)[k]? = some a := by rw [List.getElem?_append_left (by omega), ← ha]; congr 1; omega
  rw [hk]
  simp only [h2, hf, Bool.and_false]
end Go.Proofs.Ytpccelebidiekaa
