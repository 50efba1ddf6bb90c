/- Layer 16: what Key and Span tell is right, and covers so. -/
import Derived.Test.YtjkfgbmlhglnfaaRdJ
namespace Go.Proofs.Ytjkfgbmlhglnfaa
open Go.RowKit Go.Shelf
set_option linter.unusedVariables false
set_option linter.unusedSimpArgs false
set_option maxRecDepth 100000

theorem insK_is16 (key : ByteArray) : ∀ (K : List ByteArray), Kup K → key ∉ K → insK K (plK K key) key = insK16 key K
  | [], _, _ => rfl
  | k :: l, hu, hn => by
    have hu' := List.pairwise_cons.1 hu
    have hne : key ≠ k := fun e => hn (by simp [e])
    unfold insK16
    by_cases h1 : lt14 k key = true
    · rw [if_pos h1]
      have ih := insK_is16 key l hu'.2 (fun h => hn (by simp [h]))
      unfold insK plK at ih ⊢
      rw [show List.takeWhile (fun k => lt14 k key) (k :: l) = k :: List.takeWhile (fun k => lt14 k key) l from List.takeWhile_cons_of_pos (p := fun k => lt14 k key) h1, List.length_cons, List.take_succ_cons, List.drop_succ_cons, List.cons_append, ih]
    · rw [if_neg h1]
      have h2 : lt14 key k = true := by
        cases h : lt14 key k with
        | true => rfl
        | false => exact absurd (lt14_eq h (by simpa using h1)) hne
      rw [if_pos h2]
      unfold insK plK
      rw [show List.takeWhile (fun k => lt14 k key) (k :: l) = [] from List.takeWhile_cons_of_neg (p := fun k => lt14 k key) h1]
      rfl
open Classical in
theorem hasK_iff {K : List ByteArray} (h : Kup K) (x : ByteArray) : hasK K x = decide (x ∈ K) := by
  rw [Bool.eq_iff_iff, decide_eq_true_eq]
  exact hasK_mem h
open Classical in
theorem tl_eq (a b : ByteArray) : (a.toList == b.toList) = decide (a = b) := by
  rw [Bool.eq_iff_iff, decide_eq_true_eq, beq_iff_eq]
  constructor
  · intro h
    rw [ByteArray.toList_eq, ByteArray.toList_eq] at h
    exact ba_ext h
  · intro h; rw [h]
theorem key_ok {K : List ByteArray} {S : List Pq2} {k : ByteArray} (h : Rgt16 K S) : (key16 K S k).2.2 = 9 ∨ ((key16 K S k).2.2 = 0 ∧ Rgt16 (key16 K S k).1 (key16 K S k).2.1 ∧ ∀ x, cov16 (key16 K S k).1 (key16 K S k).2.1 x = (cov16 K S x || x.toList == k.toList)) := by
  unfold key16
  rw [rgb_yes h]
  simp only [if_true]
  cases hc : cov16 K S k with
  | true =>
    simp only [if_true]
    refine .inr ⟨trivial, h, fun x => ?_⟩
    rw [tl_eq]
    by_cases e : x = k
    · rw [e, hc]; simp
    · simp [e]
  | false =>
    simp only [Bool.false_eq_true, if_false]
    by_cases h64 : K.length = 64
    · rw [if_pos h64]; exact .inl rfl
    · rw [if_neg h64]
      unfold cov16 at hc
      rw [Bool.or_eq_false_iff] at hc
      have hnk : k ∉ K := fun hm => by rw [hasK_iff h.2.2.1] at hc; simp [hm] at hc
      refine .inr ⟨rfl, ?_, fun x => ?_⟩
      · simp only [insK_is16 k K h.2.2.1 hnk]
        have hl : (insK16 k K).length = K.length + 1 := by rw [← insK_is16 k K h.2.2.1 hnk, insK_len K _ k (plK_le K k)]
        refine ⟨⟨by rw [hl]; have := h.1.1; omega, h.1.2⟩, h.2.1, insK16_up k K h.2.2.1, fun y hy => ?_⟩
        rcases (mem_insK16 k y K).1 hy with rfl | hy
        · exact hc.2
        · exact h.2.2.2 y hy
      · simp only [insK_is16 k K h.2.2.1 hnk]
        unfold cov16
        rw [hasK_iff (insK16_up k K h.2.2.1), hasK_iff h.2.2.1, tl_eq]
        have hm := mem_insK16 k x K
        rw [Bool.eq_iff_iff]
        simp only [Bool.or_eq_true, decide_eq_true_eq]
        rw [hm]
        constructor
        · rintro ((h1 | h1) | h1)
          · exact .inr h1
          · exact .inl (.inl h1)
          · exact .inl (.inr h1)
        · rintro ((h1 | h1) | h1)
          · exact .inl (.inr h1)
          · exact .inr h1
          · exact .inl (.inl h1)
theorem win_none16 {s : Pq2} (h : some16 s = false) (x : ByteArray) : win x s.k s.v = false := by
  unfold some16 at h
  rw [win_def]
  have t := @lt14_trans
  have eq := @lt14_eq
  generalize s.k = a at *
  generalize s.v = b at *
  grind
theorem span_ok {K : List ByteArray} {S : List Pq2} {s : Pq2} (h : Rgt16 K S) : (span16 K S s).2.2 = 9 ∨ ((span16 K S s).2.2 = 0 ∧ Rgt16 (span16 K S s).1 (span16 K S s).2.1 ∧ ∀ x, cov16 (span16 K S s).1 (span16 K S s).2.1 x = (cov16 K S x || win x s.k s.v)) := by
  unfold span16
  rw [rgb_yes h]
  simp only [if_true]
  cases hs : some16 s with
  | false =>
    simp only [Bool.false_eq_true, if_false]
    exact .inr ⟨trivial, h, fun x => by rw [win_none16 hs, Bool.or_false]⟩
  | true =>
    simp only [if_true]
    by_cases h64 : 64 < (tog16 S s).length
    · rw [if_pos h64]; exact .inl rfl
    · rw [if_neg h64]
      have hup : Kup (K.filter (fun k => !spd16 (tog16 S s) k)) := List.Pairwise.filter _ h.2.2.1
      refine .inr ⟨rfl, ⟨⟨Nat.le_trans (List.length_filter_le _ _) h.1.1, by simp only; omega⟩, tog_spo S s h.2.1 hs, hup, fun k hk => ?_⟩, fun x => ?_⟩
      · have := (List.mem_filter.1 hk).2
        simpa using this
      · unfold cov16
        simp only
        rw [hasK_iff hup, hasK_iff h.2.2.1]
        have hsp := spd_tog S s x h.2.1.1 hs
        have hm : x ∈ K.filter (fun k => !spd16 (tog16 S s) k) ↔ x ∈ K ∧ (!spd16 (tog16 S s) x) = true := List.mem_filter
        rw [hsp] at hm ⊢
        by_cases e2 : x ∈ K <;> cases h1 : spd16 S x <;> cases h2 : win x s.k s.v <;> simp [hm, e2, h1, h2]
/-- Right reads with a span more, told without an error, are right. -/
theorem span_ok16 {K : List ByteArray} {S : List Pq2} {s : Pq2} (h : Rgt16 K S) : (span16 K S s).2.2 = 0 → Rgt16 (span16 K S s).1 (span16 K S s).2.1 := by
  intro h0
  rcases span_ok (s := s) h with h1 | h1
  · rw [h0] at h1; cases h1
  · exact h1.2.1
end Go.Proofs.Ytjkfgbmlhglnfaa
