/- Layer 16: spans and keys in another order come to the same. -/
import Derived.Test.YtaebhbdmmnpgeaaRdK
namespace Go.Proofs.Ytaebhbdmmnpgeaa
open Go.RowKit Go.Shelf
set_option linter.unusedVariables false
set_option linter.unusedSimpArgs false
set_option maxRecDepth 100000

/-- Right reads are told by what they cover. -/
theorem reads_same {K K' : List ByteArray} {S S' : List Pq2} (h : Rgt16 K S) (h' : Rgt16 K' S') (h1 : ∀ x, spd16 S x = spd16 S' x) (h2 : ∀ x, x ∈ K ↔ x ∈ K') : K = K' ∧ S = S' :=
  ⟨kup_same K K' h.2.2.1 h'.2.2.1 h2, spo_same S S' h.2.1 h'.2.1 h1⟩
theorem span_mem {K : List ByteArray} {S : List Pq2} (s : Pq2) (h : Rgt16 K S) (hl : S.length ≤ 62) :
    (span16 K S s).2.2 = 0 ∧ Rgt16 (span16 K S s).1 (span16 K S s).2.1 ∧ (∀ x, spd16 (span16 K S s).2.1 x = (spd16 S x || win x s.k s.v)) ∧ (∀ x, x ∈ (span16 K S s).1 ↔ x ∈ K ∧ (spd16 S x || win x s.k s.v) = false) ∧ (span16 K S s).2.1.length ≤ S.length + 1 ∧ (span16 K S s).1.length ≤ K.length := by
  have hk := span_ok (s := s) h
  have hlen := tog_len S s
  unfold span16 at hk ⊢
  rw [rgb_yes h] at hk ⊢
  simp only [if_true] at hk ⊢
  cases hs : some16 s with
  | false =>
    rw [hs] at hk
    simp only [Bool.false_eq_true, if_false] at hk ⊢
    refine ⟨trivial, h, fun x => by rw [win_none16 hs, Bool.or_false], fun x => ?_, by omega, Nat.le_refl _⟩
    rw [win_none16 hs, Bool.or_false]
    exact ⟨fun hx => ⟨hx, h.2.2.2 x hx⟩, fun hx => hx.1⟩
  | true =>
    rw [hs] at hk
    simp only [if_true] at hk ⊢
    rw [if_neg (by omega)] at hk ⊢
    rcases hk with hk | ⟨_, hk, _⟩
    · cases hk
    · refine ⟨rfl, hk, fun x => spd_tog S s x h.2.1.1 hs, fun x => ?_, by simp only; omega, List.length_filter_le _ _⟩
      rw [List.mem_filter, spd_tog S s x h.2.1.1 hs]
      simp
theorem key_mem {K : List ByteArray} {S : List Pq2} (k : ByteArray) (h : Rgt16 K S) (hl : K.length ≤ 63) :
    (key16 K S k).2.2 = 0 ∧ Rgt16 (key16 K S k).1 (key16 K S k).2.1 ∧ (key16 K S k).2.1 = S ∧ (∀ x, x ∈ (key16 K S k).1 ↔ x ∈ K ∨ (x = k ∧ spd16 S k = false)) ∧ (key16 K S k).1.length ≤ K.length + 1 := by
  have hk := key_ok (k := k) h
  unfold key16 at hk ⊢
  rw [rgb_yes h] at hk ⊢
  simp only [if_true] at hk ⊢
  cases hc : cov16 K S k with
  | true =>
    simp only [if_true]
    refine ⟨trivial, h, trivial, fun x => ⟨fun hx => .inl hx, fun hx => ?_⟩, by omega⟩
    rcases hx with hx | ⟨rfl, hx⟩
    · exact hx
    · unfold cov16 at hc
      rw [hx, Bool.or_false] at hc
      exact (hasK_mem h.2.2.1).1 hc
  | false =>
    rw [hc] at hk
    simp only [Bool.false_eq_true, if_false] at hk ⊢
    rw [if_neg (by omega)] at hk ⊢
    rcases hk with hk | ⟨_, hk, _⟩
    · cases hk
    · unfold cov16 at hc
      rw [Bool.or_eq_false_iff] at hc
      have hnk : k ∉ K := fun hm => by
        have := (hasK_mem h.2.2.1).2 hm
        rw [hc.1] at this; cases this
      refine ⟨rfl, hk, rfl, fun x => ?_, by simp only; rw [insK_len K _ k (plK_le K k)]; omega⟩
      simp only
      rw [insK_is16 k K h.2.2.1 hnk, mem_insK16]
      constructor
      · rintro (h1 | h1)
        · exact .inr ⟨h1, hc.2⟩
        · exact .inl h1
      · rintro (h1 | ⟨h1, _⟩)
        · exact .inr h1
        · exact .inl h1
/-- Two spans in either order; the first one again. -/
theorem spans_order {K : List ByteArray} {S : List Pq2} (a b : Pq2) (h : Rgt16 K S) (hl : S.length ≤ 40) :
    ∃ K1 S1 K2 S2 K3 S3, span16 K S a = (K1, S1, 0) ∧ span16 K1 S1 b = (K2, S2, 0) ∧ span16 K S b = (K3, S3, 0) ∧ span16 K3 S3 a = (K2, S2, 0) ∧ span16 K2 S2 a = (K2, S2, 0) := by
  obtain ⟨a1, a2, a3, a4, a5, a6⟩ := span_mem a h (by omega)
  obtain ⟨b1, b2, b3, b4, b5, b6⟩ := span_mem b a2 (by omega)
  obtain ⟨c1, c2, c3, c4, c5, c6⟩ := span_mem b h (by omega)
  obtain ⟨d1, d2, d3, d4, d5, d6⟩ := span_mem a c2 (by omega)
  obtain ⟨e1, e2, e3, e4, e5, e6⟩ := span_mem a b2 (by omega)
  have s1 := reads_same d2 b2 (fun x => by
    rw [d3, c3, b3, a3]
    cases spd16 S x <;> cases win x a.k a.v <;> cases win x b.k b.v <;> rfl) (fun x => by
    rw [d4, c4, b4, a4, c3, a3]
    cases spd16 S x <;> cases win x a.k a.v <;> cases win x b.k b.v <;> simp)
  have s2 := reads_same e2 b2 (fun x => by
    rw [e3, b3, a3]
    cases spd16 S x <;> cases win x a.k a.v <;> cases win x b.k b.v <;> rfl) (fun x => by
    rw [e4, b4, a4, b3, a3]
    cases spd16 S x <;> cases win x a.k a.v <;> cases win x b.k b.v <;> simp)
  refine ⟨_, _, (span16 (span16 K S a).1 (span16 K S a).2.1 b).1, (span16 (span16 K S a).1 (span16 K S a).2.1 b).2.1, _, _, Prod.ext rfl (Prod.ext rfl a1), Prod.ext rfl (Prod.ext rfl b1), Prod.ext rfl (Prod.ext rfl c1), Prod.ext s1.1 (Prod.ext s1.2 d1), Prod.ext s2.1 (Prod.ext s2.2 e1)⟩
theorem keys_order {K : List ByteArray} {S : List Pq2} (j k : ByteArray) (h : Rgt16 K S) (hl : K.length ≤ 40) :
    ∃ K1 K2 K3, key16 K S j = (K1, S, 0) ∧ key16 K1 S k = (K2, S, 0) ∧ key16 K S k = (K3, S, 0) ∧ key16 K3 S j = (K2, S, 0) ∧ key16 K2 S j = (K2, S, 0) := by
  obtain ⟨a1, a2, a3, a4, a5⟩ := key_mem j h (by omega)
  rw [a3] at a2
  obtain ⟨b1, b2, b3, b4, b5⟩ := key_mem k a2 (by omega)
  rw [b3] at b2
  obtain ⟨c1, c2, c3, c4, c5⟩ := key_mem k h (by omega)
  rw [c3] at c2
  obtain ⟨d1, d2, d3, d4, d5⟩ := key_mem j c2 (by omega)
  rw [d3] at d2
  obtain ⟨e1, e2, e3, e4, e5⟩ := key_mem j b2 (by omega)
  rw [e3] at e2
  have s1 := reads_same d2 b2 (fun x => rfl) (fun x => by
    rw [d4, c4, b4, a4]
    constructor
    · rintro ((h1 | h1) | h1)
      · exact .inl (.inl h1)
      · exact .inr h1
      · exact .inl (.inr h1)
    · rintro ((h1 | h1) | h1)
      · exact .inl (.inl h1)
      · exact .inr h1
      · exact .inl (.inr h1))
  have s2 := reads_same e2 b2 (fun x => rfl) (fun x => by
    rw [e4, b4, a4]
    constructor
    · rintro (h1 | h1)
      · exact h1
      · exact .inl (.inr h1)
    · exact fun h1 => .inl h1)
  exact ⟨_, (key16 (key16 K S j).1 S k).1, _, Prod.ext rfl (Prod.ext a3 a1), Prod.ext rfl (Prod.ext b3 b1), Prod.ext rfl (Prod.ext c3 c1), Prod.ext s1.1 (Prod.ext d3 d1), Prod.ext s2.1 (Prod.ext e3 e1)⟩
/-- How many keys and spans are told. -/
theorem span_few {K K' : List ByteArray} {S S' : List Pq2} {s : Pq2} (h : Rgt16 K S) (hl : S.length ≤ 62) (e : span16 K S s = (K', S', 0)) : Rgt16 K' S' ∧ S'.length ≤ S.length + 1 ∧ K'.length ≤ K.length := by
  have := span_mem s h hl
  rw [e] at this
  exact ⟨this.2.1, this.2.2.2.2⟩
theorem key_few {K K' : List ByteArray} {S S' : List Pq2} {k : ByteArray} (h : Rgt16 K S) (hl : K.length ≤ 63) (e : key16 K S k = (K', S', 0)) : Rgt16 K' S' ∧ K'.length ≤ K.length + 1 := by
  have := key_mem k h hl
  rw [e] at this
  exact ⟨this.2.1, this.2.2.2.2⟩
end Go.Proofs.Ytaebhbdmmnpgeaa
