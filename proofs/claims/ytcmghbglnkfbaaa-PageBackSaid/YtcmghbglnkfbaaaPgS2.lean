/- Layer 8: an entry's reads are a step, plain. -/
import Derived.Test.YtcmghbglnkfbaaaPgS1
namespace Go.Proofs.Ytcmghbglnkfbaaa
open Go.RowKit
set_option linter.unusedVariables false
set_option maxRecDepth 100000

theorem rw_cases (k : Nat) (l : List UInt8) (a e : Nat) : (e = 0 ∧ a + k ≤ l.length ∧ rw_ k l a e = (num k l a, a + k, 0)) ∨ ((e ≠ 0 ∨ l.length < a + k) ∧ (rw_ k l a e).2.2 ≠ 0) := by
  unfold rw_
  by_cases h0 : e = 0
  · by_cases h1 : l.length < a + k
    · right; rw [if_pos h0, if_pos h1]; exact ⟨.inr h1, by show (3 : Nat) ≠ 0; decide⟩
    · left; rw [if_pos h0, if_neg h1]; exact ⟨h0, by omega, rfl⟩
  · right; rw [if_neg h0]; exact ⟨.inl h0, h0⟩
theorem pc_of {k : Nat} {l : List UInt8} {a v a1 e1 a2 e2 : Nat} {bs : List UInt8} (hq : rw_ k l a 0 = (v, a1, e1)) (hl : bs.length = v) (ht : Rt8 l a1 e1 v bs a2 e2) :
    (e2 = 0 → piece8 l a k = some (⟨bs.toArray⟩, a2)) ∧ (e2 ≠ 0 → piece8 l a k = none) := by
  rcases rw_cases k l a 0 with ⟨_, h1, h2⟩ | ⟨h1, h2⟩
  · rw [hq] at h2
    injection h2 with hv h2
    injection h2 with ha he
    subst hv ha he
    constructor
    · intro h0
      have h3 : a + k + num k l a ≤ l.length := by
        rcases Nat.lt_or_ge l.length (a + k + num k l a) with h4 | h4
        · exact absurd h0 (ht.2 (.inr h4))
        · exact h4
      obtain ⟨h4, _, h5⟩ := ht.1 rfl h3
      unfold piece8
      rw [if_pos h3]
      rw [List.take_of_length_le (by omega)] at h5
      rw [h5, h4]
    · intro h0
      unfold piece8
      rw [if_neg]
      intro h3
      exact h0 (ht.1 rfl h3).2.1
  · rw [hq] at h2
    have h3 : e2 ≠ 0 := ht.2 (.inl h2)
    refine ⟨fun h => absurd h h3, fun _ => ?_⟩
    unfold piece8
    rw [if_neg]
    intro h4
    rcases h1 with h1 | h1
    · exact h1 rfl
    · omega
theorem entL {l : List UInt8} {n : Nd} {a v1 a1 e1 a2 e2 v3 a3 e3 a4 e4 : Nat} {bs ds : List UInt8} (hlf : n.leaf = true) (hq1 : rw_ 1 l a 0 = (v1, a1, e1)) (hl : bs.length = v1) (ht1 : Rt8 l a1 e1 v1 bs a2 e2) (hq3 : rw_ 2 l a2 e2 = (v3, a3, e3)) (hm : ds.length = v3) (ht2 : Rt8 l a3 e3 v3 ds a4 e4) :
    (e4 = 0 → step8 l (n, a) = some (⟨true, n.keys ++ [⟨bs.toArray⟩], n.vals ++ [⟨ds.toArray⟩], n.kids⟩, a4)) ∧ (e4 ≠ 0 → step8 l (n, a) = none) := by
  have p1 := pc_of hq1 hl ht1
  by_cases h2 : e2 = 0
  · subst h2
    have p2 := pc_of hq3 hm ht2
    have q1 := p1.1 rfl
    refine ⟨fun h => ?_, fun h => ?_⟩
    · unfold step8; simp only [q1, hlf, if_true, p2.1 h]
    · unfold step8; simp only [q1, hlf, if_true, p2.2 h]
  · have h3 : e3 ≠ 0 := by
      rcases rw_cases 2 l a2 e2 with ⟨h4, _⟩ | ⟨_, h4⟩
      · exact absurd h4 h2
      · rw [hq3] at h4; exact h4
    have h4 : e4 ≠ 0 := ht2.2 (.inl h3)
    exact ⟨fun h => absurd h h4, fun _ => by unfold step8; simp only [p1.2 h2]⟩
theorem entK {l : List UInt8} {n : Nd} {a v1 a1 e1 a2 e2 v3 a3 e3 : Nat} {bs : List UInt8} (hlf : n.leaf = false) (hq1 : rw_ 1 l a 0 = (v1, a1, e1)) (hl : bs.length = v1) (ht1 : Rt8 l a1 e1 v1 bs a2 e2) (hq3 : rw_ 4 l a2 e2 = (v3, a3, e3)) :
    (e3 = 0 → step8 l (n, a) = some (⟨false, n.keys ++ [⟨bs.toArray⟩], n.vals, n.kids ++ [(v3 : Int)]⟩, a3)) ∧ (e3 ≠ 0 → step8 l (n, a) = none) := by
  have p1 := pc_of hq1 hl ht1
  by_cases h2 : e2 = 0
  · subst h2
    have q1 := p1.1 rfl
    rcases rw_cases 4 l a2 0 with ⟨_, h4, h5⟩ | ⟨h4, h5⟩
    · rw [hq3] at h5
      injection h5 with hv h5
      injection h5 with ha he
      subst hv ha he
      refine ⟨fun _ => ?_, fun h => absurd rfl h⟩
      have hk : kid8 l a2 = some ((num 4 l a2 : Int), a2 + 4) := by unfold kid8; rw [if_pos h4]
      unfold step8; simp only [q1, hlf, Bool.false_eq_true, if_false, hk]
    · rw [hq3] at h5
      refine ⟨fun h => absurd h h5, fun _ => ?_⟩
      have hk : kid8 l a2 = none := by
        unfold kid8; rw [if_neg]
        intro h6
        rcases h4 with h4 | h4
        · exact h4 rfl
        · omega
      unfold step8; simp only [q1, hlf, Bool.false_eq_true, if_false, hk]
  · have h3 : e3 ≠ 0 := by
      rcases rw_cases 4 l a2 e2 with ⟨h4, _⟩ | ⟨_, h4⟩
      · exact absurd h4 h2
      · rw [hq3] at h4; exact h4
    exact ⟨fun h => absurd h h3, fun _ => by unfold step8; simp only [p1.2 h2]⟩
theorem rw_lt (k : Nat) (l : List UInt8) (a e v a' e' : Nat) (hq : rw_ k l a e = (v, a', e')) : v < 256 ^ k := by
  rcases rw_cases k l a e with ⟨_, _, h5⟩ | ⟨h4, h5⟩
  · rw [hq] at h5; injection h5 with hv _; subst hv; exact num_lt k l a
  · unfold rw_ at hq
    split at hq
    · split at hq
      · injection hq with h; subst h; exact Nat.pow_pos (by decide)
      · injection hq with h; subst h; exact num_lt k l a
    · injection hq with h; subst h; exact Nat.pow_pos (by decide)
theorem own2S {X : World} {B : Nat} {v : Value} {L : List ByteArray} (h : X.ownsRow B 9 1 v (L.map Value.string).length (L.map Value.string)) : X.ownsRow B 9 1 v L.length (L.map Value.string) := by simpa using h
theorem own2I {X : World} {B : Nat} {v : Value} {L : List Int} (h : X.ownsRow B 3 1 v (L.map (Value.int .i64)).length (L.map (Value.int .i64))) : X.ownsRow B 3 1 v L.length (L.map (Value.int .i64)) := by simpa using h
theorem Fx.app2S {w X X' : World} {p a e q : Nat} {l : List UInt8} {cs : List Value} {vK v2 v' : Value} {K L : List ByteArray} {s : ByteArray} (h : Fx w X p l a e q cs vK K 9 v2 (L.map Value.string)) (ho : X'.ownsRow (q + 1) 9 1 v' (L.length + 1) ((L ++ [s]).map Value.string)) (ht : Turn (fun k => v2.ownBlock = some k) X X') (hv : v'.ownBlock = v2.ownBlock ∨ v'.ownBlock = some X.heap.size) :
    Fx w X' p l a e q cs vK K 9 v' ((L ++ [s]).map Value.string) := by
  have := h.app2 (u := .string s) (v' := v') (by simpa using ho) ht hv
  simpa using this
theorem Fx.app2I {w X X' : World} {p a e q : Nat} {l : List UInt8} {cs : List Value} {vK v2 v' : Value} {K : List ByteArray} {L : List Int} {s : Int} (h : Fx w X p l a e q cs vK K 3 v2 (L.map (Value.int .i64))) (ho : X'.ownsRow (q + 1) 3 1 v' (L.length + 1) ((L ++ [s]).map (Value.int .i64))) (ht : Turn (fun k => v2.ownBlock = some k) X X') (hv : v'.ownBlock = v2.ownBlock ∨ v'.ownBlock = some X.heap.size) :
    Fx w X' p l a e q cs vK K 3 v' ((L ++ [s]).map (Value.int .i64)) := by
  have := h.app2 (u := .int .i64 s) (v' := v') (by simpa using ho) ht hv
  simpa using this
end Go.Proofs.Ytcmghbglnkfbaaa
