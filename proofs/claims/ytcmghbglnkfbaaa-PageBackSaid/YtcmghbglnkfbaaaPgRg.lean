/- Layer 8: the document's loop over entries, plain. -/
import Derived.Test.YtcmghbglnkfbaaaPgRf
namespace Go.Proofs.Ytcmghbglnkfbaaa
open Go.RowKit
set_option linter.unusedVariables false
set_option maxRecDepth 100000

/-- What the document's loop has behind i entries: a node and a place, or no place. -/
structure Ls (l : List UInt8) (lf : Bool) (i : Nat) (nd : Nd) (a : Int) : Prop where
  leaf : nd.leaf = lf
  here : 0 ≤ a → it8 l (start8 l) i = some (nd, a.toNat)
  gone : a < 0 → it8 l (start8 l) i = none
  le : a ≤ l.length
  ge : -1 ≤ a
  nk : nd.keys.length ≤ i
  nv : nd.vals.length ≤ i
  nd_ : nd.kids.length ≤ i + 1
theorem pc8_some {l : List UInt8} {a : Nat} {k : Nat} : (∃ s b, piece8 l a k = some (s, b) ∧ pc8 l a k = (s, (b : Int))) ∨ (piece8 l a k = none ∧ pc8 l a k = (⟨#[]⟩, -1)) := by
  unfold pc8
  rw [if_neg (by omega), Int.toNat_natCast]
  cases h : piece8 l a k with
  | none => exact .inr ⟨rfl, rfl⟩
  | some x => exact .inl ⟨x.1, x.2, rfl, rfl⟩
theorem kc8_some {l : List UInt8} {a : Nat} : (∃ z b, kid8 l a = some (z, b) ∧ kc8 l a = (z, (b : Int))) ∨ (kid8 l a = none ∧ kc8 l a = (0, -1)) := by
  unfold kc8
  rw [if_neg (by omega), Int.toNat_natCast]
  cases h : kid8 l a with
  | none => exact .inr ⟨rfl, rfl⟩
  | some x => exact .inl ⟨x.1, x.2, rfl, rfl⟩
theorem pc8_neg {l : List UInt8} {k : Nat} : pc8 l (-1) k = (⟨#[]⟩, -1) := by unfold pc8; rw [if_pos (by decide)]
theorem kc8_neg {l : List UInt8} : kc8 l (-1) = (0, -1) := by unfold kc8; rw [if_pos (by decide)]
theorem Ls.stepL {l : List UInt8} {i : Nat} {nd : Nd} {a : Int} (h : Ls l true i nd a) (h0 : 0 ≤ a) :
    Ls l true (i + 1) ⟨true, nd.keys ++ [(pc8 l a 1).1], nd.vals ++ [(pc8 l (pc8 l a 1).2 2).1], nd.kids⟩ (pc8 l (pc8 l a 1).2 2).2 := by
  obtain ⟨n, rfl⟩ : ∃ n : Nat, a = n := ⟨a.toNat, by omega⟩
  have hi := h.here h0
  rw [Int.toNat_natCast] at hi
  have hst : it8 l (start8 l) (i + 1) = step8 l (nd, n) := by rw [it8, hi]; rfl
  have hle := pc8_le l (pc8 l n 1).2 2
  refine ⟨rfl, fun hp => ?_, fun hn => ?_, hle.1, hle.2, by simp; exact h.nk, by simp; exact h.nv, by have := h.nd_; show nd.kids.length ≤ _; omega⟩
  · rw [hst]
    unfold step8
    rcases pc8_some (l := l) (a := n) (k := 1) with ⟨s, b, e1, e2⟩ | ⟨e1, e2⟩
    · rw [e2] at hp ⊢
      simp only at hp ⊢
      rcases pc8_some (l := l) (a := b) (k := 2) with ⟨v, c, e3, e4⟩ | ⟨e3, e4⟩
      · rw [e4]; simp only [e1, h.leaf, if_true, e3, Int.toNat_natCast]
      · rw [e4] at hp; simp only at hp; omega
    · rw [e2] at hp; simp only [pc8_neg] at hp; omega
  · rw [hst]
    unfold step8
    rcases pc8_some (l := l) (a := n) (k := 1) with ⟨s, b, e1, e2⟩ | ⟨e1, e2⟩
    · rw [e2] at hn
      simp only at hn
      rcases pc8_some (l := l) (a := b) (k := 2) with ⟨v, c, e3, e4⟩ | ⟨e3, e4⟩
      · rw [e4] at hn; simp only at hn; omega
      · simp only [e1, h.leaf, if_true, e3]
    · simp only [e1]
theorem Ls.stepK {l : List UInt8} {i : Nat} {nd : Nd} {a : Int} (h : Ls l false i nd a) (h0 : 0 ≤ a) :
    Ls l false (i + 1) ⟨false, nd.keys ++ [(pc8 l a 1).1], nd.vals, nd.kids ++ [(kc8 l (pc8 l a 1).2).1]⟩ (kc8 l (pc8 l a 1).2).2 := by
  obtain ⟨n, rfl⟩ : ∃ n : Nat, a = n := ⟨a.toNat, by omega⟩
  have hi := h.here h0
  rw [Int.toNat_natCast] at hi
  have hst : it8 l (start8 l) (i + 1) = step8 l (nd, n) := by rw [it8, hi]; rfl
  have hle := kc8_le l (pc8 l n 1).2
  refine ⟨rfl, fun hp => ?_, fun hn => ?_, hle.1, hle.2, by simp; exact h.nk, by have := h.nv; show nd.vals.length ≤ _; omega, by simp; exact h.nd_⟩
  · rw [hst]
    unfold step8
    rcases pc8_some (l := l) (a := n) (k := 1) with ⟨s, b, e1, e2⟩ | ⟨e1, e2⟩
    · rw [e2] at hp ⊢
      simp only at hp ⊢
      rcases kc8_some (l := l) (a := b) with ⟨v, c, e3, e4⟩ | ⟨e3, e4⟩
      · rw [e4]; simp only [e1, h.leaf, Bool.false_eq_true, if_false, e3, Int.toNat_natCast]
      · rw [e4] at hp; simp only at hp; omega
    · rw [e2] at hp; simp only [kc8_neg] at hp; omega
  · rw [hst]
    unfold step8
    rcases pc8_some (l := l) (a := n) (k := 1) with ⟨s, b, e1, e2⟩ | ⟨e1, e2⟩
    · rw [e2] at hn
      simp only at hn
      rcases kc8_some (l := l) (a := b) with ⟨v, c, e3, e4⟩ | ⟨e3, e4⟩
      · rw [e4] at hn; simp only at hn; omega
      · simp only [e1, h.leaf, Bool.false_eq_true, if_false, e3]
    · simp only [e1]
end Go.Proofs.Ytcmghbglnkfbaaa
