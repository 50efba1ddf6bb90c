/- Layer 5: rows of slots, and whether two are the same. -/
import Derived.Test.YthhmodbggngelaaSltN
namespace Go.Proofs.Ythhmodbggngelaa
open Go.RowKit
set_option linter.unusedVariables false
set_option maxRecDepth 100000

/-- A slice that reads as these slots, from its block's beginning on. -/
def Row5 (w : World) (v : Value) (R : List St) : Prop :=
  ∃ A cap, v = .slice A R.length cap ∧ (0 < R.length → ∃ b, A = some ⟨b, 0, none⟩ ∧ b < w.heap.size ∧ ∀ j s, R[j]? = some s → ∀ i, i < 5 → w.cell? ⟨b, j * 5 + i, none⟩ = (scells s)[i]?)
theorem Row5.nil (w : World) (A : Option Addr) (cap : Nat) : Row5 w (.slice A 0 cap) [] := ⟨A, cap, rfl, fun h => absurd h (by simp)⟩
theorem Row5.own {w : World} {base n : Nat} {v : Value} {R : List St} (h : w.ownsRow base 81 5 v n (R.flatMap scells)) (hn : R.length = n) : Row5 w v R := by
  rcases h.2 with ⟨rfl, h0⟩ | ⟨b, cap, cur, rfl, _, hh, _, _, _, ht⟩
  · exact ⟨none, 0, by rw [hn, h0], fun hp => by omega⟩
  · exact ⟨_, _, by rw [hn], fun _ => ⟨b, rfl, (Array.getElem?_eq_some_iff.1 hh).1, fun j s hj i hi => row5_cell hh ht hn j s hj i hi⟩⟩
theorem Row5.below {w w' : World} {v : Value} {R : List St} (h : Row5 w v R) {B : Nat} (hb : Below B w w') (hB : w.heap.size ≤ B) : Row5 w' v R := by
  obtain ⟨A, cap, rfl, hr⟩ := h
  refine ⟨A, cap, rfl, fun hp => ?_⟩
  obtain ⟨b, rfl, hlt, hc⟩ := hr hp
  refine ⟨b, rfl, Nat.lt_of_lt_of_le hlt (by have := hb.size; omega), fun j s hj i hi => ?_⟩
  rw [← hc j s hj i hi]
  exact hb.cell (p := ⟨b, j * 5 + i, none⟩) (by show b < B; omega)
theorem bytes_same5 (S : ByteArray) : (S.toList == S.toList) = true := by simp
end Go.Proofs.Ythhmodbggngelaa
