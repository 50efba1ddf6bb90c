/- How a slice of texts that came in is opened. -/
import Derived.Test.YtjkfgbmlhglnfaaFrame
import Derived.SliceStrings
namespace Go.Proofs.Ytjkfgbmlhglnfaa
open Go.ChangeShapes Go.WideShapes Go.ChangeAt Go.RowKit
set_option linter.unusedVariables false

/-- A value that is a slice of these texts, all below block B. -/
def Strs (w : World) (B : Nat) (v : Value) (L : List ByteArray) : Prop := ∃ A cap, v = .slice A L.length cap ∧
  (0 < L.length → ∃ ad : Addr, A = some ad ∧ ad.spot = none ∧ ad.block < B ∧ ∀ (j : Nat) (s : ByteArray), L[j]? = some s → w.cell? (ad.add j) = some (.string s))
theorem open_strs {H : Type} {enc : TypeId × Value → H} {w : World} {base fuel : Nat} {A : Option Addr} {len cap : Nat} {d : DataW H} {p : List MemPlace}
    (h : DataW.trod enc Try.prog w base (fun _ => true) true fuel 43 [.slice A len cap] = some (d, p)) :
    ∃ L, Strs w w.heap.size (.slice A len cap) L := by
  rcases open_strings Try.underlying43 Try.underlying9 (by kernel_rfl) h with ⟨hcs, hx⟩ | ⟨x, l, c, ss, hcs, _, hl, hm, hz, hx, hcell, hw⟩
  · simp at hcs
    obtain ⟨rfl, rfl, rfl⟩ := hcs
    exact ⟨[], none, 0, rfl, fun h => absurd h (by simp)⟩
  · simp at hcs
    obtain ⟨rfl, rfl, rfl⟩ := hcs
    have hz' : ss.length = cap := by simpa using hz
    have hlen : (ss.take len).length = len := by simp; omega
    refine ⟨ss.take len, some x, cap, by rw [hlen], fun hp => ?_⟩
    have h0 := hcell 0 (by rw [hlen] at hp; omega)
    have hsp : x.spot = none := by
      have := World.cell?_spot h0
      rw [show x.add 0 = x from by simp [Addr.add]] at this
      exact this
    refine ⟨x, rfl, hsp, ?_, fun j z hj => ?_⟩
    · have := cell_lt h0
      rwa [block_add] at this
    · rw [List.getElem?_take] at hj
      split at hj
      · have hjl : j < ss.length := by omega
        rw [hcell j hjl]
        rw [List.getElem?_eq_getElem hjl] at hj
        cases hj
        simp [List.getElem?_eq_getElem hjl]
      · cases hj
theorem Strs.below {w w' : World} {B B' : Nat} {v : Value} {L : List ByteArray} (h : Strs w B v L) (hb : Below B' w w') (hB : B ≤ B') : Strs w' B v L := by
  obtain ⟨A, cap, rfl, hr⟩ := h
  refine ⟨A, cap, rfl, fun hp => ?_⟩
  obtain ⟨ad, e, hs, hlt, hc⟩ := hr hp
  refine ⟨ad, e, hs, hlt, fun j s hj => ?_⟩
  rw [← hc j s hj]
  exact hb.cell (by rw [block_add]; omega)
end Go.Proofs.Ytjkfgbmlhglnfaa
