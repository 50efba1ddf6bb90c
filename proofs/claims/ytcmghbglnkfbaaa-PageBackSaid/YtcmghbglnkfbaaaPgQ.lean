/- Layer 8: changed. -/
import Derived.Test.YtcmghbglnkfbaaaPgP
namespace Go.Proofs.Ytcmghbglnkfbaaa
open Go.RowKit
set_option linter.unusedVariables false
set_option maxRecDepth 100000

def chg8 (L : List ByteArray) (at_ gone : Nat) (M : List ByteArray) : List ByteArray := L.take at_ ++ M ++ L.drop (at_ + gone)
def off8 (A : Option Addr) (c q : Nat) : Option Addr := match A with
  | none => none
  | some ad => if c = q then some ad else some (ad.add q)
theorem Sr.take {w : World} {A : Option Addr} {L : List ByteArray} (h : Sr w A L) (q : Nat) : Sr w A (L.take q) := fun hp => by
  have hl : 0 < L.length := by rw [List.length_take] at hp; omega
  obtain ⟨b, o, e, hb, hc⟩ := h hl
  refine ⟨b, o, e, hb, fun X hX j s hj => hc X hX j s ?_⟩
  rw [List.getElem?_take] at hj
  split at hj
  · exact hj
  · cases hj
theorem Sr.drop {w : World} {A : Option Addr} {L : List ByteArray} {c : Nat} (h : Sr w A L) (hc : L.length ≤ c) (q : Nat) : Sr w (off8 A c q) (L.drop q) := fun hp => by
  rw [List.length_drop] at hp
  obtain ⟨b, o, rfl, hb, hcc⟩ := h (by omega)
  refine ⟨b, o + q, ?_, hb, fun X hX j s hj => ?_⟩
  · unfold off8; simp only; rw [if_neg (by omega), Addr.add_mid]
  · rw [List.getElem?_drop] at hj
    have := hcc X hX (q + j) s hj
    rw [← Nat.add_assoc] at this; exact this
theorem Cp.take {A : Option Addr} {n c q : Nat} (h : Cp A n c) (hq : q ≤ n) : Cp A q c := ⟨Nat.le_trans hq h.le, h.cm, h.nil⟩
theorem Cp.drop {A : Option Addr} {n c q : Nat} (h : Cp A n c) (hq : q ≤ n) : Cp (off8 A c q) (n - q) (c - q) := by
  refine ⟨by have := h.le; omega, by have := h.cm; omega, fun e => ?_⟩
  cases A with
  | none => have := h.nil rfl; omega
  | some ad => unfold off8 at e; simp only at e; split at e <;> cases e
theorem catR3 (a b c : List ByteArray) (R : Nat → List ByteArray) (h0 : R 0 = a) (h1 : R 1 = b) (h2 : R 2 = c) : catR R 3 = a ++ b ++ c := by
  show ((([] : List ByteArray) ++ R 0) ++ R 1) ++ R 2 = _
  rw [h0, h1, h2, List.nil_append]
end Go.Proofs.Ytcmghbglnkfbaaa
