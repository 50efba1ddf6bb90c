/- The walk of ambrylaw08.PagePut: all ways. -/
import Derived.Test.YtjjjacmpccimkaaPpB
import Derived.Test.YtjjjacmpccimkaaPpC
import Derived.Test.YtjjjacmpccimkaaPpD
namespace Go.Proofs.Ytjjjacmpccimkaa
open Go.RowKit
set_option linter.unusedVariables false
set_option maxRecDepth 100000

set_option maxHeartbeats 1000000 in
theorem pagePut_walk (v : Value) (n : Nd) (key val other : ByteArray) (w : World) (hv : NodeV w w.heap.size v n) (hb : (∀ s ∈ n.keys, s.size ≤ 140737488351232) ∧ ∀ s ∈ n.vals, s.size ≤ 140737488351232) (hkz : key.size ≤ 140737488351232) (hvz : val.size ≤ 140737488351232) (hoz : other.size ≤ 140737488351232) :
    Calls Try.prog 10 #[v, .string key, .string val, .string other] w fun e w' => e = .returned (.bool true) ∧ Below w.heap.size w w' := by
  obtain ⟨A1, c1, A2, c2, A3, c3, rfl, hno, k1, k2, _⟩ := hv.no2 (Nat.le_refl _)
  cases hfw : few8 n with
  | false => exact pagePut_few (.bool true) n key val other w A1 c1 A2 c2 A3 c3 hfw
  | true =>
    have hf := few8_yes hfw hb.1 hb.2
    cases hp : pok8 n key val with
    | false => exact pagePut_bad n key val other hkz hvz w A1 c1 A2 c2 A3 c3 hfw hno hf hp
    | true =>
      by_cases ho : other = key
      · exact pagePut_same n key val other w A1 c1 A2 c2 A3 c3 hfw hno k1 k2 hf hp ho
      · cases hfo : (find8 n other).2 with
        | false => exact pagePut_not n key val other w A1 c1 A2 c2 A3 c3 hfw hno k1 k2 hf hp ho hfo
        | true => exact pagePut_there n key val other w A1 c1 A2 c2 A3 c3 hfw hno k1 k2 hf hp ho hfo
end Go.Proofs.Ytjjjacmpccimkaa
