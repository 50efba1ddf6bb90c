/- The walk of ambrylaw08.PageHalves: all ways. -/
import Derived.Test.YtpnnbfojdccfhaaPhC
import Derived.Test.YtpnnbfojdccfhaaPhD
namespace Go.Proofs.Ytpnnbfojdccfhaa
open Go.RowKit
set_option linter.unusedVariables false
set_option maxRecDepth 100000

theorem pageHalves_walk (v : Value) (n : Nd) (key val : ByteArray) (w : World) (hv : NodeV w w.heap.size v n) (hb : (∀ s ∈ n.keys, s.size ≤ 140737488351232) ∧ ∀ s ∈ n.vals, s.size ≤ 140737488351232) (hkz : key.size ≤ 140737488351232) (hvz : val.size ≤ 140737488351232) :
    Calls Try.prog 7 #[v, .string key, .string val] w fun e w' => e = .returned (.bool true) ∧ Below w.heap.size w w' := by
  obtain ⟨A1, c1, A2, c2, A3, c3, rfl, hno, k1, k2, _⟩ := hv.no2 (Nat.le_refl _)
  cases hfw : few8 n with
  | false => exact pageHalves_few n key val w A1 c1 A2 c2 A3 c3 hfw
  | true =>
    have hf := few8_yes hfw hb.1 hb.2
    cases hlf : n.leaf with
    | false => exact pageHalves_kids n key val w A1 c1 A2 c2 A3 c3 hfw hlf
    | true =>
      by_cases hc : check8 n = 0
      · cases hp : pok8 n key val with
        | false => exact pageHalves_long n key val hkz hvz w A1 c1 A2 c2 A3 c3 hfw hlf hno hf hc hp
        | true =>
          by_cases hM : (put8 n (find8 n key).1 (gone8 (find8 n key).2) key val).keys.length ≤ 1
          · exact pageHalves_one n key val w A1 c1 A2 c2 A3 c3 hfw hlf hno k1 k2 hf hc hp hM
          · by_cases hz : 1024 < size8 (put8 n (find8 n key).1 (gone8 (find8 n key).2) key val)
            · exact pageHalves_big n key val w A1 c1 A2 c2 A3 c3 hfw hlf hno k1 k2 hf hc hp (by omega) hz
            · exact pageHalves_small n key val w A1 c1 A2 c2 A3 c3 hfw hlf hno k1 k2 hf hc hp (by omega) hz
      · exact pageHalves_wrong n key val w A1 c1 A2 c2 A3 c3 hfw hlf hno hf hc
end Go.Proofs.Ytpnnbfojdccfhaa
