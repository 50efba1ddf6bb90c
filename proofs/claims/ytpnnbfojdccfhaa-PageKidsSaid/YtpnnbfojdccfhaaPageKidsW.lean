/- The walk of ambrylaw08.PageKids: all ways. -/
import Derived.Test.YtpnnbfojdccfhaaPkC
namespace Go.Proofs.Ytpnnbfojdccfhaa
open Go.RowKit
set_option linter.unusedVariables false
set_option maxRecDepth 100000

theorem pageKids_walk (v : Value) (n : Nd) (key : ByteArray) (kid : Int) (w : World) (hv : NodeV w w.heap.size v n) (hb : (∀ s ∈ n.keys, s.size ≤ 140737488351232) ∧ ∀ s ∈ n.vals, s.size ≤ 140737488351232) (hkz : key.size ≤ 140737488351232) (hwf : (Lit.int .i64 kid).wf = true) :
    Calls Try.prog 8 #[v, .string key, .int .i64 kid] w fun e w' => e = .returned (.bool true) ∧ Below w.heap.size w w' := by
  obtain ⟨A1, c1, A2, c2, A3, c3, rfl, hno, k1, k2, k3⟩ := hv.no2 (Nat.le_refl _)
  cases hfw : few8 n with
  | false => exact pageKids_few n key kid w A1 c1 A2 c2 A3 c3 hfw
  | true =>
    have hf := few8_yes hfw hb.1 hb.2
    cases hlf : n.leaf with
    | true => exact pageKids_leaf n key kid w A1 c1 A2 c2 A3 c3 hfw hlf
    | false =>
      by_cases hc : check8 n = 0
      · have hs : Stands8 n := by
          by_cases h : st8 n = true
          · exact st8_of h
          · unfold check8 at hc; rw [if_neg h] at hc; cases hc
        by_cases h0 : kid < 0
        · exact pageKids_neg n key kid w A1 c1 A2 c2 A3 c3 hfw hlf hno hf hc h0
        · by_cases h1 : 16384 ≤ kid
          · exact pageKids_big n key kid w A1 c1 A2 c2 A3 c3 hfw hlf hno hf hc h1
          · by_cases h2 : 128 < key.size
            · exact pageKids_long n key kid w A1 c1 A2 c2 A3 c3 hfw hlf hno hf hc (by omega) (by omega) h2
            · exact pageKids_t n key kid w A1 c1 A2 c2 A3 c3 hfw hlf hno k1 k3 hf hs hc (by omega) (by omega) (by omega)
      · exact pageKids_wrong n key kid w A1 c1 A2 c2 A3 c3 hfw hlf hno hf hc
end Go.Proofs.Ytpnnbfojdccfhaa
