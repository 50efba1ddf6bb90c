/- The walk of ambrylaw08.PageWrites. -/
import Derived.Test.YtpnnbfojdccfhaaPgN
namespace Go.Proofs.Ytpnnbfojdccfhaa
open Go.RowKit
set_option linter.unusedVariables false
set_option maxRecDepth 100000

/-- What a walk says of a call that changes nothing that stood. -/
theorem as_v {f : FuncId} {args : Array Value} {w : World} {x : Value} (h : Calls Try.prog f args w fun e w' => e = .returned x ∧ Turn (fun _ => False) w w') : Calls Try.prog f args w fun e w' => ∃ v, e = .returned v ∧ (v = x ∧ Turn (fun _ => False) w w') :=
  h.mono fun _ _ h => ⟨_, h.1, rfl, h.2⟩
theorem turn_below8 {w w' : World} (h : Turn (fun _ => False) w w') : Below w.heap.size w w' := ⟨h.os, h.tape, h.output, h.size, fun k hk => h.block k hk (fun h => h)⟩
end Go.Proofs.Ytpnnbfojdccfhaa
