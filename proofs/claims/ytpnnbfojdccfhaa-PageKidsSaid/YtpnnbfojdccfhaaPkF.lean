/- The walk of ambrylaw08.PageKids: the node that is made has few parts. -/
import Derived.Test.YtpnnbfojdccfhaaPkB
namespace Go.Proofs.Ytpnnbfojdccfhaa
open Go.RowKit
set_option linter.unusedVariables false
set_option linter.unusedSimpArgs false
set_option maxRecDepth 100000

theorem mk_few {n : Nd} {i : Nat} {key : ByteArray} {kid : Int} (hf : Few8 n) (h1 : n.keys.length ≤ 1900) (h2 : n.kids.length ≤ 1900) (hkz : key.size ≤ 128) : Few8 (mk8 n i key kid) := by
  refine ⟨?_, by show 0 ≤ 2000; omega, ?_, fun s hm => ?_, fun s hm => by cases hm⟩
  · show (n.keys.take i ++ [key] ++ n.keys.drop i).length ≤ 2000
    simp only [List.length_append, List.length_take, List.length_drop, List.length_cons, List.length_nil]; omega
  · show (n.kids.take (i + 1) ++ [kid] ++ n.kids.drop (i + 1)).length ≤ 2000
    simp only [List.length_append, List.length_take, List.length_drop, List.length_cons, List.length_nil]; omega
  · have hm2 : s ∈ n.keys.take i ++ [key] ++ n.keys.drop i := hm
    simp only [List.mem_append, List.mem_singleton] at hm2
    rcases hm2 with (h | h) | h
    · exact hf.ks s (List.mem_of_mem_take h)
    · subst h; omega
    · exact hf.ks s (List.mem_of_mem_drop h)
end Go.Proofs.Ytpnnbfojdccfhaa
