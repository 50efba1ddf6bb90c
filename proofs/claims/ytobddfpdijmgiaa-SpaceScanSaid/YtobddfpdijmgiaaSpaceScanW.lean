/- SpaceScan, its walk in the frame's words. -/
import Derived.Test.YtobddfpdijmgiaaSpBm
namespace Go.Proofs.Ytobddfpdijmgiaa
open Go.RowKit Go.Shelf
theorem spaceScan_walk (v : Value) (qs : List Ac14) (fa fb : ByteArray) (t most : Int) (w : World) (hA : Acts14 w v qs) (hz : ∀ q ∈ qs, q.L.length ≤ 140737488351232) (ha : fa.size ≤ 140737488351232) (hb : fb.size ≤ 140737488351232) (h3 : (Lit.int .i64 t).wf = true) (h4 : (Lit.int .i64 most).wf = true) :
    Calls Try.prog 6 #[v, .string fa, .string fb, .int .i64 t, .int .i64 most] w fun r w' => r = .returned (.bool true) ∧ Below w.heap.size w w' := by
  obtain ⟨A, c, rfl, _⟩ := id hA
  exact (spaceScan_of fa fb t most A _ c qs w hA hz ha hb).mono fun e w' ⟨he, ht⟩ => ⟨he, ht.below (Nat.le_refl _) (fun _ h => h.elim)⟩
end Go.Proofs.Ytobddfpdijmgiaa
