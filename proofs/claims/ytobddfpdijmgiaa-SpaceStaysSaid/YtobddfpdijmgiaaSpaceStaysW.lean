/- SpaceStays, its walk in the frame's words. -/
import Derived.Test.YtobddfpdijmgiaaSpBk
namespace Go.Proofs.Ytobddfpdijmgiaa
open Go.RowKit Go.Shelf
theorem spaceStays_walk (v : Value) (qs : List Ac14) (v2 : Value) (ms : List Ac14) (t : Int) (fa fb : ByteArray) (w : World) (hA : Acts14 w v qs) (hz : ∀ q ∈ qs, q.L.length ≤ 140737488351232) (hA2 : Acts14 w v2 ms) (hz2 : ∀ q ∈ ms, q.L.length ≤ 140737488351232) (h3 : (Lit.int .i64 t).wf = true) (ha : fa.size ≤ 140737488351232) (hb : fb.size ≤ 140737488351232) :
    Calls Try.prog 4 #[v, v2, .int .i64 t, .string fa, .string fb] w fun r w' => r = .returned (.bool true) ∧ Below w.heap.size w w' := by
  obtain ⟨A, c, rfl, _⟩ := id hA
  obtain ⟨A2, c2, rfl, _⟩ := id hA2
  exact (spaceStays_of fa fb t A _ c qs A2 _ c2 ms w hA hA2 hz hz2 ha hb).mono fun e w' ⟨he, ht⟩ => ⟨he, ht.below (Nat.le_refl _) (fun _ h => h.elim)⟩
end Go.Proofs.Ytobddfpdijmgiaa
