/- The walk of ambrylaw08.PagePut. -/
import Derived.Test.YtpnnbfojdccfhaaPgT
import Derived.Test.YtpnnbfojdccfhaaPageWritesW
namespace Go.Proofs.Ytpnnbfojdccfhaa
open Go.RowKit
set_option linter.unusedVariables false
set_option maxRecDepth 100000

theorem few8_of {n : Nd} (hs : Stands8 n) (hl : n.leaf = true) (h : n.keys.length ≤ 2000) : Few8 n := by
  obtain ⟨h1, h2, h3, h4, h5⟩ := (stands_leaf2 hl).1 hs
  exact ⟨h, by omega, by rw [h5]; simp, fun s hs => Nat.le_trans (h1 s hs) (by decide), fun s hs => Nat.le_trans (h3 s hs) (by decide)⟩
theorem same_nil (w : World) : Calls Try.prog 11 #[.agg #[.bool false, .slice none 0 0, .slice none 0 0, .slice none 0 0], .agg #[.bool false, .slice none 0 0, .slice none 0 0, .slice none 0 0]] w fun e w' => e = .returned (.bool true) ∧ Turn (fun _ => False) w w' :=
  refSame_any nil8 none 0 none 0 none 0 none 0 none 0 none 0 w ⟨sr_nil _ _, sr_nil _ _, nr_nil _ _⟩ ⟨sr_nil _ _, sr_nil _ _, nr_nil _ _⟩ (by decide) (by decide) (by decide)
theorem few_drop {n : Nd} (h : Few8 n) (P : Nat) : Few8 (drop8 n P) := by
  have hl : ∀ (L : List ByteArray) (a g : Nat), (chg8 L a g []).length ≤ L.length := fun L a g => by unfold chg8; simp only [List.length_append, List.length_take, List.length_drop, List.length_nil]; omega
  have hm : ∀ (L : List ByteArray) (a g : Nat) (s : ByteArray), s ∈ chg8 L a g [] → s ∈ L := fun L a g s hs => by
    rcases mem_chg.1 hs with h | h | h
    · exact List.mem_of_mem_take h
    · cases h
    · exact List.mem_of_mem_drop h
  exact ⟨Nat.le_trans (hl _ _ _) h.nk, Nat.le_trans (hl _ _ _) h.nv, by show 0 ≤ 2000; omega, fun s hs => h.ks s (hm _ _ _ _ hs), fun s hs => h.vs s (hm _ _ _ _ hs)⟩
end Go.Proofs.Ytpnnbfojdccfhaa
