/- Layer 8: Read of whatever bytes, on both sides. -/
import Derived.Test.YtcmghbglnkfbaaaPgS5
namespace Go.Proofs.Ytcmghbglnkfbaaa
open Go.RowKit
set_option linter.unusedVariables false
set_option maxRecDepth 100000

theorem rd8_small (l : List UInt8) : Few8 (rd8 l).1 ∧ ((rd8 l).2 = 0 ∨ (rd8 l).2 = 4) ∧ ((rd8 l).2 = 0 → l.length = 1024 ∧ check8 (rd8 l).1 = 0 ∧ pgb (rd8 l).1 = l) ∧ ((rd8 l).2 = 4 → (rd8 l).1 = nd0) := by
  have h0 : Few8 nd0 := ⟨Nat.zero_le _, Nat.zero_le _, Nat.zero_le _, by simp [nd0], by simp [nd0]⟩
  by_cases hl : l.length = 1024
  · cases hr : read8 l with
    | none => rw [rd8_none hr]; exact ⟨h0, .inr rfl, (fun h => by simp at h), fun _ => rfl⟩
    | some n =>
      by_cases hc : check8 n = 0
      · by_cases hp : pgb n = l
        · rw [rd8_ok hl hr hc hp]
          exact ⟨read8_few (by omega) hr, .inl rfl, fun _ => ⟨hl, hc, hp⟩, fun h => by simp at h⟩
        · rw [rd8_bad hr (.inr hp)]; exact ⟨h0, .inr rfl, (fun h => by simp at h), fun _ => rfl⟩
      · rw [rd8_bad hr (.inl hc)]; exact ⟨h0, .inr rfl, (fun h => by simp at h), fun _ => rfl⟩
  · rw [rd8_len hl]; exact ⟨h0, .inr rfl, (fun h => by simp at h), fun _ => rfl⟩
/-- What is read of a right node's bytes is the node. -/
theorem rd8_pgb {n : Nd} (h : check8 n = 0) : rd8 (pgb n) = (n, 0) := rd8_ok (len_pgb h) (read_is h) h rfl
theorem read_any (B : Nat) (v : Value) (l : List UInt8) (w : World) (hA : Sl w B v l) (hB : B ≤ w.heap.size) :
    Calls Try.prog 5 #[v] w fun e w' => ∃ A1 c1 A2 c2 A3 c3, e = .returned (.tuple #[nv8 A1 c1 A2 c2 A3 c3 (rd8 l).1, .int .i64 ((rd8 l).2 : Nat)]) ∧ No w' A1 c1 A2 c2 A3 c3 (rd8 l).1 ∧ Turn (fun _ => False) w w' := by
  by_cases hl : l.length = 1024
  · exact read_1024 B v l w hA hB hl
  · obtain ⟨A, cap, rfl, _⟩ := hA
    refine (read_len A l.length cap hl w).mono fun e w' ⟨h1, h2⟩ => ?_
    rw [rd8_len hl]
    exact ⟨none, 0, none, 0, none, 0, h1, ⟨sr_nil _ _, sr_nil _ _, nr_nil _ _⟩, h2⟩
theorem refRead_any (S : ByteArray) (l : List UInt8) (hS : S = ⟨l.toArray⟩) (w : World) :
    Calls Try.prog 6 #[.string S] w fun e w' => ∃ A1 c1 A2 c2 A3 c3, e = .returned (.tuple #[nv8 A1 c1 A2 c2 A3 c3 (rd8 l).1, .int .i64 ((rd8 l).2 : Nat)]) ∧ No w' A1 c1 A2 c2 A3 c3 (rd8 l).1 ∧ Turn (fun _ => False) w w' := by
  by_cases hl : l.length = 1024
  · by_cases h0 : l[0]? = some 76
    · exact refReadL S l hS hl h0 w
    · exact refReadK S l hS hl h0 w
  · have hs : S.size ≠ 1024 := by rw [hS, ba_sz]; exact hl
    refine (refRead_len S hs w).mono fun e w' ⟨h1, h2⟩ => ?_
    rw [rd8_len hl]
    exact ⟨none, 0, none, 0, none, 0, h1, ⟨sr_nil _ _, sr_nil _ _, nr_nil _ _⟩, h2⟩
end Go.Proofs.Ytcmghbglnkfbaaa
