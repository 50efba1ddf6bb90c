/- Layer 8: the document's piece and kid, whatever the place. -/
import Derived.Test.YtcmghbglnkfbaaaPgRb
import Derived.Test.YtcmghbglnkfbaaaPgRc
namespace Go.Proofs.Ytcmghbglnkfbaaa
open Go.RowKit
set_option linter.unusedVariables false
set_option linter.unusedSimpArgs false
set_option maxRecDepth 100000

/-- What the document's piece tells: bytes, and the place behind; below 0: none. -/
def pc8 (l : List UInt8) (a : Int) (k : Nat) : ByteArray × Int :=
  if a < 0 then (⟨#[]⟩, -1) else
  match piece8 l a.toNat k with
  | some (s, b) => (s, (b : Int))
  | none => (⟨#[]⟩, -1)
def kc8 (l : List UInt8) (a : Int) : Int × Int :=
  if a < 0 then (0, -1) else
  match kid8 l a.toNat with
  | some (z, b) => (z, (b : Int))
  | none => (0, -1)
theorem refPiece_any (S : ByteArray) (l : List UInt8) (hS : S = ⟨l.toArray⟩) (hl : l.length ≤ 100000) (a : Int) (ha : a ≤ 1000000) (k : Nat) (hk : k ≤ 4) (w : World) :
    Calls Try.prog 17 #[.string S, .int .i64 a, .int .i64 k] w fun e w' => e = .returned (.tuple #[.string (pc8 l a k).1, .int .i64 (pc8 l a k).2]) ∧ w = w' := by
  have hsz : S.size = l.length := by rw [hS, ba_sz]
  by_cases h0 : a < 0
  · have : pc8 l a k = (⟨#[]⟩, -1) := by unfold pc8; rw [if_pos h0]
    rw [this]
    exact refPiece_no S (by omega) a k hk (.inl h0) w
  · obtain ⟨n, rfl⟩ : ∃ n : Nat, a = n := ⟨a.toNat, by omega⟩
    by_cases h1 : n + k ≤ l.length
    · by_cases h2 : n + k + num k l n ≤ l.length
      · have : pc8 l n k = (⟨((l.drop (n + k)).take (num k l n)).toArray⟩, ((n + k + num k l n : Nat) : Int)) := by
          unfold pc8 piece8; rw [if_neg h0, Int.toNat_natCast, if_pos h2]
        rw [this]
        exact refPiece_yes S l hS hl n k hk h2 w
      · have : pc8 l n k = (⟨#[]⟩, -1) := by unfold pc8 piece8; rw [if_neg h0, Int.toNat_natCast, if_neg h2]
        rw [this]
        exact refPiece_few S l hS hl n k hk h1 (by omega) w
    · have : pc8 l n k = (⟨#[]⟩, -1) := by unfold pc8 piece8; rw [if_neg h0, Int.toNat_natCast, if_neg (by omega)]
      rw [this]
      exact refPiece_no S (by omega) n k hk (.inr ⟨by omega, ha, by omega⟩) w
theorem refKid_any (S : ByteArray) (l : List UInt8) (hS : S = ⟨l.toArray⟩) (hl : l.length ≤ 100000) (a : Int) (ha : a ≤ 1000000) (w : World) :
    Calls Try.prog 16 #[.string S, .int .i64 a] w fun e w' => e = .returned (.tuple #[.int .i64 (kc8 l a).1, .int .i64 (kc8 l a).2]) ∧ w = w' := by
  have hsz : S.size = l.length := by rw [hS, ba_sz]
  by_cases h0 : a < 0
  · have : kc8 l a = (0, -1) := by unfold kc8; rw [if_pos h0]
    rw [this]
    exact refKid_no S (by omega) a (.inl h0) w
  · obtain ⟨n, rfl⟩ : ∃ n : Nat, a = n := ⟨a.toNat, by omega⟩
    by_cases h1 : n + 4 ≤ l.length
    · have : kc8 l n = ((num 4 l n : Int), ((n + 4 : Nat) : Int)) := by unfold kc8 kid8; rw [if_neg h0, Int.toNat_natCast, if_pos h1]
      rw [this]
      exact refKid_yes S l hS hl n h1 w
    · have : kc8 l n = (0, -1) := by unfold kc8 kid8; rw [if_neg h0, Int.toNat_natCast, if_neg h1]
      rw [this]
      exact refKid_no S (by omega) n (.inr ⟨by omega, ha, by omega⟩) w
/-- The place behind lies within the bytes, if there is one. -/
theorem pc8_le (l : List UInt8) (a : Int) (k : Nat) : (pc8 l a k).2 ≤ l.length ∧ -1 ≤ (pc8 l a k).2 := by
  unfold pc8 piece8
  split
  · simp only; omega
  · split
    · rename_i s b h
      split at h
      · injection h with h; injection h with h1 h2; subst h2; simp only; omega
      · cases h
    · simp only; omega
theorem kc8_le (l : List UInt8) (a : Int) : (kc8 l a).2 ≤ l.length ∧ -1 ≤ (kc8 l a).2 := by
  unfold kc8 kid8
  split
  · simp only; omega
  · split
    · rename_i s b h
      split at h
      · injection h with h; injection h with h1 h2; subst h2; simp only; omega
      · cases h
    · simp only; omega
end Go.Proofs.Ytcmghbglnkfbaaa
