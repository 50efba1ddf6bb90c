/- Layer 2: readWord; where a nought stands. -/
import Derived.Test.YtcebhoilokmhdaaTupDec
import Derived.Test.YtcebhoilokmhdaaTupDecM
namespace Go.Proofs.Ytcebhoilokmhdaa
open Go.RowKit
set_option linter.unusedVariables false

set_option maxRecDepth 100000 in
set_option maxHeartbeats 400000 in
theorem readWord_any (S : ByteArray) (l : List UInt8) (hS : S = ⟨l.toArray⟩) (hl : 8 ≤ l.length) (w : World) :
    Calls Try.prog 72 #[.string S] w fun r w' => r = .returned (.int .u64 (num 8 l 0)) ∧ w = w' := by
  have hsz : S.size = l.length := by rw [hS]; simp [ByteArray.size]
  have HS := Lib.hid hS
  have h8 : (8 : Int) ≤ S.size := by omega
  have HL := Lib.hid hl
  have HZ := Lib.hid hsz
  clear hS hsz hl
  go_enter Try.func72, Try.ntmps72
  go_wp2
  go_loop [3, 5] (fun u i => ∃ j : Nat, j ≤ 8 ∧ i = .int .i64 j ∧ u = .int .u64 (num j l 0)) (fun _ i => 8 - (intOf i).toNat)
  case atStart => exact ⟨0, Nat.zero_le _, by go_num, by rw [num_zero]; rfl⟩
  case round =>
    obtain ⟨j, hj, rfl, rfl⟩ := hrel
    by_cases hlt : j < 8
    · have hn2 := num_lt (j + 1) l 0
      have hp : 256 ^ (j + 1) ≤ 18446744073709551616 := by
        have : 256 ^ (j + 1) ≤ 256 ^ 8 := Nat.pow_le_pow_right (by decide) (by omega)
        simpa using this
      have hns := num_step S l HS.out 0 j (by have := HZ.out; have := HL.out; omega) (by have := HL.out; omega) (by omega)
      simp only [Nat.zero_add] at hns
      have HN := Lib.hid hns
      have HJ := Lib.hid (show j + 1 ≤ 8 from hlt)
      have hx : (j : Int) < S.size := by omega
      have hx0 : (0 : Int) ≤ (j : Int) := by omega
      clear hn2 hp hns
      go_wp2
      go_round
      case rel => exact ⟨j + 1, by omega, by go_num, congrArg (Value.int .u64) HN.out⟩
      case measure => simp [intOf]; have := HJ.out; omega
    · obtain rfl : j = 8 := by omega
      go_wp2
      go_ret
      exact ⟨rfl, rfl⟩
end Go.Proofs.Ytcebhoilokmhdaa
