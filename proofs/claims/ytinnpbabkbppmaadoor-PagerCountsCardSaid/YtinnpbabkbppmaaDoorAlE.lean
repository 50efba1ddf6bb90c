/- Layer 7: how many bits of a word are set. -/
import Derived.Test.YtinnpbabkbppmaaDoorAlD
import Derived.Laws.BitsAllLaws
namespace Go.Proofs.YtinnpbabkbppmaaDoor
open Go.RowKit
set_option linter.unusedVariables false
set_option maxRecDepth 100000

theorem shr_int (x s : Nat) : ((x / s : Nat) : Int) = (x : Int) / (s : Int) := by simp
theorem ones_steps (x : Nat) (hx : x < 18446744073709551616) : ∃ a1 a2 y1 b1 b2 y2 c1 y3 y4 y5 y6 : Nat,
    bits .and .u64 ((x : Int) / 2) 6148914691236517205 = (a1 : Int) ∧ bits .and .u64 (x : Int) 6148914691236517205 = (a2 : Int) ∧ IntKind.u64.wrap ((a1 : Int) + (a2 : Int)) = (y1 : Int) ∧
    bits .and .u64 ((y1 : Int) / 4) 3689348814741910323 = (b1 : Int) ∧ bits .and .u64 (y1 : Int) 3689348814741910323 = (b2 : Int) ∧ IntKind.u64.wrap ((b1 : Int) + (b2 : Int)) = (y2 : Int) ∧
    IntKind.u64.wrap ((y2 : Int) / 16 + (y2 : Int)) = (c1 : Int) ∧ bits .and .u64 (c1 : Int) 1085102592571150095 = (y3 : Int) ∧
    IntKind.u64.wrap ((y3 : Int) + (y3 : Int) / 256) = (y4 : Int) ∧ IntKind.u64.wrap ((y4 : Int) + (y4 : Int) / 65536) = (y5 : Int) ∧ IntKind.u64.wrap ((y5 : Int) + (y5 : Int) / 4294967296) = (y6 : Int) ∧
    y6 < 9223372036854775808 ∧ y6 % 128 = Lib.popAux 64 x := by
  obtain ⟨y4, y5, y6, k4, k5, k6, l4, l5, l6, kp⟩ := dsum_pop x
  obtain ⟨hC, hm⟩ := pop_all 8 x
  have m1 : msk 85 8 = 6148914691236517205 := by decide
  have m2 : msk 51 8 = 3689348814741910323 := by decide
  have m3 : msk 15 8 = 1085102592571150095 := by decide
  have a1b : x / 2 &&& msk 85 8 ≤ 6148914691236517205 := by rw [← m1]; exact Nat.and_le_right
  have a2b : x &&& msk 85 8 ≤ 6148914691236517205 := by rw [← m1]; exact Nat.and_le_right
  have eA : popA 8 x = (x / 2 &&& msk 85 8) + (x &&& msk 85 8) := rfl
  have y1b : popA 8 x < 18446744073709551616 := by rw [eA]; omega
  have b1b : popA 8 x / 4 &&& msk 51 8 ≤ 3689348814741910323 := by rw [← m2]; exact Nat.and_le_right
  have b2b : popA 8 x &&& msk 51 8 ≤ 3689348814741910323 := by rw [← m2]; exact Nat.and_le_right
  have eB : popB 8 (popA 8 x) = (popA 8 x / 4 &&& msk 51 8) + (popA 8 x &&& msk 51 8) := rfl
  have y2b : popB 8 (popA 8 x) ≤ 7378697629483820646 := by rw [eB]; omega
  have eC : popC 8 (popB 8 (popA 8 x)) = popB 8 (popA 8 x) / 16 + popB 8 (popA 8 x) &&& msk 15 8 := rfl
  refine ⟨x / 2 &&& msk 85 8, x &&& msk 85 8, popA 8 x, popA 8 x / 4 &&& msk 51 8, popA 8 x &&& msk 51 8, popB 8 (popA 8 x), popB 8 (popA 8 x) / 16 + popB 8 (popA 8 x), dsum 8 x, y4, y5, y6, ?_, ?_, ?_, ?_, ?_, ?_, ?_, ?_, ?_, ?_, ?_, l6, kp⟩
  · have := bits_and_u64_nat (x / 2) (msk 85 8) (by omega) (by rw [m1]; decide)
    rw [← this, m1]; simp
  · have := bits_and_u64_nat x (msk 85 8) hx (by rw [m1]; decide)
    rw [← this, m1]; simp
  · rw [eA, IntKind.wrap_u64]; omega
  · have := bits_and_u64_nat (popA 8 x / 4) (msk 51 8) (by omega) (by rw [m2]; decide)
    rw [← this, m2]; simp
  · have := bits_and_u64_nat (popA 8 x) (msk 51 8) y1b (by rw [m2]; decide)
    rw [← this, m2]; simp
  · rw [eB, IntKind.wrap_u64]; omega
  · rw [IntKind.wrap_u64]; omega
  · have := bits_and_u64_nat (popB 8 (popA 8 x) / 16 + popB 8 (popA 8 x)) (msk 15 8) (by omega) (by rw [m3]; decide)
    rw [← hC, eC, ← this, m3]; simp
  · rw [IntKind.wrap_u64]; omega
  · rw [IntKind.wrap_u64]; omega
  · rw [IntKind.wrap_u64]; omega
theorem and127 (y : Nat) (h : y < 9223372036854775808) : bits .and .i64 (y : Int) 127 = ((y % 128 : Nat) : Int) := by
  have h1 : (BitVec.ofInt 64 (y : Int)).toNat = y := by
    rw [BitVec.ofInt_natCast, BitVec.toNat_ofNat]; exact Nat.mod_eq_of_lt (by omega)
  have h2 : (BitVec.ofInt 64 (127 : Int)).toNat = 127 := by decide
  have h3 : y &&& 127 = y % 128 := Nat.and_two_pow_sub_one_eq_mod y 7
  show IntKind.i64.wrap ((BitVec.ofInt 64 (y : Int) &&& BitVec.ofInt 64 (127 : Int)).toNat : Int) = _
  rw [BitVec.toNat_and, h1, h2, h3, IntKind.wrap_i64]
  omega
set_option maxHeartbeats 1000000 in
theorem onesCount7 (x : Nat) (hx : x < 18446744073709551616) (w : World) :
    Calls Tryd.prog 74 #[.int .u64 x] w fun e w' => e = .returned (.int .i64 (Lib.popAux 64 x)) ∧ w' = w := by
  obtain ⟨a1, a2, y1, b1, b2, y2, c1, y3, y4, y5, y6, e1, e2, e3, e4, e5, e6, e7, e8, e9, e10, e11, l6, kp⟩ := ones_steps x hx
  have e12 := and127 y6 l6
  rw [kp] at e12
  have e13 := wrap_of (y6 : Int) (by omega) (by omega)
  generalize Lib.popAux 64 x = r at *
  clear kp
  go_enter Tryd.func74, Tryd.ntmps74
  go_wp2
  go_ret
  exact ⟨rfl, rfl⟩
end Go.Proofs.YtinnpbabkbppmaaDoor
