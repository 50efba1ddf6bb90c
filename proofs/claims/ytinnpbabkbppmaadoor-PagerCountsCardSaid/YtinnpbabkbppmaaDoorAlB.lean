/- Layer 7: small calls: a page's place, an alloc's words. -/
import Derived.Test.YtinnpbabkbppmaaDoorAlA
import Derived.Test.YtinnpbabkbppmaaDoorKern
import Derived.OwnWalk
import Derived.Maps.AppendAt
namespace Go.Proofs.YtinnpbabkbppmaaDoor
open Go.RowKit
set_option linter.unusedVariables false
set_option maxRecDepth 100000

theorem pow_wrap (r : Nat) (hr : r < 64) : IntKind.u64.wrap ((2 : Int) ^ r) = ((2 ^ r : Nat) : Int) := by
  have h : 2 ^ r < 2 ^ 64 := Nat.pow_lt_pow_right (by decide) hr
  have e : ((2 : Int) ^ r) = ((2 ^ r : Nat) : Int) := by simp
  rw [IntKind.wrap_u64, e]
  generalize 2 ^ r = P at *
  have h2 : P < 18446744073709551616 := h
  omega
theorem place7 (i : Nat) (hi : i ≤ 16384) (w : World) :
    Calls Tryd.prog 75 #[.int .i64 i] w fun e w' => e = .returned (.tuple #[.int .i64 ((i / 64 : Nat) : Int), .int .u64 ((2 ^ (i % 64) : Nat) : Int)]) ∧ w' = w.drew := by
  have hlt : i % 64 < 64 := Nat.mod_lt _ (by decide)
  have e0 : (i : Int) % 64 = ((i % 64 : Nat) : Int) := by omega
  have e1 : (i : Int).tmod 64 = ((i % 64 : Nat) : Int) := by rw [Int.tmod_eq_emod_of_nonneg (by omega)]; rfl
  have e3 : ((i / 64 : Nat) : Int) = (i : Int) / 64 := by omega
  have e4 : (i : Int).tdiv 64 = (i : Int) / 64 := by rw [Int.tdiv_eq_ediv_of_nonneg (by omega)]
  rw [e3]
  generalize i % 64 = r at *
  have e2 := pow_wrap r hlt
  have e5 := wrap_of ((i : Int) / 64) (by omega) (by omega)
  have e6 := wrap_of (r : Int) (by omega) (by omega)
  generalize 2 ^ r = P at e2 ⊢
  go_enter Tryd.func75, Tryd.ntmps75
  go_wp2
  refine wp_region_still_lit (by kernel_rfl) (by kernel_rfl) ?_
  change wpStill _ _ (World.drew _) _ _ _
  repeat still_step
  refine wpStill_nil ?_
  change Exit.then _ _ _ _ (World.drew _)
  go_wp2
  go_ret2
  exact ⟨rfl, rfl⟩
/-- The table of the library. -/
def Tb (w : World) : Prop := ∀ j, j < 64 → w.cell? ⟨0, j, none⟩ = some (.int .u8 (Lib.deBruijn64tab.getD j 0))
theorem Tb.lt {w : World} (h : Tb w) : 0 < w.heap.size := cell_lt (h 0 (by decide))
theorem Tb.turn {S : Nat → Prop} {w w' : World} (h : Tb w) (ht : Turn S w w') (h0 : ¬ S 0) : Tb w' := fun j hj => (World.cell?_of_block (w := w) (ht.block 0 h.lt h0)).trans (h j hj)
theorem Tb.drew {w : World} (h : Tb w) : Tb w.drew := h
theorem tz7_zero (w : World) :
    Calls Tryd.prog 80 #[.int .u64 0] w fun e w' => e = .returned (.int .i64 64) ∧ w' = w := by
  go_enter Tryd.func80, Tryd.ntmps80
  go_wp2
  go_ret
  exact ⟨rfl, rfl⟩
set_option maxHeartbeats 1000000 in
theorem tz7_core (x k idx : Nat) (w : World) (hx0 : ((x : Int) == 0) = false)
    (key : IntKind.u64.wrap (bits BinOp.and IntKind.u64 (x : Int) (IntKind.u64.wrap (-(x : Int))) * 285870213051353865) / 288230376151711744 = (idx : Int))
    (hi : idx < 64) (hk : k < 64) (hcell : w.cell? ⟨0, idx, none⟩ = some (.int .u8 k)) :
    Calls Tryd.prog 80 #[.int .u64 x] w fun e w' => e = .returned (.int .i64 k) ∧ w' = w := by
  go_enter Tryd.func80, Tryd.ntmps80
  go_wp2_with (simp only [key])
  go_ret
  exact ⟨rfl, rfl⟩
theorem tz7_key (x a : Nat) (hx : x < 18446744073709551616) (hx0 : x ≠ 0) (hlow : x &&& (18446744073709551616 - x) = a) :
    IntKind.u64.wrap (bits BinOp.and IntKind.u64 (x : Int) (IntKind.u64.wrap (-(x : Int))) * 285870213051353865) / 288230376151711744 = ((a * 285870213051353865 % 18446744073709551616 / 288230376151711744 : Nat) : Int) := by
  have e1 : IntKind.u64.wrap (-(x : Int)) = ((18446744073709551616 - x : Nat) : Int) := by rw [IntKind.wrap_u64]; omega
  rw [e1, bits_and_u64_nat x _ hx (by omega), hlow, IntKind.wrap_u64]
  omega
theorem tz7 (x : Nat) (hx : x < 18446744073709551616) (w : World) (hT : Tb w) :
    Calls Tryd.prog 80 #[.int .u64 x] w fun e w' => e = .returned (.int .i64 (Lib.ctz 64 x)) ∧ w' = w := by
  by_cases hx0 : x = 0
  · subst hx0
    exact tz7_zero w
  · obtain ⟨hlow, hk⟩ := Lib.lowest_bit 64 x hx0 hx
    obtain ⟨hi, htab⟩ := Lib.deBruijn64_at _ hk
    have hcell := hT _ hi
    rw [htab] at hcell
    exact tz7_core x _ _ w (by simp; omega) (tz7_key x _ hx hx0 hlow) hi hk hcell
theorem not7 (y : Nat) (hy : y < 18446744073709551616) : bits BinOp.xor IntKind.u64 IntKind.u64.max (y : Int) = ((18446744073709551616 - (y + 1) : Nat) : Int) := by
  have hm : IntKind.u64.max = ((18446744073709551615 : Nat) : Int) := by decide
  rw [hm, bits_xor_u64_nat _ _ (by decide) hy]
  congr 1
  apply Nat.eq_of_testBit_eq
  intro j
  have h := Nat.testBit_two_pow_sub_succ (x := y) (n := 64) hy j
  rw [show (18446744073709551616 : Nat) = 2 ^ 64 from rfl, h, Nat.testBit_xor, show (18446744073709551615 : Nat) = 2 ^ 64 - 1 from rfl, Nat.testBit_two_pow_sub_one]
  by_cases h64 : j < 64
  · simp [h64]
  · have := Nat.testBit_lt_two_pow (Nat.lt_of_lt_of_le hy (Nat.pow_le_pow_right (by decide) (by omega : 64 ≤ j) : 2 ^ 64 ≤ 2 ^ j))
    simp [h64, this]
theorem run7 (x p : Nat) (hx : x < 18446744073709551616) (hp : p ≤ 64) (w : World) (hT : Tb w) :
    Calls Tryd.prog 79 #[.int .u64 x, .int .i64 p] w fun e w' => e = .returned (.int .i64 (ones x p)) ∧ w' = w := by
  have hs : x >>> p < 18446744073709551616 := by
    rw [Nat.shiftRight_eq_div_pow]
    exact Nat.lt_of_le_of_lt (Nat.div_le_self _ _) hx
  have e1 : (x : Int) / 2 ^ p = ((x >>> p : Nat) : Int) := by rw [Nat.shiftRight_eq_div_pow]; simp
  have hc := tz7 (18446744073709551616 - (x >>> p + 1)) (Nat.sub_lt (by decide) (Nat.succ_pos _)) w hT
  rw [show Lib.ctz 64 (18446744073709551616 - (x >>> p + 1)) = ones x p from rfl] at hc
  generalize ones x p = r at *
  rw [← not7 _ hs] at hc
  generalize x >>> p = y at *
  have HC := Lib.hid hc
  clear hc
  go_enter Tryd.func79, Tryd.ntmps79
  go_wp2_with (go_at_call 80; refine HC.out.mono ?_; rintro e w' ⟨rfl, rfl⟩)
  go_ret
  exact ⟨rfl, rfl⟩
end Go.Proofs.YtinnpbabkbppmaaDoor
