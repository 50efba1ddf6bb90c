/- A number as a field by the document (ambryref01), as a contract. -/
import Derived.Test.YtjkfgbmlhglnfaaKern
namespace Go.Proofs.Ytjkfgbmlhglnfaa
open Go.RowKit
set_option linter.unusedVariables false

set_option maxRecDepth 100000 in
set_option maxHeartbeats 1000000 in
theorem refField_any (n : Int) (k : Nat) (hk : k ≤ 8) (w : World) :
    Calls Try.prog 46 #[.int .i64 n, .int .i64 k] w fun e w' => e = .returned (.string ⟨(fld k n).toArray⟩) ∧ Below w.heap.size w w' := by
  obtain ⟨i0, hi, hz0, hz1, hz2⟩ := info_parts Try.info5
  go_enter Try.func46, Try.ntmps46
  go_wp2
  go_loopw [6, 7] (fun o i wr => ∃ j : Nat, j ≤ k ∧ i = .int .i64 ((k : Int) - 1 - j) ∧ wr.ownsRow w.heap.size 5 1 o j (bv (fldTo k (IntKind.u64.wrap n) j)) ∧ Below w.heap.size w wr) (fun _ i _ => (intOf i + 1).toNat)
  case atStart => exact ⟨0, Nat.zero_le _, by go_num, World.ownsRow_nil _ _ _ _, Below.refl _ _⟩
  case round =>
    obtain ⟨j, hj, rfl, hown, hb⟩ := hrel
    by_cases hlt : j < k
    · have h0 : (0 : Int) ≤ (k : Int) - 1 - j := by omega
      have h1 : (k : Int) - 1 - j ≤ 7 := by omega
      have HO := Lib.hid hown
      clear hown
      go_wp2_with (at_builtin; refine wpList_append_own _ rfl _ _ 133 rfl w.heap.size 5 i0 (.int .u8 0) 1 1 Try.underlying133 hi hz0 hz1 hz2 rfl (by decide) _ _ _ rfl (HO.out.alloc _) ⟨wr.heap.size, 0, none⟩ 1 1 [.int .u8 (IntKind.u64.wrap n / 2 ^ (8 * (k - 1 - j)) % 256)] rfl rfl (new_cell _ _ _) (one_u8 _) (by unfold maxLen; omega) (by omega) (by have := hb.size; simp; omega) ?_; intro v' w1 ho1 hg1 _)
      have hb1 := (hb.alloc hb.size (.cells #[.int .u8 (IntKind.u64.wrap n / 2 ^ (8 * (k - 1 - j)) % 256)] 5)).trans (grown_below hg1 (HO.out.alloc _) (by have := hb.size; simp; omega))
      rw [← u8v_fbyte, show bv (fldTo k (IntKind.u64.wrap n) j) ++ [u8v (fbyte k (IntKind.u64.wrap n) j)] = bv (fldTo k (IntKind.u64.wrap n) (j + 1)) from by rw [fldTo_succ, bv_app]; rfl] at ho1
      have HO1 := Lib.hid ho1
      clear ho1 hg1
      go_wp2
      go_roundw
      case rel => exact ⟨j + 1, by omega, by go_num, HO1.out, hb1⟩
      case measure => simp [intOf]; omega
    · obtain rfl : j = k := by omega
      obtain ⟨A, cap, rfl, hc⟩ := made_str' j _ (len_fldTo j _ j) hown
      go_wp2
      go_ret
      refine ⟨?_, hb⟩
      rw [show fldTo j (IntKind.u64.wrap n) j = fld j n from by rw [IntKind.wrap_u64]; exact fld_wrap j hk n]
      rfl
set_option maxRecDepth 100000 in
set_option maxHeartbeats 400000 in
theorem refNumber_any (S : ByteArray) (l : List UInt8) (hS : S = ⟨l.toArray⟩) (at_ k : Nat) (hk : k ≤ 8) (hl : at_ + k ≤ l.length) (hl2 : l.length ≤ 140737488355000) (w : World) :
    Calls Try.prog 50 #[.string S, .int .i64 at_, .int .i64 k] w fun r w' => r = .returned (.int .i64 (wrap64 (num k l at_))) ∧ w = w' := by
  have hsz : S.size = l.length := by rw [hS]; simp [ByteArray.size]
  have HS := Lib.hid hS
  clear hS
  go_enter Try.func50, Try.ntmps50
  go_wp2
  go_loopw [7, 8] (fun u i wr => ∃ j : Nat, j ≤ k ∧ i = .int .i64 j ∧ u = .int .u64 (num j l at_) ∧ w = wr) (fun _ i _ => k - (intOf i).toNat)
  case atStart => exact ⟨0, Nat.zero_le _, by go_num, by rw [num_zero]; rfl, rfl⟩
  case round =>
    obtain ⟨j, hj, rfl, rfl, rfl⟩ := hrel
    by_cases hlt : j < k
    · have hn2 := num_lt (j + 1) l at_
      have hp : 256 ^ (j + 1) ≤ 18446744073709551616 := by
        have : 256 ^ (j + 1) ≤ 256 ^ 8 := Nat.pow_le_pow_right (by decide) (by omega)
        simpa using this
      have HN := Lib.hid (num_step S l HS.out at_ j (by omega) (by omega) (by omega))
      have HJ := Lib.hid (show j + 1 ≤ k from hlt)
      have hx : (at_ : Int) + j < S.size := by omega
      have hx0 : (0 : Int) ≤ (at_ : Int) + j := by omega
      clear hn2 hp
      go_wp2
      go_roundw
      case rel => exact ⟨j + 1, HJ.out, by go_num, congrArg (Value.int .u64) HN.out, by first | rfl | trivial⟩
      case measure => simp [intOf]; have := HJ.out; omega
    · obtain rfl : j = k := by omega
      have hn2 := num_lt j l at_
      have hp : 256 ^ j ≤ 18446744073709551616 := by
        have : 256 ^ j ≤ 256 ^ 8 := Nat.pow_le_pow_right (by decide) (by omega)
        simpa using this
      have h1 : (num j l at_ : Int) ≤ 18446744073709551615 := by omega
      clear hn2 hp
      go_wp2
      go_ret
      exact ⟨rfl, rfl⟩
end Go.Proofs.Ytjkfgbmlhglnfaa
