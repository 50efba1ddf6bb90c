/- The document's Below: texts by their bytes. -/
import Derived.Test.YtjkfgbmlhglnfaaCore
import Derived.Test.YtjkfgbmlhglnfaaTupMath
import Derived.Deep.QuietTactic
namespace Go.Proofs.Ytjkfgbmlhglnfaa
open Go.RowKit
set_option linter.unusedVariables false

theorem bl_cons (a b : UInt8) (x y : List UInt8) : Op.bytesLess (a :: x) (b :: y) = (decide (a < b) || (a == b && Op.bytesLess x y)) := rfl
theorem bl_same (a : UInt8) (x y : List UInt8) : Op.bytesLess (a :: x) (a :: y) = Op.bytesLess x y := by
  rw [bl_cons, decide_eq_false (by rw [UInt8.lt_iff_toNat_lt]; omega)]; simp
theorem drop_cons (s : ByteArray) (j : Nat) (h : j < s.size) : s.data.toList.drop j = s[j] :: s.data.toList.drop (j + 1) := by
  rw [List.drop_eq_getElem_cons (by simpa using h)]; rfl
theorem bl_nil_right (x : List UInt8) : Op.bytesLess x [] = false := by cases x <;> rfl
theorem bl_nil_left (x : List UInt8) : Op.bytesLess [] x = decide (0 < x.length) := by cases x <;> rfl
theorem bl_ne_head {a b : UInt8} (h : a ≠ b) (x y : List UInt8) : Op.bytesLess (a :: x) (b :: y) = decide (a.toNat < b.toNat) := by
  rw [bl_cons]
  have : (a == b) = false := by simpa using h
  rw [this, Bool.false_and, Bool.or_false, decide_eq_decide, UInt8.lt_iff_toNat_lt]

set_option maxRecDepth 100000 in
set_option maxHeartbeats 1000000 in
theorem below_any (s t : ByteArray) (hs : s.size ≤ 140737488351232) (ht : t.size ≤ 140737488351232) (w : World) :
    Calls Try.prog 57 #[.string s, .string t] w fun e w' => e = .returned (.bool (Op.bytesLess s.data.toList t.data.toList)) ∧ Below w.heap.size w w' := by
  go_enter Try.func57, Try.ntmps57
  go_wp2
  go_loopw [5] (fun i wr => ∃ j : Nat, j ≤ s.size ∧ j ≤ t.size ∧ i = .int .i64 j ∧ Op.bytesLess s.data.toList t.data.toList = Op.bytesLess (s.data.toList.drop j) (t.data.toList.drop j) ∧ Below w.heap.size w wr) (fun i _ => s.size - (intOf i).toNat)
  case atStart => exact ⟨0, Nat.zero_le _, Nat.zero_le _, rfl, rfl, Below.refl _ _⟩
  case round =>
    obtain ⟨j, hj, hj2, rfl, hc, hb⟩ := hrel
    have HC := Lib.hid hc
    clear hc
    by_cases h1 : j < s.size
    · by_cases h2 : j < t.size
      · have HD1 := Lib.hid (drop_cons s j h1)
        have HD2 := Lib.hid (drop_cons t j h2)
        have hj0 : (0 : Int) ≤ j := by omega
        have hi1 : (j : Int) < s.size := by omega
        have hi2 : (j : Int) < t.size := by omega
        by_cases he : s[j] = t[j]
        · have HE := Lib.hid he
          have hq : ((s[j].toNat : Int) == t[j].toNat) = true := by rw [he]; simp
          have hq2 : ((s[j].toNat : Int) != t[j].toNat) = false := by rw [he]; simp
          clear he
          go_wp2
          go_quiet (fail)
          go_wp2
          go_roundw
          case rel => exact ⟨j + 1, by omega, by omega, by go_num, by rw [HC.out, HD1.out, HD2.out, HE.out, bl_same], bdrewN hb⟩
          case measure => simp [intOf]; omega
        · have HE := Lib.hid he
          have hn : s[j].toNat ≠ t[j].toNat := fun e => he (UInt8.toNat_inj.1 e)
          have hq : ((s[j].toNat : Int) == t[j].toNat) = false := by simp; omega
          have hq2 : ((s[j].toNat : Int) != t[j].toNat) = true := by simp; omega
          clear he hn
          go_wp2
          go_quiet (fail)
          go_wp2
          go_quiet (fail)
          go_wp2
          go_ret
          rw [HC.out, HD1.out, HD2.out, bl_ne_head HE.out]
          exact ⟨rfl, by first | exact bdrewN hb | exact bdrewN (bdrewN hb)⟩
      · have HN := Lib.hid (show Op.bytesLess (s.data.toList.drop j) (t.data.toList.drop j) = false from by rw [show t.data.toList.drop j = [] from List.drop_eq_nil_of_le (by simp; omega), bl_nil_right])
        have hx : ¬ (s.size : Int) < t.size := by omega
        have hi1 : (j : Int) < s.size := by omega
        have hi2 : ¬ (j : Int) < t.size := by omega
        clear h1 h2
        go_wp2
        go_ret
        rw [HC.out, HN.out]
        exact ⟨rfl, hb⟩
    · obtain rfl : j = s.size := by omega
      have HN := Lib.hid (show Op.bytesLess (s.data.toList.drop s.size) (t.data.toList.drop s.size) = decide (s.size < t.size) from by
        rw [show s.data.toList.drop s.size = [] from List.drop_eq_nil_of_le (by simp), bl_nil_left, decide_eq_decide, List.length_drop, len_ba]; omega)
      go_wp2
      go_ret
      rw [HC.out, HN.out]
      exact ⟨rfl, hb⟩
end Go.Proofs.Ytjkfgbmlhglnfaa
