/- Layer 3: tags by complex numbers: what is left, powers, tags of bytes. -/
import Derived.Test.YtcpnmbklkjdjlaaKern
import Derived.Test.YtcpnmbklkjdjlaaFlo
import Derived.Test.YtcpnmbklkjdjlaaGau
import Derived.Test.YtcpnmbklkjdjlaaShelf
import Derived.WalkLawsBesides
import Derived.Laws.Bits64
import Derived.Laws.BitsAllLaws
import Derived.Lib.ItoaNum
namespace Go.Proofs.Ytcpnmbklkjdjlaa
open Go.RowKit
set_option linter.unusedVariables false

theorem run_to_int (x : Int) (hx : x.natAbs < 2 ^ 53) (w : World) : (convert 53 3 (.float .f64 (fw x))).run Try.prog w = .ok (.int .i64 x) w :=
  run_convert_float_int w _ _ .f64 .i64 _ _ (by kernel_rfl) Try.underlying3 (fw_int x hx)
theorem tmod_below (x : Int) (h : x < 0) : x.tmod 1048573 = -((-x) % 1048573) := by
  have h1 : (-x).tmod 1048573 = (-x) % 1048573 := Int.tmod_eq_emod_of_nonneg (by omega)
  have h2 := Int.neg_tmod (a := x) (b := 1048573)
  omega

set_option maxHeartbeats 400000 in
theorem rest_any (x : Int) (hx : x.natAbs < 9007199254740992) (w : World) :
    Calls Try.prog 40 #[.float .f64 (fw x)] w fun e w' => e = .returned (.float .f64 (fw (left x))) ∧ w = w' := by
  have hr := run_to_int x hx w
  by_cases h0 : 0 ≤ x
  · have h1 : x ≤ 9223372036854775807 := by omega
    clear hx
    go_enter Try.func40, Try.ntmps40
    go_wp2
    go_ret
    exact ⟨rfl, rfl⟩
  · have h0' : x < 0 := by omega
    have h1 : -9223372036854775808 ≤ x := by omega
    have ht := tmod_below x h0'
    by_cases hz : x % 1048573 = 0
    · have hz2 : (-x) % 1048573 = 0 := by omega
      rw [hz2] at ht
      have HZ := Lib.hid hz
      clear hx h0 hz hz2
      go_enter Try.func40, Try.ntmps40
      go_wp2
      go_ret
      exact ⟨by unfold left; rw [HZ.out]; rfl, rfl⟩
    · have ht2 : x.tmod 1048573 < 0 := by omega
      have ht3 : -1048573 < x.tmod 1048573 := by omega
      have HT := Lib.hid (show x.tmod 1048573 + 1048573 = left x from by unfold left; omega)
      clear hx h0 hz ht
      go_enter Try.func40, Try.ntmps40
      go_wp2
      go_ret
      refine ⟨?_, rfl⟩
      first
        | rw [HT.out]; rfl
        | rw [IntWalk.wrap64_in _ ⟨by omega, by omega⟩, HT.out]; rfl

set_option maxHeartbeats 400000 in
theorem reduce_any (x y : Int) (hx : x.natAbs < 9007199254740992) (hy : y.natAbs < 9007199254740992) (w : World) :
    Calls Try.prog 25 #[.complex .f64 (fw x) (fw y)] w fun e w' => e = .returned (.complex .f64 (fw (left x)) (fw (left y))) ∧ w = w' := by
  go_enter Try.func25, Try.ntmps25
  go_wp2_with (first
    | (go_at_call_of 40 (Value.float .f64 (fw x)); refine (rest_any x hx _).mono ?_; rintro e w' ⟨rfl, rfl⟩)
    | (go_at_call_of 40 (Value.float .f64 (fw y)); refine (rest_any y hy _).mono ?_; rintro e w' ⟨rfl, rfl⟩))
  go_ret
  exact ⟨rfl, rfl⟩

theorem step_any (w : World) : Calls Try.prog 26 #[] w fun e w' => e = .returned (.complex .f64 (fw 3) (fw 2)) ∧ w = w' := by
  go_enter Try.func26, Try.ntmps26
  go_wp2
  go_ret
  exact ⟨by rw [fw_three, fw_two]; rfl, rfl⟩

theorem numberOf_new (a b : Int) (w : World) : Calls Try.prog 30 #[.agg #[.int .i64 a, .int .i64 b]] w fun e w' => e = .returned (.complex .f64 (fw a) (fw b)) ∧ w' = w.alloc (.cells #[.int .i64 a, .int .i64 b] 28) := by
  go_enter Try.func30, Try.ntmps30
  go_wp2
  go_ret
  exact ⟨rfl, rfl⟩

theorem tagOf_new (a b : Int) (ha : a.natAbs < 2 ^ 53) (hb : b.natAbs < 2 ^ 53) (w : World) : Calls Try.prog 27 #[.complex .f64 (fw a) (fw b)] w fun e w' => e = .returned (.agg #[.int .i64 a, .int .i64 b]) ∧ w' = w.alloc (.cells #[.int .i64 a, .int .i64 b] 28) := by
  have h1 := run_to_int a ha
  have h2 := run_to_int b hb
  clear ha hb
  go_enter Try.func27, Try.ntmps27
  go_wp2
  exact bodyPost_ret (v := .agg #[.int .i64 a, .int .i64 b]) (by simp [results, Try.results27, go_sem]) rfl ⟨rfl, rfl⟩
theorem tagOf_any (a b : Int) (ha : a.natAbs < 2 ^ 53) (hb : b.natAbs < 2 ^ 53) (w : World) : Calls Try.prog 27 #[.complex .f64 (fw a) (fw b)] w fun e w' => e = .returned (.agg #[.int .i64 a, .int .i64 b]) ∧ Below w.heap.size w w' :=
  (tagOf_new a b ha hb w).mono fun _ _ h => ⟨h.1, by rw [h.2]; exact (Below.refl _ _).alloc (Nat.le_refl _) _⟩

theorem len_any (n : Nat) (hn : n < 18446744073709551616) (w : World) : Calls Try.prog 41 #[.int .u64 n] w fun e w' => e = .returned (.int .i64 (Lib.bitLen n : Nat)) ∧ w = w' := by
  go_enter Try.func41, Try.ntmps41
  go_wp2_with (go_at_call 44; refine (Try.bits_Len64 n _ (by omega) (by omega)).mono ?_; rintro e w' ⟨rfl, rfl⟩)
  go_ret
  exact ⟨rfl, rfl⟩

theorem small_of (a : Int) (h : 0 ≤ a ∧ a < 1048573) : a.natAbs < 9007199254740992 := by omega
theorem prod_small (x y : Int) (hx : 0 ≤ x ∧ x < 1048573) (hy : 0 ≤ y ∧ y < 1048573) : 0 ≤ x * y ∧ x * y < 1099511627776 := by
  refine ⟨Int.mul_nonneg hx.1 hy.1, ?_⟩
  calc x * y ≤ 1048572 * 1048572 := Int.mul_le_mul (by omega) (by omega) hy.1 (by decide)
    _ < 1099511627776 := by decide
/-- A product of reduced numbers, as the walk meets it. -/
theorem run_cmul (a b : Int × Int) (ha : (0 ≤ a.1 ∧ a.1 < 1048573) ∧ 0 ≤ a.2 ∧ a.2 < 1048573) (hb : (0 ≤ b.1 ∧ b.1 < 1048573) ∧ 0 ≤ b.2 ∧ b.2 < 1048573) (w : World) :
    (binOp .mul 52 (.complex .f64 (fw a.1) (fw a.2)) (.complex .f64 (fw b.1) (fw b.2))).run Try.prog w = .ok (.complex .f64 (fw (gm a b).1) (fw (gm a b).2)) w :=
  run_complex_mul w _ _ _ _ _ _ _ (fw_cmul _ _ _ _ (by omega) (by omega) (by omega) (by omega) (by omega) (by omega) (by omega) (by omega))
theorem gm_small (a b : Int × Int) (ha : (0 ≤ a.1 ∧ a.1 < 1048573) ∧ 0 ≤ a.2 ∧ a.2 < 1048573) (hb : (0 ≤ b.1 ∧ b.1 < 1048573) ∧ 0 ≤ b.2 ∧ b.2 < 1048573) :
    (gm a b).1.natAbs < 2199023255552 ∧ (gm a b).2.natAbs < 2199023255552 := by
  have h1 := prod_small _ _ ha.1 hb.1
  have h2 := prod_small _ _ ha.2 hb.2
  have h3 := prod_small _ _ ha.1 hb.2
  have h4 := prod_small _ _ ha.2 hb.1
  unfold gm
  constructor <;> simp only [] <;> omega

theorem bitLen_bound (n : Nat) (hn : n < 9223372036854775808) : n < 2 ^ Lib.bitLen n ∧ Lib.bitLen n ≤ 63 := by
  by_cases h : n = 0
  · subst h; decide
  · obtain ⟨_, h2, h3⟩ := Lib.bitLenAux_bounds 64 n (by omega) h
    refine ⟨h3, ?_⟩
    by_cases h4 : Lib.bitLen n ≤ 63
    · exact h4
    · have h5 : 2 ^ 63 ≤ 2 ^ (Lib.bitLenAux 64 n - 1) := Nat.pow_le_pow_right (by decide) (by unfold Lib.bitLen at h4; omega)
      omega
theorem and_one63 (n k : Nat) (hn : n < 9223372036854775808) : bits .and .i64 ((n : Int) / 2 ^ k) 1 = ((n / 2 ^ k % 2 : Nat) : Int) := by
  have hk : n / 2 ^ k < 9223372036854775808 := Nat.lt_of_le_of_lt (Nat.div_le_self _ _) hn
  have h := bits_nat .i64 63 (by decide) (fun m h0 h1 => by simp [IntKind.wrap, IntKind.bits, IntKind.signed]; omega) (n / 2 ^ k) 1 (by omega) (by decide)
  have h1 := h.1
  rw [show (n / 2 ^ k &&& 1) = n / 2 ^ k % 2 from Nat.and_one_is_mod _] at h1
  rw [← h1]
  simp

set_option maxHeartbeats 400000 in
theorem power_any (n : Nat) (hn : n < 9223372036854775808) (w : World) : Calls Try.prog 31 #[.int .i64 n] w fun e w' => e = .returned (.complex .f64 (fw (gq n).1) (fw (gq n).2)) ∧ w = w' := by
  obtain ⟨hB, hL⟩ := bitLen_bound n hn
  obtain ⟨L, hLe⟩ : ∃ L, Lib.bitLen n = L := ⟨_, rfl⟩
  rw [hLe] at hL hB
  have HB := Lib.hid hB
  clear hB
  go_enter Try.func31, Try.ntmps31
  go_wp2_with (first
    | (go_at_call 26; refine (step_any _).mono ?_; rintro e w' ⟨rfl, rfl⟩)
    | (go_at_call 41; refine (len_any n (by omega) _).mono ?_; rintro e w' ⟨rfl, rfl⟩))
  go_loop [3, 4, 10] (fun p q i => ∃ k : Nat, k ≤ L ∧ i = .int .i64 k ∧ p = .complex .f64 (fw (gq (n % 2 ^ k)).1) (fw (gq (n % 2 ^ k)).2) ∧ q = .complex .f64 (fw (gq (2 ^ k)).1) (fw (gq (2 ^ k)).2)) (fun _ _ i => L - (intOf i).toNat)
  case atStart => exact ⟨0, Nat.zero_le _, rfl, by rw [Nat.pow_zero, Nat.mod_one, gq_zero, fw_one, fw_zero], by rw [Nat.pow_zero, gq_one]⟩
  case round =>
    obtain ⟨k, hk, rfl, rfl, rfl⟩ := hrel
    by_cases hlt : k < L
    · have hA := and_one63 n k hn
      have hp := gq_lt (n % 2 ^ k)
      have hq := gq_lt (2 ^ k)
      have HQ := Lib.hid (gq_square k)
      have HP : Hid (n / 2 ^ k % 2 = 1 → gr (gm (gq (n % 2 ^ k)) (gq (2 ^ k))) = gq (n % 2 ^ (k + 1))) := gq_bit n k
      have HN : Hid (¬ n / 2 ^ k % 2 = 1 → gq (n % 2 ^ k) = gq (n % 2 ^ (k + 1))) := gq_nobit n k
      generalize gq (n % 2 ^ k) = P at *
      generalize gq (2 ^ k) = Q at *
      have hmq := run_cmul Q Q hq hq w
      have sq := gm_small Q Q hq hq
      by_cases hb : n / 2 ^ k % 2 = 1
      · rw [hb] at hA
        have hA' : bits .and .i64 ((n : Int) / 2 ^ k) 1 = 1 := hA
        have hmp := run_cmul P Q hp hq w
        have sp := gm_small P Q hp hq
        have HPP := Lib.hid (HP.out hb)
        clear hA hb hp hq
        go_wp2_with (first
          | (go_at_call_of 25 (Value.complex .f64 (fw (gm P Q).1) (fw (gm P Q).2)); refine (reduce_any _ _ (by omega) (by omega) _).mono ?_; rintro e w' ⟨rfl, rfl⟩)
          | (go_at_call_of 25 (Value.complex .f64 (fw (gm Q Q).1) (fw (gm Q Q).2)); refine (reduce_any _ _ (by omega) (by omega) _).mono ?_; rintro e w' ⟨rfl, rfl⟩))
        go_round
        case rel => exact ⟨k + 1, by omega, by go_num, by rw [← HPP.out]; rfl, by rw [← HQ.out]; rfl⟩
        case measure => simp [intOf]; omega
      · rw [show n / 2 ^ k % 2 = 0 from by omega] at hA
        have hA' : bits .and .i64 ((n : Int) / 2 ^ k) 1 = 0 := hA
        have HPP := Lib.hid (HN.out hb)
        clear hA hb hp hq
        go_wp2_with (go_at_call_of 25 (Value.complex .f64 (fw (gm Q Q).1) (fw (gm Q Q).2)); refine (reduce_any _ _ (by omega) (by omega) _).mono ?_; rintro e w' ⟨rfl, rfl⟩)
        go_round
        case rel => exact ⟨k + 1, by omega, by go_num, by rw [← HPP.out], by rw [← HQ.out]; rfl⟩
        case measure => simp [intOf]; omega
    · obtain rfl : k = L := by omega
      rw [Nat.mod_eq_of_lt HB.out]
      go_wp2
      go_ret
      exact ⟨rfl, rfl⟩
end Go.Proofs.Ytcpnmbklkjdjlaa
