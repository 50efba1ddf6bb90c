/- Layer 3: the sum of bytes, by the program and by the document. -/
import Derived.Test.YtcjoinahelmmpaaKern
import Derived.Test.YtcjoinahelmmpaaCrc
import Derived.WalkLawsBesides
import Derived.Laws.Bits64
import Derived.Laws.BitsAllLaws
namespace Go.Proofs.Ytcjoinahelmmpaa
open Go.RowKit
set_option linter.unusedVariables false

theorem and_one32 (X : Nat) (hX : X < 4294967296) : bits .and .u32 (X : Int) 1 = ((X % 2 : Nat) : Int) := by
  have := u32_and_nat X 1 hX (by decide)
  rw [show (X &&& 1) = X % 2 from Nat.and_one_is_mod X] at this
  exact this
theorem poly_on (Y : Nat) (hY : Y < 4294967296) : bits .xor .u32 (Y : Int) 2197175160 = ((Y ^^^ cpoly : Nat) : Int) := u32_xor_nat Y cpoly hY cpoly_lt
theorem cbit_code (X : Nat) (hX : X < 4294967296) : bits .xor .u32 ((X : Int) / 2) (2197175160 * bits .and .u32 (X : Int) 1 % 4294967296) = ((cbit X : Nat) : Int) := by
  rw [and_one32 X hX, show ((X : Int) / 2) = ((X / 2 : Nat) : Int) from by omega]
  unfold cbit
  by_cases h : X % 2 = 1
  · rw [if_pos h, h]
    exact poly_on _ (by omega)
  · rw [show X % 2 = 0 from by omega, if_neg (by decide)]
    exact u32_xor_nat (X / 2) 0 (by omega) (by decide)

set_option maxHeartbeats 400000 in
theorem sumByte_any (s : Nat) (c : UInt8) (hs : s < 4294967296) (w : World) :
    Calls Try.prog 58 #[.int .u32 s, .int .u8 (c.toNat : Int)] w fun e w' => e = .returned (.int .u32 (cbyte s c)) ∧ w = w' := by
  have hc := c.toNat_lt
  have HX := Lib.hid (u32_xor_nat s c.toNat hs (by omega))
  have HL : s ^^^ c.toNat < 4294967296 := Nat.xor_lt_two_pow (n := 32) hs (by omega)
  go_enter Try.func58, Try.ntmps58
  go_wp2
  go_loop [0, 9] (fun x i => ∃ k : Nat, k ≤ 8 ∧ i = .int .i64 k ∧ x = .int .u32 (cit k (s ^^^ c.toNat) : Nat)) (fun _ i => 8 - (intOf i).toNat)
  case atStart => exact ⟨0, Nat.zero_le _, rfl, by rw [HX.out]; rfl⟩
  case round =>
    obtain ⟨k, hk, rfl, rfl⟩ := hrel
    by_cases hlt : k < 8
    · have HC := Lib.hid (cbit_code _ (cit_lt k HL))
      go_wp2
      go_round
      case rel => exact ⟨k + 1, by omega, by go_num, by rw [HC.out]; rfl⟩
      case measure => simp [intOf]; omega
    · obtain rfl : k = 8 := by omega
      go_wp2
      go_ret
      exact ⟨rfl, rfl⟩

theorem not_sum (X : Nat) (hX : X < 4294967296) : bits .xor .u32 (X : Int) 4294967295 = ((X ^^^ 4294967295 : Nat) : Int) := u32_xor_nat X 4294967295 hX (by decide)

theorem not_code (X : Nat) (hX : X < 4294967296) : wrap64 (bits .xor .u32 IntKind.u32.max (X : Int)) = ((X ^^^ 4294967295 : Nat) : Int) := by
  have h := u32_xor_nat 4294967295 X (by decide) hX
  rw [Nat.xor_comm] at h
  have hl : X ^^^ 4294967295 < 4294967296 := Nat.xor_lt_two_pow (n := 32) hX (by decide)
  rw [show IntKind.u32.max = ((4294967295 : Nat) : Int) from by decide, h]
  exact IntWalk.wrap64_in _ ⟨by omega, by omega⟩
theorem not_code2 (X : Nat) (hX : X < 4294967296) : wrap64 (bits .xor .u32 (X : Int) 4294967295) = ((X ^^^ 4294967295 : Nat) : Int) := by
  have hl : X ^^^ 4294967295 < 4294967296 := Nat.xor_lt_two_pow (n := 32) hX (by decide)
  rw [not_sum X hX]
  exact IntWalk.wrap64_in _ ⟨by omega, by omega⟩
/-- The sum of bytes. -/
def csum (l : List UInt8) : Nat := crcl l ^^^ 4294967295
theorem csum_lt (l : List UInt8) : csum l < 4294967296 := Nat.xor_lt_two_pow (n := 32) (crcl_lt l) (by decide)

set_option maxHeartbeats 400000 in
theorem sum_any (v : Value) (l : List UInt8) (w : World) (hl : l.length ≤ 140737488355328) (h : Sl w w.heap.size v l) :
    Calls Try.prog 33 #[v] w fun e w' => e = .returned (.int .i64 (csum l)) ∧ w = w' := by
  obtain ⟨A, cap, rfl, hr, hm, hn, hle⟩ := h
  have HR := Lib.hid hr
  clear hr hn
  go_enter Try.func33, Try.ntmps33
  go_wp2
  go_loop [3, 8] (fun x i => ∃ k : Nat, k ≤ l.length ∧ i = .int .i64 k ∧ x = .int .u32 (crcl (l.take k) : Nat)) (fun _ i => l.length - (intOf i).toNat)
  case atStart => exact ⟨0, Nat.zero_le _, rfl, rfl⟩
  case round =>
    obtain ⟨k, hk, rfl, rfl⟩ := hrel
    by_cases hlt : k < l.length
    · obtain ⟨ad, rfl, hs, hb, hc⟩ := HR.out (by omega)
      have hcell := hc k l[k] (by simp [hlt])
      unfold u8v at hcell
      have HS := Lib.hid (show crcl (l.take (k + 1)) = cbyte (crcl (l.take k)) l[k] from by rw [List.take_succ_eq_append_getElem hlt, crcl_snoc])
      have hx := crcl_lt (l.take k)
      clear hc hs
      go_wp2_with (go_at_call 58; refine (sumByte_any _ _ hx _).mono ?_; rintro e w' ⟨rfl, rfl⟩)
      go_round
      case rel => exact ⟨k + 1, by omega, by go_num, by rw [HS.out]⟩
      case measure => simp [intOf]; omega
    · obtain rfl : k = l.length := by omega
      go_wp2
      go_ret
      exact ⟨by rw [not_code _ (crcl_lt l)]; rfl, rfl⟩

set_option maxHeartbeats 1000000 in
theorem refSum_any (l : List UInt8) (S : ByteArray) (hS : S = ⟨l.toArray⟩) (w : World) (hl : l.length ≤ 140737488355328) :
    Calls Try.prog 60 #[.string S] w fun e w' => e = .returned (.int .i64 (csum l)) ∧ w = w' := by
  have hsz : S.size = l.length := by rw [hS]; simp [ByteArray.size]
  have HB : Hid (∀ k (h : k < l.length) (h' : k < S.size), S[k]'h' = l[k]) := by subst hS; intro k h h'; rfl
  have HZ := Lib.hid hsz
  have hsz1 : S.size ≤ l.length := by omega
  have hsz2 : l.length ≤ S.size := by omega
  clear hS hsz
  go_enter Try.func60, Try.ntmps60
  go_wp2
  go_loop [3, 4] (fun x i => ∃ k : Nat, k ≤ l.length ∧ i = .int .i64 k ∧ x = .int .u32 (crcl (l.take k) : Nat)) (fun _ i => l.length - (intOf i).toNat)
  case atStart => exact ⟨0, Nat.zero_le _, rfl, rfl⟩
  case round =>
    obtain ⟨k, hk, rfl, rfl⟩ := hrel
    by_cases hlt : k < l.length
    · have hlt2 : k < S.size := by omega
      have HS := Lib.hid (show crcl (l.take (k + 1)) = cbyte (crcl (l.take k)) l[k] from by rw [List.take_succ_eq_append_getElem hlt, crcl_snoc])
      have HK := Lib.hid (HB.out k hlt hlt2)
      obtain ⟨s, hs⟩ : ∃ s, crcl (l.take k) = s := ⟨_, rfl⟩
      have hx := crcl_lt (l.take k)
      rw [hs] at hx HS ⊢
      clear hs
      obtain ⟨c, hc⟩ : ∃ c, S[k] = c := ⟨_, rfl⟩
      have hcl := c.toNat_lt
      have HX := Lib.hid (u32_xor_nat s c.toNat hx (by omega))
      have HL : s ^^^ c.toNat < 4294967296 := Nat.xor_lt_two_pow (n := 32) hx (by omega)
      have HC : Hid (S[k] = l[k]) := HK
      rw [hc] at HC
      go_wp2
      go_loop [3, 5] (fun x i => ∃ j : Nat, j ≤ 8 ∧ i = .int .i64 j ∧ x = .int .u32 (cit j (s ^^^ c.toNat) : Nat)) (fun _ i => 8 - (intOf i).toNat)
      case atStart => exact ⟨0, Nat.zero_le _, rfl, by rw [HX.out]; rfl⟩
      case round =>
        obtain ⟨j, hj, rfl, rfl⟩ := hrel
        obtain ⟨X, hX⟩ : ∃ X, cit j (s ^^^ c.toNat) = X := ⟨_, rfl⟩
        have hXl := cit_lt j HL
        have HXX := Lib.hid (show cit (j + 1) (s ^^^ c.toNat) = cbit X from by rw [← hX]; rfl)
        have HX2 := Lib.hid (show cit j (s ^^^ c.toNat) = X from hX)
        rw [hX] at hXl ⊢
        clear hX
        by_cases hjl : j < 8
        · have H1 := and_one32 X (by omega)
          by_cases hb : X % 2 = 1
          · rw [hb] at H1
            have H1' : bits .and .u32 (X : Int) 1 = 1 := H1
            have HP := Lib.hid (show bits .xor .u32 ((X : Int) / 2) 2197175160 = ((cbit X : Nat) : Int) from by
              rw [show ((X : Int) / 2) = ((X / 2 : Nat) : Int) from by omega, poly_on _ (by omega)]; unfold cbit; rw [if_pos hb])
            clear hb H1
            go_wp2
            go_round
            case rel => exact ⟨j + 1, by omega, by go_num, by rw [HP.out, HXX.out]⟩
            case measure => simp [intOf]; omega
          · rw [show X % 2 = 0 from by omega] at H1
            have H1' : bits .and .u32 (X : Int) 1 = 0 := H1
            have HP := Lib.hid (show ((X : Int) / 2) = ((cbit X : Nat) : Int) from by
              unfold cbit; rw [if_neg hb, Nat.xor_zero]; omega)
            clear hb H1
            go_wp2
            go_round
            case rel => exact ⟨j + 1, by omega, by go_num, by rw [HP.out, HXX.out]⟩
            case measure => simp [intOf]; omega
        · obtain rfl : j = 8 := by omega
          go_wp2
          go_round
          case rel => exact ⟨k + 1, by omega, by go_num, by rw [HS.out, ← HC.out, ← HX2.out]; rfl⟩
          case measure => simp [intOf]; omega
    · obtain rfl : k = l.length := by omega
      go_wp2
      go_ret
      exact ⟨by rw [not_code2 _ (crcl_lt l)]; rfl, rfl⟩
end Go.Proofs.Ytcjoinahelmmpaa
