/- Layer 3: digits of a number and back: the walks. -/
import Derived.Test.YtcpnmbklkjdjlaaTagJ
import Derived.Test.YtcpnmbklkjdjlaaTagK
import Derived.Laws.DeepStrings4
namespace Go.Proofs.Ytcpnmbklkjdjlaa
open Go.RowKit
set_option linter.unusedVariables false

theorem digit_any (c : UInt8) (w : World) : Calls Try.prog 42 #[.string ⟨#[48, 49, 50, 51, 52, 53, 54, 55, 56, 57, 97, 98, 99, 100, 101, 102]⟩, .int .u8 (c.toNat : Int)] w fun e w' => e = .returned (.int .i64 (hv c)) ∧ w = w' :=
  (Try.strings_IndexByte _ _ w).mono fun _ _ h => ⟨by rw [h.1, ← index_hv c]; simp [hexs], h.2.symm⟩

theorem or_digit (a : Nat) (d : Nat) (hd : d < 16) (ha : a < 1152921504606846976 / 16) : bits .or .i64 ((a : Int) * 16) (d : Int) = ((16 * a + d : Nat) : Int) := by
  have h := (bits_nat .i64 63 (by decide) (fun m h0 h1 => by simp [IntKind.wrap, IntKind.bits, IntKind.signed]; omega) (a * 16) d (by omega) (by omega)).2
  have e : a * 16 ||| d = 16 * a + d := by
    have := Nat.shiftLeft_add_eq_or_of_lt (show d < 2 ^ 4 from hd) a
    rw [Nat.shiftLeft_eq] at this
    rw [show a * 16 = a * 2 ^ 4 from rfl, ← this]
    omega
  rw [e] at h
  rw [← h]
  simp

set_option maxHeartbeats 1000000 in
theorem readPart_any (l : List UInt8) (S : ByteArray) (hS : S = ⟨l.toArray⟩) (hl : l.length ≤ 10) (w : World) :
    Calls Try.prog 38 #[.string S] w fun e w' => e = .returned (.int .i64 (rpv l)) ∧ w = w' := by
  have hsz : S.size = l.length := by rw [hS]; simp [ByteArray.size]
  have HB : Hid (∀ k (h : k < l.length) (h' : k < S.size), S[k]'h' = l[k]) := by subst hS; intro k h h'; rfl
  have hsz1 : S.size ≤ l.length := by omega
  have hsz2 : l.length ≤ S.size := by omega
  clear hS hsz
  go_enter Try.func38, Try.ntmps38
  go_wp2
  go_loop [3, 8] (fun x i => ∃ k a : Nat, k ≤ l.length ∧ i = .int .i64 k ∧ x = .int .i64 a ∧ rpv (l.take k) = a) (fun _ i => l.length - (intOf i).toNat)
  case atStart => exact ⟨0, 0, Nat.zero_le _, rfl, rfl, rfl⟩
  case round =>
    obtain ⟨k, a, hk, rfl, rfl, ha⟩ := hrel
    have HA := Lib.hid ha
    have hr := rpv_range (l.take k)
    rw [ha, List.length_take] at hr
    have hp : (16 : Int) ^ min k l.length ≤ 16 ^ 10 := by
      have : 16 ^ min k l.length ≤ 16 ^ 10 := Nat.pow_le_pow_right (by decide) (by omega)
      exact_mod_cast this
    have hab : a < 1099511627776 := by omega
    clear ha hr hp
    by_cases hlt : k < l.length
    · have hlt2 : k < S.size := by omega
      have HS := Lib.hid (show rpv (l.take (k + 1)) = rstep (rpv (l.take k)) l[k] from by rw [List.take_succ_eq_append_getElem hlt, rpv_snoc])
      have HK := Lib.hid (HB.out k hlt hlt2)
      have hx : (k : Int) < S.size := by omega
      obtain ⟨c, hc⟩ : ∃ c, S[k] = c := ⟨_, rfl⟩
      rw [hc] at HK
      have HN : Hid (rpv (l.take (k + 1)) = -1 → rpv l = -1) := rpv_neg l (k + 1)
      rcases hv_range c with h | ⟨h0, h1⟩
      · have HR := Lib.hid (show rpv l = -1 from HN.out (by rw [HS.out, ← HK.out]; exact rstep_no _ _ (by omega)))
        have HH := Lib.hid h
        clear h
        go_wp2_with (go_at_call 42; refine (digit_any c _).mono ?_; rintro e w' ⟨rfl, rfl⟩; rw [HH.out])
        go_ret
        exact ⟨by rw [HR.out]; rfl, rfl⟩
      · obtain ⟨d, hd⟩ : ∃ d : Nat, hv c = d := ⟨(hv c).toNat, by omega⟩
        have HH := Lib.hid hd
        have hd1 : d < 16 := by omega
        have HR := Lib.hid (show rpv (l.take (k + 1)) = ((16 * a + d : Nat) : Int) from by rw [HS.out, ← HK.out, HA.out, rstep_ok _ _ (by omega) h0, hd]; omega)
        have HO := Lib.hid (or_digit a d hd1 (by omega))
        clear h0 h1 hd
        go_wp2_with (go_at_call 42; refine (digit_any c _).mono ?_; rintro e w' ⟨rfl, rfl⟩; rw [HH.out])
        go_round
        case rel => exact ⟨k + 1, 16 * a + d, by omega, by go_num, by rw [HO.out], HR.out⟩
        case measure => simp [intOf]; omega
    · obtain rfl : k = l.length := by omega
      rw [List.take_length] at HA
      go_wp2
      go_ret
      exact ⟨by rw [HA.out]; rfl, rfl⟩

set_option maxHeartbeats 1000000 in
theorem value_any (l : List UInt8) (S : ByteArray) (hS : S = ⟨l.toArray⟩) (hl : l.length ≤ 10) (w : World) :
    Calls Try.prog 39 #[.string S] w fun e w' => e = .returned (.int .i64 (rpv l)) ∧ w = w' := by
  have hsz : S.size = l.length := by rw [hS]; simp [ByteArray.size]
  have HB : Hid (∀ k (h : k < l.length) (h' : k < S.size), S[k]'h' = l[k]) := by subst hS; intro k h h'; rfl
  have hsz1 : S.size ≤ l.length := by omega
  have hsz2 : l.length ≤ S.size := by omega
  clear hS hsz
  go_enter Try.func39, Try.ntmps39
  go_wp2
  go_loop [3, 4] (fun x i => ∃ k a : Nat, k ≤ l.length ∧ i = .int .i64 k ∧ x = .int .i64 a ∧ rpv (l.take k) = a) (fun _ i => l.length - (intOf i).toNat)
  case atStart => exact ⟨0, 0, Nat.zero_le _, rfl, rfl, rfl⟩
  case round =>
    obtain ⟨k, a, hk, rfl, rfl, ha⟩ := hrel
    have HA := Lib.hid ha
    have hr := rpv_range (l.take k)
    rw [ha, List.length_take] at hr
    have hp : (16 : Int) ^ min k l.length ≤ 16 ^ 10 := by
      have : 16 ^ min k l.length ≤ 16 ^ 10 := Nat.pow_le_pow_right (by decide) (by omega)
      exact_mod_cast this
    have hab : a < 1099511627776 := by omega
    clear ha hr hp
    by_cases hlt : k < l.length
    · have hlt2 : k < S.size := by omega
      have HS := Lib.hid (show rpv (l.take (k + 1)) = rstep (rpv (l.take k)) l[k] from by rw [List.take_succ_eq_append_getElem hlt, rpv_snoc])
      have HK := Lib.hid (HB.out k hlt hlt2)
      have hx : (k : Int) < S.size := by omega
      obtain ⟨c, hc⟩ : ∃ c, S[k] = c := ⟨_, rfl⟩
      rw [hc] at HK
      have HN : Hid (rpv (l.take (k + 1)) = -1 → rpv l = -1) := rpv_neg l (k + 1)
      have hcb := c.toNat_lt
      have key : ((c.toNat : Int) < 48 ∧ hv c = -1) ∨ ((48 ≤ (c.toNat : Int) ∧ (c.toNat : Int) ≤ 57) ∧ hv c = (c.toNat : Int) - 48) ∨ ((57 < (c.toNat : Int) ∧ (c.toNat : Int) < 97) ∧ hv c = -1) ∨ ((97 ≤ (c.toNat : Int) ∧ (c.toNat : Int) ≤ 102) ∧ hv c = (c.toNat : Int) - 97 + 10) ∨ (102 < (c.toNat : Int) ∧ hv c = -1) := by
        unfold hv
        split
        · omega
        · split <;> omega
      rcases key with ⟨h1, h⟩ | ⟨⟨h1, h2⟩, h⟩ | ⟨⟨h1, h2⟩, h⟩ | ⟨⟨h1, h2⟩, h⟩ | ⟨h1, h⟩
      · have HR := Lib.hid (show rpv l = -1 from HN.out (by rw [HS.out, ← HK.out]; exact rstep_no _ _ (by omega)))
        clear h
        go_wp2
        go_ret
        exact ⟨by rw [HR.out]; rfl, rfl⟩
      · have HR := Lib.hid (show rpv (l.take (k + 1)) = ((16 * a + (c.toNat - 48) : Nat) : Int) from by rw [HS.out, ← HK.out, HA.out, rstep_ok _ _ (by omega) (by omega), h]; omega)
        clear h
        go_wp2
        go_round
        case rel => exact ⟨k + 1, 16 * a + (c.toNat - 48), by omega, by go_num, congrArg (Value.int .i64) (by omega), HR.out⟩
        case measure => simp [intOf]; omega
      · have HR := Lib.hid (show rpv l = -1 from HN.out (by rw [HS.out, ← HK.out]; exact rstep_no _ _ (by omega)))
        have h3 : ¬ (c.toNat : Int) ≤ 57 := by omega
        have h4 : decide ((c.toNat : Int) ≤ 57) = false := by simpa using h3
        have h5 : decide ((c.toNat : Int) ≥ 97) = false := by simp; omega
        clear h
        go_wp2
        go_ret
        exact ⟨by rw [HR.out]; rfl, rfl⟩
      · have HR := Lib.hid (show rpv (l.take (k + 1)) = ((16 * a + (c.toNat - 97 + 10) : Nat) : Int) from by rw [HS.out, ← HK.out, HA.out, rstep_ok _ _ (by omega) (by omega), h]; omega)
        have h4 : decide ((c.toNat : Int) ≤ 57) = false := by simp; omega
        clear h
        go_wp2
        go_round
        case rel => exact ⟨k + 1, 16 * a + (c.toNat - 97 + 10), by omega, by go_num, congrArg (Value.int .i64) (by omega), HR.out⟩
        case measure => simp [intOf]; omega
      · have HR := Lib.hid (show rpv l = -1 from HN.out (by rw [HS.out, ← HK.out]; exact rstep_no _ _ (by omega)))
        have h4 : decide ((c.toNat : Int) ≤ 57) = false := by simp; omega
        have h5 : decide ((c.toNat : Int) ≤ 102) = false := by simp; omega
        clear h
        go_wp2
        go_ret
        exact ⟨by rw [HR.out]; rfl, rfl⟩
    · obtain rfl : k = l.length := by omega
      rw [List.take_length] at HA
      go_wp2
      go_ret
      exact ⟨by rw [HA.out]; rfl, rfl⟩

theorem and_15 (n k : Nat) (hn : n < 9223372036854775808) : bits .and .i64 ((n : Int) / 2 ^ k) 15 = ((n / 2 ^ k % 16 : Nat) : Int) := by
  have hk : n / 2 ^ k < 9223372036854775808 := Nat.lt_of_le_of_lt (Nat.div_le_self _ _) hn
  have h := (bits_nat .i64 63 (by decide) (fun m h0 h1 => by simp [IntKind.wrap, IntKind.bits, IntKind.signed]; omega) (n / 2 ^ k) 15 (by omega) (by decide)).1
  rw [show (n / 2 ^ k &&& 15) = n / 2 ^ k % 16 from Nat.and_two_pow_sub_one_eq_mod (n / 2 ^ k) 4] at h
  rw [← h]
  simp

theorem hex_slice (m : Nat) (w : World) : (Instr.slice 9 (.string ⟨#[48, 49, 50, 51, 52, 53, 54, 55, 56, 57, 97, 98, 99, 100, 101, 102]⟩) (some (.int .i64 ((m : Int) % 16))) (some (.int .i64 ((m : Int) % 16 + 1))) none).run Try.prog w = .ok (.string ⟨#[hexd (m % 16)]⟩) w := by
  have h : ∀ d : Fin 16, hexs.extract d.val (d.val + 1) = ⟨#[hexd d.val]⟩ := by decide +kernel
  have h2 := h ⟨m % 16, by omega⟩
  simp only at h2
  have h3 := run_slice_string_if (P := Try.prog) w 9 hexs .i64 .i64 ((m : Int) % 16) ((m : Int) % 16 + 1) Try.underlying9
  rw [if_pos (by rw [hexs_size]; omega), if_pos (by omega)] at h3
  rw [show ((m : Int) % 16).toNat = m % 16 from by omega, show ((m : Int) % 16 + 1).toNat = m % 16 + 1 from by omega, h2] at h3
  exact h3
theorem hex_cell (n k : Nat) (h) : (({ data := #[48, 49, 50, 51, 52, 53, 54, 55, 56, 57, 97, 98, 99, 100, 101, 102] } : ByteArray)[((n : Int) / 2 ^ (4 * (4 - k)) % 16).toNat]'h) = dg n (4 - k) := by
  have e : ((n : Int) / 2 ^ (4 * (4 - k)) % 16).toNat = n / 16 ^ (4 - k) % 16 := by
    have : ((n : Int) / 2 ^ (4 * (4 - k)) % 16) = ((n / 2 ^ (4 * (4 - k)) % 16 : Nat) : Int) := by simp
    rw [this, Int.toNat_natCast, Nat.pow_mul]
  unfold dg
  rw [← hexs_at _ (Nat.mod_lt _ (by decide))]
  show hexs[_]'_ = hexs[_]'_
  congr 1

set_option maxHeartbeats 1000000 in
theorem digits_any (n : Nat) (hn : n < 1048576) (w : World) :
    Calls Try.prog 37 #[.int .i64 n] w fun e w' => e = .returned (.string ⟨(hex5 n).toArray⟩) ∧ w = w' := by
  go_enter Try.func37, Try.ntmps37
  go_wp2
  go_loop [0, 3, 4] (fun m s i => ∃ k : Nat, k ≤ 5 ∧ i = .int .i64 k ∧ m = .int .i64 (n / 16 ^ k : Nat) ∧ s = .string ⟨(rl n k).toArray⟩) (fun _ _ i => 5 - (intOf i).toNat)
  case atStart => exact ⟨0, Nat.zero_le _, rfl, by simp, rfl⟩
  case round =>
    obtain ⟨k, hk, rfl, rfl, rfl⟩ := hrel
    by_cases hlt : k < 5
    · have HM : Hid (n / 16 ^ (k + 1) = n / 16 ^ k / 16) := by show _ = _; rw [Nat.pow_succ, Nat.div_div_eq_div_mul]
      have HR : Hid (rl n (k + 1) = hexd (n / 16 ^ k % 16) :: rl n k) := rfl
      have hm : n / 16 ^ k ≤ n := Nat.div_le_self _ _
      generalize n / 16 ^ k = m at *
      have HLL := Lib.hid (len_rl n k)
      generalize rl n k = L at *
      have hs := hex_slice m w
      obtain ⟨T, hT⟩ : ∃ T : ByteArray, ⟨L.toArray⟩ = T := ⟨_, rfl⟩
      obtain ⟨E, hE⟩ : ∃ E : ByteArray, ⟨#[hexd (m % 16)]⟩ = E := ⟨_, rfl⟩
      have hTs : T.size = k := by rw [← hT]; simpa [ByteArray.size] using HLL.out
      have hEs : E.size = 1 := by rw [← hE]; rfl
      have hsum : ¬ (9223372036854775807 : Int) < (E.size : Int) + T.size := by omega
      have HX : Hid (E ++ T = ⟨(hexd (m % 16) :: L).toArray⟩) := by show _ = _; rw [← hE, ← hT]; apply ByteArray.ext; simp
      rw [hE] at hs
      rw [hT]
      clear hT hE hTs hEs
      go_wp2
      go_round
      case rel => exact ⟨k + 1, by omega, by go_num, by rw [HM.out]; exact congrArg (Value.int .i64) (by omega), by rw [HR.out, HX.out]⟩
      case measure => simp [intOf]; omega
    · obtain rfl : k = 5 := by omega
      go_wp2
      go_ret
      exact ⟨rfl, rfl⟩

set_option maxHeartbeats 1000000 in
theorem appendPart_any (v : Value) (l : List UInt8) (n : Nat) (hn : n < 1048576) (hl : l.length ≤ 100) (w : World) (base : Nat) (hb : base ≤ w.heap.size) (ho : w.ownsRow base 5 1 v l.length (bv l)) :
    Calls Try.prog 36 #[v, .int .i64 n] w fun e w' => ∃ v', e = .returned v' ∧ w'.ownsRow base 5 1 v' (l ++ hex5 n).length (bv (l ++ hex5 n)) ∧ Below base w w' := by
  obtain ⟨i0, hi, hz0, hz1, hz2⟩ := info_parts Try.info5
  have HO := Lib.hid ho
  clear ho
  go_enter Try.func36, Try.ntmps36
  go_wp2
  go_loopw [0, 6] (fun o i wr => ∃ k : Nat, k ≤ 5 ∧ i = .int .i64 k ∧ wr.ownsRow base 5 1 o (l ++ al n k).length (bv (l ++ al n k)) ∧ Below base w wr) (fun _ i _ => 5 - (intOf i).toNat)
  case atStart => exact ⟨0, Nat.zero_le _, rfl, by simpa [al] using HO.out, Below.refl _ _⟩
  case round =>
    obtain ⟨k, hk, rfl, hown, hbw⟩ := hrel
    by_cases hlt : k < 5
    · have hsh0 : (0 : Int) ≤ 4 - (k : Int) := by omega
      have hA := and_15 n (4 * (4 - k)) (by omega)
      have HW := Lib.hid hown
      clear hown
      have hz := hbw.size
      go_wp2_with (at_builtin; refine wpList_append_own _ rfl _ _ 22 rfl base 5 i0 (.int .u8 0) 1 1 Try.underlying22 hi hz0 hz1 hz2 rfl (by decide) _ _ _ rfl (HW.out.alloc _) ⟨wr.heap.size, 0, none⟩ 1 1 [_] rfl rfl (new_cell _ _ _) (one_u8 _) (by unfold maxLen; simp [len_al]; omega) (by simp [len_al]; omega) (by simp; omega) ?_; intro v' w1 ho1 hg1 _)
      have hb1 := (hbw.alloc (by omega) (.cells #[_] 5)).trans (grown_below hg1 (HW.out.alloc _) (by simp; omega))
      rw [hex_cell] at ho1
      have HO1 : Hid (w1.ownsRow base 5 1 v' (l ++ al n (k + 1)).length (bv (l ++ al n (k + 1)))) := by
        have e : bv (l ++ al n (k + 1)) = bv (l ++ al n k) ++ [Value.int .u8 ((dg n (4 - k)).toNat : Int)] := by
          rw [show al n (k + 1) = al n k ++ [dg n (4 - k)] from rfl, ← List.append_assoc, bv_app]; rfl
        have e2 : (l ++ al n (k + 1)).length = (l ++ al n k).length + 1 := by simp [len_al]; omega
        rw [e, e2]
        exact ho1
      clear ho1 hg1
      go_roundw
      case rel => exact ⟨k + 1, by omega, by go_num, HO1.out, hb1⟩
      case measure => simp [intOf]; omega
    · obtain rfl : k = 5 := by omega
      go_wp2
      go_ret
      exact ⟨_, rfl, hown, hbw⟩
end Go.Proofs.Ytcpnmbklkjdjlaa
