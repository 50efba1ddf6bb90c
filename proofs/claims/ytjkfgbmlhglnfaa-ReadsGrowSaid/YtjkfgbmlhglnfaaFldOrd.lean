/- Plain facts on numbers' fields: two numbers stand as their fields' bytes do; a field is read as its number. -/
import Derived.Test.YtjkfgbmlhglnfaaBase
namespace Go.Proofs.Ytjkfgbmlhglnfaa
open Go.RowKit

theorem bytesLess_cons (a b : UInt8) (x y : List UInt8) : Op.bytesLess (a :: x) (b :: y) = (decide (a < b) || (a == b && Op.bytesLess x y)) := rfl

/-- The field of a number that is not below 0, by natural numbers. -/
def nfld : Nat → Nat → List UInt8
  | 0, _ => []
  | k + 1, x => UInt8.ofNat (x / 2 ^ (8 * k) % 256) :: nfld k x
theorem fbyte_nat (k x i : Nat) : fbyte k (x : Int) i = UInt8.ofNat (x / 2 ^ (8 * (k - 1 - i)) % 256) := by
  unfold fbyte
  have h : ((x : Int) / 2 ^ (8 * (k - 1 - i)) % 256) = ((x / 2 ^ (8 * (k - 1 - i)) % 256 : Nat) : Int) := by simp
  rw [h, Int.toNat_natCast]
theorem fld_nat (k x : Nat) : fld k (x : Int) = nfld k x := by
  induction k with
  | zero => rfl
  | succ k ih =>
    unfold fld fldTo
    rw [List.range_succ_eq_map, List.map_cons, List.map_map]
    unfold nfld
    rw [fbyte_nat]
    congr 1
    rw [← ih]
    refine List.map_congr_left fun i hi => ?_
    rw [List.mem_range] at hi
    show fbyte (k + 1) (x : Int) (i + 1) = _
    rw [fbyte_nat, fbyte_nat, show k + 1 - 1 - (i + 1) = k - 1 - i from by omega]
theorem len_nfld (k x : Nat) : (nfld k x).length = k := by
  induction k with
  | zero => rfl
  | succ k ih => simp [nfld, ih]
theorem mod_div_256 (X a b : Nat) (h : b + 8 ≤ a) : X % 2 ^ a / 2 ^ b % 256 = X / 2 ^ b % 256 := by
  rw [show 2 ^ a = 2 ^ b * 2 ^ (a - b) from by rw [← Nat.pow_add]; congr 1; omega, Nat.mod_mul_right_div_self, show (256 : Nat) = 2 ^ 8 from rfl]
  exact Nat.mod_mod_of_dvd _ (Nat.pow_dvd_pow 2 (by omega))
theorem nfld_mod (k a x : Nat) (h : 8 * k ≤ a) : nfld k (x % 2 ^ a) = nfld k x := by
  induction k with
  | zero => rfl
  | succ k ih => unfold nfld; rw [mod_div_256 _ _ _ (by omega), ih (by omega)]

theorem ofNat_lt (a b : Nat) (ha : a < 256) (hb : b < 256) : (UInt8.ofNat a < UInt8.ofNat b) = (a < b) := by
  rw [UInt8.lt_iff_toNat_lt, UInt8.toNat_ofNat', UInt8.toNat_ofNat', Nat.mod_eq_of_lt ha, Nat.mod_eq_of_lt hb]
theorem ofNat_eq (a b : Nat) (ha : a < 256) (hb : b < 256) : (UInt8.ofNat a = UInt8.ofNat b) ↔ a = b := by
  refine ⟨fun h => ?_, fun h => by rw [h]⟩
  have := congrArg UInt8.toNat h
  rwa [UInt8.toNat_ofNat', UInt8.toNat_ofNat', Nat.mod_eq_of_lt ha, Nat.mod_eq_of_lt hb] at this

theorem nfld_less (k : Nat) : ∀ x y : Nat, x < 2 ^ (8 * k) → y < 2 ^ (8 * k) → Op.bytesLess (nfld k x) (nfld k y) = decide (x < y) := by
  induction k with
  | zero => intro x y hx hy; simp at hx hy; subst hx hy; rfl
  | succ k ih =>
    intro x y hx hy
    have hp : 0 < 2 ^ (8 * k) := Nat.two_pow_pos _
    have e : 2 ^ (8 * (k + 1)) = 2 ^ (8 * k) * 256 := by rw [Nat.mul_succ, Nat.pow_add]
    rw [e] at hx hy
    have h1 : x / 2 ^ (8 * k) < 256 := Nat.div_lt_of_lt_mul hx
    have h2 : y / 2 ^ (8 * k) < 256 := Nat.div_lt_of_lt_mul hy
    have ih' := ih (x % 2 ^ (8 * k)) (y % 2 ^ (8 * k)) (Nat.mod_lt _ hp) (Nat.mod_lt _ hp)
    rw [nfld_mod _ _ _ (Nat.le_refl _), nfld_mod _ _ _ (Nat.le_refl _)] at ih'
    unfold nfld
    rw [bytesLess_cons, ih', Nat.mod_eq_of_lt h1, Nat.mod_eq_of_lt h2]
    have d1 := Nat.div_add_mod x (2 ^ (8 * k))
    have d2 := Nat.div_add_mod y (2 ^ (8 * k))
    have m1 := Nat.mod_lt x hp
    have m2 := Nat.mod_lt y hp
    rw [Bool.eq_iff_iff]
    simp only [Bool.or_eq_true, Bool.and_eq_true, decide_eq_true_eq, beq_iff_eq, ofNat_lt _ _ h1 h2, ofNat_eq _ _ h1 h2]
    generalize 2 ^ (8 * k) = P at *
    generalize x / P = a at *
    generalize y / P = b at *
    generalize x % P = c at *
    generalize y % P = d at *
    constructor
    · rintro (h | ⟨h, h'⟩)
      · have := Nat.mul_le_mul_left P (show a + 1 ≤ b from h)
        rw [Nat.mul_add] at this
        omega
      · subst h; omega
    · intro h
      rcases Nat.lt_trichotomy a b with h' | h' | h'
      · exact .inl h'
      · subst h'; exact .inr ⟨rfl, by omega⟩
      · have := Nat.mul_le_mul_left P (show b + 1 ≤ a from h')
        rw [Nat.mul_add] at this
        omega
theorem nfld_inj (k : Nat) : ∀ x y : Nat, x < 2 ^ (8 * k) → y < 2 ^ (8 * k) → (nfld k x = nfld k y ↔ x = y) := by
  intro x y hx hy
  refine ⟨fun h => ?_, fun h => by rw [h]⟩
  have a := nfld_less k x y hx hy
  have b := nfld_less k y x hy hx
  rw [h] at a b
  have c := nfld_less k y y hy hy
  simp at c
  rw [c] at a b
  simp at a b
  omega

theorem fld_less (k : Nat) (x y : Int) (hx0 : 0 ≤ x) (hx : x < 2 ^ (8 * k)) (hy0 : 0 ≤ y) (hy : y < 2 ^ (8 * k)) : Op.bytesLess (fld k x) (fld k y) = decide (x < y) := by
  obtain ⟨X, rfl⟩ := Int.eq_ofNat_of_zero_le hx0
  obtain ⟨Y, rfl⟩ := Int.eq_ofNat_of_zero_le hy0
  rw [fld_nat, fld_nat, nfld_less k X Y (by exact_mod_cast hx) (by exact_mod_cast hy), Bool.eq_iff_iff]
  simp
theorem fld_same (k : Nat) (x y : Int) (hx0 : 0 ≤ x) (hx : x < 2 ^ (8 * k)) (hy0 : 0 ≤ y) (hy : y < 2 ^ (8 * k)) : (fld k x == fld k y) = decide (x = y) := by
  obtain ⟨X, rfl⟩ := Int.eq_ofNat_of_zero_le hx0
  obtain ⟨Y, rfl⟩ := Int.eq_ofNat_of_zero_le hy0
  rw [fld_nat, fld_nat, Bool.eq_iff_iff]
  simp only [beq_iff_eq, decide_eq_true_eq]
  rw [nfld_inj k X Y (by exact_mod_cast hx) (by exact_mod_cast hy)]
  omega

/-- A number's lowest bits. -/
theorem i64_mask (k : Nat) (hk : k ≤ 63) (m : Int) (hm : m = 2 ^ k - 1) (n : Int) : bits .and .i64 n m = n % 2 ^ k := by
  subst hm
  have hp : 2 ^ k ≤ 2 ^ 63 := Nat.pow_le_pow_right (by decide) hk
  have hp0 : 0 < 2 ^ k := Nat.two_pow_pos k
  have hc : ((2 : Int) ^ k - 1) = ((2 ^ k - 1 : Nat) : Int) := by
    rw [Int.natCast_sub hp0]; simp
  have hm : (BitVec.ofInt 64 ((2 : Int) ^ k - 1)).toNat = 2 ^ k - 1 := by
    rw [hc, BitVec.ofInt_natCast, BitVec.toNat_ofNat]
    exact Nat.mod_eq_of_lt (by omega)
  have key : (BitVec.ofInt 64 n &&& BitVec.ofInt 64 ((2 : Int) ^ k - 1)).toNat = (n % ((2 ^ 64 : Nat) : Int)).toNat % 2 ^ k := by
    rw [BitVec.toNat_and, BitVec.toNat_ofInt, hm, Nat.and_two_pow_sub_one_eq_mod]
  show IntKind.i64.wrap ((BitVec.ofInt 64 n &&& BitVec.ofInt 64 ((2 : Int) ^ k - 1)).toNat : Nat) = n % 2 ^ k
  rw [key, IntKind.wrap_i64]
  have h1 : ((n % ((2 ^ 64 : Nat) : Int)).toNat : Int) = n % ((2 ^ 64 : Nat) : Int) := Int.toNat_of_nonneg (Int.emod_nonneg _ (by decide))
  have h2 : (((n % ((2 ^ 64 : Nat) : Int)).toNat % 2 ^ k : Nat) : Int) = n % 2 ^ k := by
    rw [Int.natCast_emod, h1]
    rw [show ((2 ^ k : Nat) : Int) = (2 : Int) ^ k from by simp]
    refine Int.emod_emod_of_dvd n ?_
    rw [show ((2 ^ 64 : Nat) : Int) = (2 : Int) ^ k * 2 ^ (64 - k) from by rw [← Int.pow_add, show k + (64 - k) = 64 from by omega]; rfl]
    exact Int.dvd_mul_right _ _
  rw [h2]
  have h0 : ((2 ^ k : Nat) : Int) = (2 : Int) ^ k := by simp
  have h3 : 0 ≤ n % (2 : Int) ^ k := Int.emod_nonneg _ (by omega)
  have h4 : n % (2 : Int) ^ k < 2 ^ k := Int.emod_lt_of_pos _ (by omega)
  have h5 : (2 : Int) ^ k ≤ 9223372036854775808 := by
    have : ((2 ^ k : Nat) : Int) ≤ ((2 ^ 63 : Nat) : Int) := by exact_mod_cast hp
    simpa using this
  omega
end Go.Proofs.Ytjkfgbmlhglnfaa
