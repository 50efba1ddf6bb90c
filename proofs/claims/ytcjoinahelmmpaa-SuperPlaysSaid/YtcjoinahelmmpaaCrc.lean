/- The sum of bytes, bit by bit, as a map that is linear over exclusive or; bits that are turned within 32 that follow one another are told. Plain. -/
import Derived.Test.YtcjoinahelmmpaaBase
namespace Go.Proofs.Ytcjoinahelmmpaa

def cpoly : Nat := 2197175160
def cbit (c : Nat) : Nat := (c / 2) ^^^ (if c % 2 = 1 then cpoly else 0)
def cit : Nat → Nat → Nat
  | 0, c => c
  | k + 1, c => cbit (cit k c)
def cbyte (s : Nat) (c : UInt8) : Nat := cit 8 (s ^^^ c.toNat)
def crcl (l : List UInt8) : Nat := l.foldl cbyte 4294967295
theorem crcl_nil : crcl [] = 4294967295 := rfl
theorem crcl_snoc (l : List UInt8) (c : UInt8) : crcl (l ++ [c]) = cbyte (crcl l) c := by simp [crcl]

theorem cpoly_lt : cpoly < 2 ^ 32 := by decide
theorem cpoly_top : 2 ^ 31 ≤ cpoly := by decide
theorem cbit_lt {c : Nat} (h : c < 2 ^ 32) : cbit c < 2 ^ 32 := by
  unfold cbit
  refine Nat.xor_lt_two_pow (by omega) ?_
  split
  · exact cpoly_lt
  · decide
theorem cit_lt (k : Nat) {c : Nat} (h : c < 2 ^ 32) : cit k c < 2 ^ 32 := by
  induction k with
  | zero => exact h
  | succ k ih => exact cbit_lt ih
theorem cbyte_lt {s : Nat} (h : s < 2 ^ 32) (c : UInt8) : cbyte s c < 2 ^ 32 := by
  have := c.toNat_lt
  exact cit_lt 8 (Nat.xor_lt_two_pow h (by omega))
theorem crcg_lt (l : List UInt8) : ∀ s, s < 2 ^ 32 → l.foldl cbyte s < 2 ^ 32 := by
  induction l with
  | nil => intro s h; exact h
  | cons c l ih => intro s h; exact ih _ (cbyte_lt h c)
theorem crcl_lt (l : List UInt8) : crcl l < 4294967296 := crcg_lt l _ (by decide)

theorem cbit_bit (c i : Nat) : (cbit c).testBit i = (c.testBit (i + 1) ^^ (c.testBit 0 && cpoly.testBit i)) := by
  unfold cbit
  rw [Nat.testBit_xor, Nat.testBit_succ]
  congr 1
  rw [Nat.testBit_zero]
  by_cases h : c % 2 = 1 <;> simp [h]
theorem cbit_xor (a b : Nat) : cbit (a ^^^ b) = cbit a ^^^ cbit b := by
  refine Nat.eq_of_testBit_eq fun i => ?_
  rw [Nat.testBit_xor, cbit_bit, cbit_bit, cbit_bit, Nat.testBit_xor, Nat.testBit_xor]
  cases a.testBit (i + 1) <;> cases b.testBit (i + 1) <;> cases a.testBit 0 <;> cases b.testBit 0 <;> cases cpoly.testBit i <;> rfl
theorem cit_xor (k a b : Nat) : cit k (a ^^^ b) = cit k a ^^^ cit k b := by
  induction k with
  | zero => rfl
  | succ k ih => show cbit (cit k (a ^^^ b)) = _; rw [ih, cbit_xor]; rfl
theorem cit_add (a b x : Nat) : cit (a + b) x = cit a (cit b x) := by
  induction a with
  | zero => rw [Nat.zero_add]; rfl
  | succ a ih => rw [Nat.succ_add]; show cbit (cit (a + b) x) = cbit (cit a (cit b x)); rw [ih]
theorem cbit_two (y : Nat) : cbit (2 * y) = y := by
  unfold cbit
  rw [if_neg (by omega), show 2 * y / 2 = y from by omega, Nat.xor_zero]
theorem cit_shift (k y : Nat) : cit k (2 ^ k * y) = y := by
  induction k generalizing y with
  | zero => simp [cit]
  | succ k ih =>
    show cbit (cit k (2 ^ (k + 1) * y)) = y
    rw [Nat.pow_succ, Nat.mul_assoc, ih, cbit_two]
theorem cbit_ne {c : Nat} (h : c < 2 ^ 32) (h0 : c ≠ 0) : cbit c ≠ 0 := by
  unfold cbit
  by_cases hc : c % 2 = 1
  · rw [if_pos hc]
    intro e
    have : c / 2 = cpoly := by
      have := congrArg (· ^^^ cpoly) e
      simpa [Nat.xor_assoc] using this
    have := cpoly_top
    omega
  · rw [if_neg hc, Nat.xor_zero]; omega
theorem cit_ne (k : Nat) {c : Nat} (h : c < 2 ^ 32) (h0 : c ≠ 0) : cit k c ≠ 0 := by
  induction k with
  | zero => exact h0
  | succ k ih => exact cbit_ne (cit_lt k h) ih

/-- Bytes as one number, the lowest bit of the first byte first. -/
def ln : List UInt8 → Nat
  | [] => 0
  | c :: l => c.toNat ^^^ 256 * ln l
theorem crcg_ln (l : List UInt8) : ∀ s, l.foldl cbyte s = cit (8 * l.length) (s ^^^ ln l) := by
  induction l with
  | nil => intro s; simp [cit, ln]
  | cons c l ih =>
    intro s
    rw [List.foldl_cons, ih, List.length_cons, Nat.mul_add, cit_add]
    congr 1
    rw [show ln (c :: l) = c.toNat ^^^ 2 ^ 8 * ln l from rfl, ← Nat.xor_assoc, cit_xor, cit_shift]
    rfl
/-- Turned bits are told. -/
theorem crcl_turned (l m : List UInt8) (E f : Nat) (hl : m.length = l.length) (h : ln m = ln l ^^^ 2 ^ f * E) (hE : E < 2 ^ 32) (h0 : E ≠ 0) (hf : f ≤ 8 * l.length) : crcl l ≠ crcl m := by
  intro e
  unfold crcl at e
  rw [crcg_ln, crcg_ln, hl, h, ← Nat.xor_assoc, cit_xor _ (4294967295 ^^^ ln l)] at e
  have e2 : cit (8 * l.length) (2 ^ f * E) = 0 := by
    have := congrArg (cit (8 * l.length) (4294967295 ^^^ ln l) ^^^ ·) e
    simp only [Nat.xor_self, ← Nat.xor_assoc, Nat.zero_xor] at this
    exact this.symm
  rw [show 8 * l.length = (8 * l.length - f) + f from by omega, cit_add, cit_shift] at e2
  exact cit_ne _ hE h0 e2

theorem ln_bit (l : List UInt8) : ∀ i, (ln l).testBit i = ((l[i / 8]?.getD 0).toNat).testBit (i % 8) := by
  induction l with
  | nil => intro i; simp [ln]
  | cons c l ih =>
    intro i
    unfold ln
    rw [Nat.testBit_xor, show 256 * ln l = 2 ^ 8 * ln l from rfl, Nat.testBit_two_pow_mul]
    have hc := c.toNat_lt
    by_cases h : i < 8
    · rw [show i / 8 = 0 from by omega, show i % 8 = i from by omega]
      simp [show ¬ 8 ≤ i from by omega]
    · rw [show i / 8 = (i - 8) / 8 + 1 from by omega, show i % 8 = (i - 8) % 8 from by omega]
      have h1 : c.toNat.testBit i = false := Nat.testBit_lt_two_pow (Nat.lt_of_lt_of_le hc (Nat.pow_le_pow_right (by decide) (by omega : 8 ≤ i)))
      rw [h1, ih (i - 8)]
      simp [show 8 ≤ i from by omega]
/-- One bit of one byte, turned. -/
theorem ln_set (l : List UInt8) (k r : Nat) (c : UInt8) (hk : l[k]? = some c) (hr : r < 8) (d : UInt8) (hd : d.toNat = c.toNat ^^^ 2 ^ r) : ln (l.set k d) = ln l ^^^ 2 ^ (8 * k + r) := by
  have hkl : k < l.length := by
    rcases Nat.lt_or_ge k l.length with h | h
    · exact h
    · rw [List.getElem?_eq_none h] at hk; cases hk
  refine Nat.eq_of_testBit_eq fun i => ?_
  rw [Nat.testBit_xor, ln_bit, ln_bit, Nat.testBit_two_pow, List.getElem?_set]
  by_cases h : k = i / 8
  · subst h
    rw [if_pos rfl, if_pos hkl, hk]
    simp only [Option.getD_some]
    rw [hd, Nat.testBit_xor, Nat.testBit_two_pow]
    congr 1
    rw [Bool.eq_iff_iff]; simp; omega
  · rw [if_neg h]
    have : decide (8 * k + r = i) = false := by simp; omega
    rw [this]; simp
end Go.Proofs.Ytcjoinahelmmpaa
