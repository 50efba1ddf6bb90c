/- Whole numbers as floats: sums, differences and products of small ones are exact. -/
import Derived.Laws.ComplexArith
namespace Go.Proofs.Ytcpnmbklkjdjlaa
open Ieee

/-- The float of a whole number. -/
def fw (n : Int) : Nat := floatOfInt .f64 n

/-- A datum that stands for a whole number, in some scale. -/
def Is (d : Datum) (n : Int) : Prop := ∃ j : Nat, d = .number (decide (n < 0)) (n.natAbs * 2 ^ j) (-(j : Int))

theorem log2_mul (m j : Nat) (h : m ≠ 0) : (m * 2 ^ j).log2 = m.log2 + j := by
  induction j with
  | zero => simp
  | succ j ih =>
    rw [Nat.pow_succ, ← Nat.mul_assoc, Nat.mul_comm _ 2, Nat.log2_two_mul (Nat.mul_ne_zero h (by exact Nat.ne_of_gt (Nat.two_pow_pos j))), ih]
    omega

theorem cut_zero (neg : Bool) (n : Nat) : Toward.even.cut neg n 0 = n := by
  unfold Toward.cut
  simp [Nat.mod_one]

theorem cut_exact (neg : Bool) (n d : Nat) (way : Toward) (hw : way = .even ∨ way = .zero) : way.cut neg (n * 2 ^ d) d = n := by
  by_cases h : n = 0
  · subst h; rcases hw with rfl | rfl <;> simp [Toward.cut]
  · have h1 : min d ((n * 2 ^ d).log2 + 2) = d := by rw [log2_mul n d h]; omega
    have hp := Nat.two_pow_pos d
    have h2 : n * 2 ^ d / 2 ^ d = n := Nat.mul_div_cancel _ hp
    have h3 : n * 2 ^ d % 2 ^ d = 0 := Nat.mul_mod_left _ _
    unfold Toward.cut
    rw [h1, Nat.one_shiftLeft]
    dsimp only
    rw [h2, h3]
    rcases hw with rfl | rfl
    · have : (2 ^ d == 0) = false := by simp
      simp
    · simp

/-- The kept digits of a small whole number, in whatever scale. -/
theorem nearest_scale (neg : Bool) (m j : Nat) (hm : m ≠ 0) (hs : m < 2 ^ 53) :
    double.nearest neg (m * 2 ^ j) (-(j : Int)) = double.word neg ((m.log2 + 1022) * 2 ^ 52 + m * 2 ^ (52 - m.log2)) := by
  have hl : m.log2 < 53 := (Nat.log2_lt hm).2 hs
  have hne : m * 2 ^ j ≠ 0 := Nat.mul_ne_zero hm (Nat.ne_of_gt (Nat.two_pow_pos j))
  unfold Format.nearest
  rw [if_neg hne, log2_mul m j hm]
  have e0 : double.leastPlace = -1074 := by decide
  have e1 : max (-(j : Int) + ((m.log2 + j : Nat) : Int) - (double.fractionBits : Int)) double.leastPlace = (m.log2 : Int) - 52 := by
    rw [e0, show (double.fractionBits : Int) = 52 from rfl]; omega
  simp only [e1]
  simp only [e0]
  have hk : Toward.even.cut neg ((m * 2 ^ j) <<< (-(j : Int) - ((m.log2 : Int) - 52)).toNat) (((m.log2 : Int) - 52) - (-(j : Int))).toNat = m * 2 ^ (52 - m.log2) := by
    rw [Nat.shiftLeft_eq]
    by_cases h : j + m.log2 ≤ 52
    · rw [show (((m.log2 : Int) - 52) - (-(j : Int))).toNat = 0 from by omega, cut_zero, show (-(j : Int) - ((m.log2 : Int) - 52)).toNat = 52 - m.log2 - j from by omega, Nat.mul_assoc, ← Nat.pow_add]
      congr 2; omega
    · rw [show (-(j : Int) - ((m.log2 : Int) - 52)).toNat = 0 from by omega, Nat.pow_zero, Nat.mul_one]
      have : m * 2 ^ j = (m * 2 ^ (52 - m.log2)) * 2 ^ (j + m.log2 - 52) := by
        rw [Nat.mul_assoc, ← Nat.pow_add]; congr 2; omega
      rw [this, show (((m.log2 : Int) - 52) - (-(j : Int))).toNat = j + m.log2 - 52 from by omega, cut_exact _ _ _ _ (.inl rfl)]
  rw [hk, show ((m.log2 : Int) - 52 - -1074).toNat = m.log2 + 1022 from by omega]
  have hb : double.binade = 2 ^ 52 := rfl
  have hi : double.infRung = 2047 * 2 ^ 52 := by decide
  rw [hb, hi]
  have hu : m * 2 ^ (52 - m.log2) < 2 ^ 53 := by
    have h1 : m < 2 ^ (m.log2 + 1) := Nat.lt_log2_self
    calc m * 2 ^ (52 - m.log2) < 2 ^ (m.log2 + 1) * 2 ^ (52 - m.log2) := Nat.mul_lt_mul_of_pos_right h1 (Nat.two_pow_pos _)
      _ = 2 ^ 53 := by rw [← Nat.pow_add]; congr 1; omega
  congr 1
  omega

theorem fw_zero : fw 0 = 0 := by decide +kernel
theorem fw_pos (n : Int) (h0 : n ≠ 0) (h : n.natAbs < 2 ^ 53) : fw n = double.word (decide (n < 0)) ((n.natAbs.log2 + 1022) * 2 ^ 52 + n.natAbs * 2 ^ (52 - n.natAbs.log2)) := by
  have := nearest_scale (decide (n < 0)) n.natAbs 0 (by omega) h
  rw [Nat.pow_zero, Nat.mul_one] at this
  exact this

theorem write_is {d : Datum} {n : Int} (h : Is d n) (hs : n.natAbs < 2 ^ 53) : double.write d = fw n := by
  obtain ⟨j, rfl⟩ := h
  by_cases h0 : n = 0
  · subst h0
    rw [fw_zero]
    simp [Format.write, Format.nearest, Format.word]
  · rw [fw_pos n h0 hs]
    exact nearest_scale _ _ _ (by omega) hs

theorem is_zero (j : Nat) : Is (.number false 0 (-(j : Int))) 0 := ⟨j, by simp⟩

theorem read_is (n : Int) (hs : n.natAbs < 2 ^ 53) : Is (double.read (fw n)) n := by
  by_cases h0 : n = 0
  · subst h0
    rw [fw_zero]
    have e : double.read 0 = .number false 0 (-((1074 : Nat) : Int)) := by decide
    rw [e]
    exact is_zero 1074
  · rw [fw_pos n h0 hs]
    obtain ⟨m, hm⟩ : ∃ m, n.natAbs = m := ⟨_, rfl⟩
    have hm0 : m ≠ 0 := by omega
    rw [hm] at hs
    have hl : m.log2 < 53 := (Nat.log2_lt hm0).2 hs
    have hu : m * 2 ^ (52 - m.log2) < 2 ^ 53 := by
      have h1 : m < 2 ^ (m.log2 + 1) := Nat.lt_log2_self
      calc m * 2 ^ (52 - m.log2) < 2 ^ (m.log2 + 1) * 2 ^ (52 - m.log2) := Nat.mul_lt_mul_of_pos_right h1 (Nat.two_pow_pos _)
        _ = 2 ^ 53 := by rw [← Nat.pow_add]; congr 1; omega
    have hL : 2 ^ 52 ≤ m * 2 ^ (52 - m.log2) := by
      have h1 : 2 ^ m.log2 ≤ m := Nat.log2_self_le hm0
      calc 2 ^ 52 = 2 ^ m.log2 * 2 ^ (52 - m.log2) := by rw [← Nat.pow_add]; congr 1; omega
        _ ≤ m * 2 ^ (52 - m.log2) := Nat.mul_le_mul_right _ h1
    refine ⟨52 - m.log2, ?_⟩
    rw [hm]
    generalize hK : m * 2 ^ (52 - m.log2) = K at hu hL
    generalize m.log2 = L at hl
    have hw : ∀ b : Bool, double.read (double.word b ((L + 1022) * 2 ^ 52 + K)) = .number b K (-((52 - L : Nat) : Int)) := by
      intro b
      have hsw : double.signWeight = 2 ^ 63 := rfl
      have hb : double.binade = 2 ^ 52 := rfl
      have hi : double.infRung = 2047 * 2 ^ 52 := by decide
      have e0 : double.leastPlace = -1074 := by decide
      have hR : (L + 1022) * 2 ^ 52 + K < 2 ^ 63 := by omega
      unfold Format.read Format.word
      rw [hsw, hb, hi, e0]
      have a1 : ∀ b : Bool, (if b = true then 2 ^ 63 + ((L + 1022) * 2 ^ 52 + K) else (L + 1022) * 2 ^ 52 + K) % 2 ^ 63 = (L + 1022) * 2 ^ 52 + K := by
        intro b; cases b <;> simp <;> omega
      have a2 : ∀ b : Bool, ((if b = true then 2 ^ 63 + ((L + 1022) * 2 ^ 52 + K) else (L + 1022) * 2 ^ 52 + K) / 2 ^ 63 % 2 == 1) = b := by
        intro b; cases b <;> simp <;> omega
      simp only [a1, a2]
      rw [if_neg (by omega), if_pos (by omega)]
      have c1 : ((L + 1022) * 2 ^ 52 + K) % 2 ^ 52 = K - 2 ^ 52 := by omega
      have c2 : ((L + 1022) * 2 ^ 52 + K) / 2 ^ 52 = L + 1023 := by omega
      have d1 : 2 ^ 52 + (K - 2 ^ 52) = K := by omega
      have d2 : (-1074 : Int) + ((L + 1023 - 1 : Nat) : Int) = -((52 - L : Nat) : Int) := by omega
      rw [c1, c2, d1, d2]
    exact hw _

theorem signed_is (n : Int) (j k : Nat) : signed (decide (n < 0)) (n.natAbs * 2 ^ j) k = n * 2 ^ (j + k) := by
  unfold signed
  rw [Nat.shiftLeft_eq, Nat.mul_assoc, ← Nat.pow_add]
  by_cases h : n < 0
  · rw [if_pos (by simpa using h)]
    have : n = -(n.natAbs : Int) := by omega
    rw [this]
    simp [Int.neg_mul]
  · rw [if_neg (by simpa using h)]
    have : n = (n.natAbs : Int) := by omega
    rw [this]
    simp

theorem two_pow_pos_int (j : Nat) : (0 : Int) < 2 ^ j := by
  have := Nat.two_pow_pos j
  have h : ((2 ^ j : Nat) : Int) = (2 : Int) ^ j := by simp
  omega

theorem is_of_total (t : Int) (J : Nat) (s : Bool) (hs : t = 0 → s = false) : Is (.number (if t * 2 ^ J = 0 then s else decide (t * 2 ^ J < 0)) (t * 2 ^ J).natAbs (-(J : Int))) t := by
  have hp := two_pow_pos_int J
  refine ⟨J, ?_⟩
  congr 1
  · by_cases h0 : t = 0
    · subst h0; simp [hs rfl]
    · rw [if_neg (Int.mul_ne_zero h0 (by omega))]
      congr 1
      by_cases hn : t < 0
      · have := Int.mul_neg_of_neg_of_pos hn hp
        simp [hn, this]
      · have := Int.mul_pos (show 0 < t by omega) hp
        simp [hn]; omega
  · have : ((2 : Int) ^ J) = ((2 ^ J : Nat) : Int) := by simp
    rw [Int.natAbs_mul, this, Int.natAbs_natCast]

theorem sum_is {a b : Datum} {x y : Int} (ha : Is a x) (hb : Is b y) : ∃ d, a.sum b = some d ∧ Is d (x + y) := by
  obtain ⟨j, rfl⟩ := ha
  obtain ⟨k, rfl⟩ := hb
  refine ⟨_, rfl, ?_⟩
  have hmin : min (-(j : Int)) (-(k : Int)) = -((max j k : Nat) : Int) := by omega
  simp only [hmin]
  rw [signed_is, signed_is, show j + (-(j : Int) - -((max j k : Nat) : Int)).toNat = max j k from by omega, show k + (-(k : Int) - -((max j k : Nat) : Int)).toNat = max j k from by omega, ← Int.add_mul]
  refine is_of_total _ _ _ fun h => ?_
  by_cases h1 : x < 0
  · have h2 : ¬ y < 0 := by omega
    simp [h2]
  · simp [h1]

theorem diff_is {a b : Datum} {x y : Int} (ha : Is a x) (hb : Is b y) : ∃ d, a.sum b.opposite = some d ∧ Is d (x - y) := by
  obtain ⟨j, rfl⟩ := ha
  obtain ⟨k, rfl⟩ := hb
  refine ⟨_, rfl, ?_⟩
  have hmin : min (-(j : Int)) (-(k : Int)) = -((max j k : Nat) : Int) := by omega
  simp only [hmin]
  have hneg : signed (!decide (y < 0)) (y.natAbs * 2 ^ k) (-(k : Int) - -((max j k : Nat) : Int)).toNat = (-y) * 2 ^ (max j k) := by
    by_cases h0 : y = 0
    · subst h0; simp [signed]
    · have hb : (!decide (y < 0)) = decide (-y < 0) := by
        by_cases h : y < 0
        · simp [h]; omega
        · simp [h]; omega
      rw [hb, ← Int.natAbs_neg, signed_is, show k + (-(k : Int) - -((max j k : Nat) : Int)).toNat = max j k from by omega]
  rw [signed_is, hneg, show j + (-(j : Int) - -((max j k : Nat) : Int)).toNat = max j k from by omega, ← Int.add_mul, ← Int.sub_eq_add_neg]
  refine is_of_total _ _ _ fun h => ?_
  by_cases h1 : x < 0
  · have h2 : y < 0 := by omega
    simp [h2]
  · simp [h1]

theorem prod_is {a b : Datum} {x y : Int} (ha : Is a x) (hb : Is b y) (h : x * y ≠ 0 ∨ (0 ≤ x ∧ 0 ≤ y)) : ∃ d, a.product b = some d ∧ Is d (x * y) := by
  obtain ⟨j, rfl⟩ := ha
  obtain ⟨k, rfl⟩ := hb
  refine ⟨_, rfl, j + k, ?_⟩
  congr 1
  · by_cases h1 : x < 0 <;> by_cases h2 : y < 0
    · have := Int.mul_pos_of_neg_of_neg h1 h2
      simp [h1, h2]; omega
    · have h3 : x * y ≠ 0 := by rcases h with h | h; exact h; omega
      have hy : y ≠ 0 := fun e => h3 (by rw [e, Int.mul_zero])
      have := Int.mul_neg_of_neg_of_pos h1 (show 0 < y by omega)
      simp [h1, h2, this]
    · have h3 : x * y ≠ 0 := by rcases h with h | h; exact h; omega
      have hx : x ≠ 0 := fun e => h3 (by rw [e, Int.zero_mul])
      have := Int.mul_neg_of_pos_of_neg (show 0 < x by omega) h2
      simp [h1, h2, this]
    · have := Int.mul_nonneg (show 0 ≤ x by omega) (show 0 ≤ y by omega)
      simp [h1, h2]; omega
  · rw [Int.natAbs_mul, Nat.pow_add]
    simp only [Nat.mul_assoc, Nat.mul_left_comm]
  · omega

theorem fw_add (x y : Int) (hx : x.natAbs < 2 ^ 53) (hy : y.natAbs < 2 ^ 53) (h : (x + y).natAbs < 2 ^ 53) : floatBits .add .f64 (fw x) (fw y) = some (fw (x + y)) := by
  obtain ⟨d, h1, h2⟩ := sum_is (read_is x hx) (read_is y hy)
  show ((double.read (fw x)).sum (double.read (fw y))).map double.write = _
  rw [h1, Option.map_some, write_is h2 h]
theorem fw_sub (x y : Int) (hx : x.natAbs < 2 ^ 53) (hy : y.natAbs < 2 ^ 53) (h : (x - y).natAbs < 2 ^ 53) : floatBits .sub .f64 (fw x) (fw y) = some (fw (x - y)) := by
  obtain ⟨d, h1, h2⟩ := diff_is (read_is x hx) (read_is y hy)
  show ((double.read (fw x)).sum (double.read (fw y)).opposite).map double.write = _
  rw [h1, Option.map_some, write_is h2 h]
theorem fw_mul (x y : Int) (hx : x.natAbs < 2 ^ 53) (hy : y.natAbs < 2 ^ 53) (h : (x * y).natAbs < 2 ^ 53) (hz : x * y ≠ 0 ∨ (0 ≤ x ∧ 0 ≤ y)) : floatBits .mul .f64 (fw x) (fw y) = some (fw (x * y)) := by
  obtain ⟨d, h1, h2⟩ := prod_is (read_is x hx) (read_is y hy) hz
  show ((double.read (fw x)).product (double.read (fw y))).map double.write = _
  rw [h1, Option.map_some, write_is h2 h]
theorem fw_int (x : Int) (hx : x.natAbs < 2 ^ 53) : floatToIntVal .f64 (fw x) .i64 = some x := by
  obtain ⟨j, hd⟩ := read_is x hx
  have hi : (double.read (fw x)).toInt .zero = some x := by
    rw [hd]
    unfold Datum.toInt Datum.integral
    have h1 : (-(j : Int)).toNat = 0 := by omega
    have h2 : (- -(j : Int)).toNat = j := by omega
    simp only [h1, h2, Nat.shiftLeft_zero]
    rw [cut_exact _ _ _ _ (.inr rfl)]
    have := signed_is x 0 0
    simpa using this
  unfold floatToIntVal
  show (match (double.read (fw x)).toInt .zero with | some n => if IntKind.i64.min ≤ n ∧ n ≤ IntKind.i64.max then some n else none | none => none) = _
  rw [hi]
  show (if IntKind.i64.min ≤ x ∧ x ≤ IntKind.i64.max then some x else none) = _
  rw [if_pos]
  have e1 : IntKind.i64.min = -9223372036854775808 := by decide
  have e2 : IntKind.i64.max = 9223372036854775807 := by decide
  rw [e1, e2]
  omega
theorem fw_one : fw 1 = 4607182418800017408 := by decide +kernel
theorem fw_two : fw 2 = 4611686018427387904 := by decide +kernel
theorem fw_three : fw 3 = 4613937818241073152 := by decide +kernel
theorem fw_256 : fw 256 = 4643211215818981376 := by decide +kernel

/-- Products and sums of complex numbers whose parts are small and not below 0. -/
theorem fw_cmul (a b c d : Int) (ha : 0 ≤ a) (hb : 0 ≤ b) (hc : 0 ≤ c) (hd : 0 ≤ d) (ha' : a < 1048576) (hb' : b < 1048576) (hc' : c < 1048576) (hd' : d < 1048576) :
    cMulBits (fw a) (fw b) (fw c) (fw d) = some (fw (a * c - b * d), fw (a * d + b * c)) := by
  have key : ∀ x y : Int, 0 ≤ x → 0 ≤ y → x < 1048576 → y < 1048576 → 0 ≤ x * y ∧ x * y ≤ 1099511627776 := fun x y h1 h2 h3 h4 =>
    ⟨Int.mul_nonneg h1 h2, by
      calc x * y ≤ 1048576 * 1048576 := Int.mul_le_mul (by omega) (by omega) h2 (by decide)
        _ = 1099511627776 := by decide⟩
  have k1 := key a c ha hc ha' hc'
  have k2 := key b d hb hd hb' hd'
  have k3 := key a d ha hd ha' hd'
  have k4 := key b c hb hc hb' hc'
  unfold cMulBits
  rw [fw_mul a c (by omega) (by omega) (by omega) (.inr ⟨ha, hc⟩), fw_mul b d (by omega) (by omega) (by omega) (.inr ⟨hb, hd⟩), fw_mul a d (by omega) (by omega) (by omega) (.inr ⟨ha, hd⟩), fw_mul b c (by omega) (by omega) (by omega) (.inr ⟨hb, hc⟩)]
  simp only [Option.bind_some]
  rw [fw_sub _ _ (by omega) (by omega) (by omega), Option.bind_some, fw_add _ _ (by omega) (by omega) (by omega), Option.bind_some]
theorem fw_cadd (a b c d : Int) (ha : a.natAbs < 4503599627370496) (hb : b.natAbs < 4503599627370496) (hc : c.natAbs < 4503599627370496) (hd : d.natAbs < 4503599627370496) :
    cSumBits .add .f64 (fw a) (fw b) (fw c) (fw d) = some (fw (a + c), fw (b + d)) := by
  unfold cSumBits
  rw [fw_add _ _ (by omega) (by omega) (by omega), Option.bind_some, fw_add _ _ (by omega) (by omega) (by omega), Option.bind_some]
end Go.Proofs.Ytcpnmbklkjdjlaa
