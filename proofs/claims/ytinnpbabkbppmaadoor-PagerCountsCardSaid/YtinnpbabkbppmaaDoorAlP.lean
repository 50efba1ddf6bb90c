/- Layer 7, plain: how many bits are set; flags turned. -/
import Derived.Test.YtinnpbabkbppmaaDoorAlA
import Derived.Lib.BitFns
namespace Go.Proofs.YtinnpbabkbppmaaDoor

theorem and_dig (h M l m : Nat) (hl : l < 256) (hm : m < 256) : (256 * h + l) &&& (256 * M + m) = 256 * (h &&& M) + (l &&& m) := by
  have hlm : l &&& m < 2 ^ 8 := Nat.and_lt_two_pow _ hm
  apply Nat.eq_of_testBit_eq
  intro j
  rw [Nat.testBit_and, show (256 : Nat) = 2 ^ 8 from rfl, Nat.testBit_two_pow_mul_add _ hl, Nat.testBit_two_pow_mul_add _ hm, Nat.testBit_two_pow_mul_add _ hlm]
  split <;> rw [Nat.testBit_and]
def msk (c : Nat) : Nat → Nat
  | 0 => 0
  | n + 1 => 256 * msk c n + c
def popA (n x : Nat) : Nat := (x / 2 &&& msk 85 n) + (x &&& msk 85 n)
def popB (n x : Nat) : Nat := (x / 4 &&& msk 51 n) + (x &&& msk 51 n)
def popC (n x : Nat) : Nat := x / 16 + x &&& msk 15 n
def a8 (b : Nat) : Nat := (b / 2 &&& 85) + (b &&& 85)
def b8 (b : Nat) : Nat := (b / 4 &&& 51) + (b &&& 51)
theorem a8_lt : ∀ b, b < 256 → a8 b < 256 := by decide +kernel
theorem b8_ok : ∀ b, b < 256 → b8 (a8 b) < 256 ∧ b8 (a8 b) / 16 ≤ 4 ∧ b8 (a8 b) % 16 ≤ 4 ∧ b8 (a8 b) / 16 + b8 (a8 b) % 16 = Lib.popAux 8 b := by decide +kernel
theorem m85 : ∀ c, c < 2 → ∀ b, b < 128 → (128 * c + b) &&& 85 = b &&& 85 := by decide +kernel
theorem m51 : ∀ c, c < 4 → ∀ b, b < 64 → (64 * c + b) &&& 51 = b &&& 51 := by decide +kernel
theorem m15 : ∀ c, c < 9 → ∀ b, b < 9 → (16 * c + b) &&& 15 = b := by decide +kernel
theorem popA_step (n y b : Nat) (hb : b < 256) : popA (n + 1) (256 * y + b) = 256 * popA n y + a8 b := by
  unfold popA a8
  rw [show msk 85 (n + 1) = 256 * msk 85 n + 85 from rfl, show (256 * y + b) / 2 = 256 * (y / 2) + (128 * (y % 2) + b / 2) from by omega, and_dig _ _ _ _ (by omega) (by decide), and_dig _ _ _ _ hb (by decide), m85 _ (by omega) _ (by omega)]
  omega
theorem popB_step (n y b : Nat) (hb : b < 256) : popB (n + 1) (256 * y + b) = 256 * popB n y + b8 b := by
  unfold popB b8
  rw [show msk 51 (n + 1) = 256 * msk 51 n + 51 from rfl, show (256 * y + b) / 4 = 256 * (y / 4) + (64 * (y % 4) + b / 4) from by omega, and_dig _ _ _ _ (by omega) (by decide), and_dig _ _ _ _ hb (by decide), m51 _ (by omega) _ (by omega)]
  omega
theorem popC_step (n y b : Nat) (hb : b < 256) (h1 : b / 16 ≤ 4) (h2 : b % 16 ≤ 4) (h3 : y % 16 ≤ 4) : popC (n + 1) (256 * y + b) = 256 * popC n y + (b / 16 + b % 16) := by
  unfold popC
  rw [show msk 15 (n + 1) = 256 * msk 15 n + 15 from rfl, show (256 * y + b) / 16 + (256 * y + b) = 256 * (y / 16 + y) + (16 * (y % 16 + b / 16) + (b / 16 + b % 16)) from by omega, and_dig _ _ _ _ (by omega) (by decide), m15 _ (by omega) _ (by omega)]
/-- The bytes' numbers of bits. -/
def dsum : Nat → Nat → Nat
  | 0, _ => 0
  | n + 1, x => 256 * dsum n (x / 256) + Lib.popAux 8 (x % 256)
theorem pop_all (n x : Nat) : popC n (popB n (popA n x)) = dsum n x ∧ popB n (popA n x) % 16 ≤ 4 := by
  induction n generalizing x with
  | zero => unfold popC popB popA msk dsum; simp
  | succ n ih =>
    have hb : x % 256 < 256 := Nat.mod_lt _ (by decide)
    obtain ⟨k1, k2, k3, k4⟩ := b8_ok _ hb
    obtain ⟨i1, i2⟩ := ih (x / 256)
    have e1 : popA (n + 1) x = 256 * popA n (x / 256) + a8 (x % 256) := by rw [← popA_step n _ _ hb]; congr 1; omega
    have e2 : popB (n + 1) (popA (n + 1) x) = 256 * popB n (popA n (x / 256)) + b8 (a8 (x % 256)) := by rw [e1, popB_step n _ _ (a8_lt _ hb)]
    rw [e2, popC_step n _ _ k1 k2 k3 i2, i1, k4]
    exact ⟨rfl, by omega⟩
theorem popAux_le (n x : Nat) : Lib.popAux n x ≤ n := by
  induction n generalizing x with
  | zero => exact Nat.le_refl _
  | succ n ih => rw [Lib.popAux]; have := ih (x / 2); omega
theorem popAux_mod (m x : Nat) : Lib.popAux m (x % 2 ^ m) = Lib.popAux m x := by
  induction m generalizing x with
  | zero => rfl
  | succ m ih =>
    rw [Lib.popAux, Lib.popAux, Nat.pow_succ, Nat.mul_comm, Nat.mod_mul_right_div_self, Nat.mod_mul_right_mod, ih]
theorem popAux_add (m n x : Nat) : Lib.popAux (m + n) x = Lib.popAux m x + Lib.popAux n (x / 2 ^ m) := by
  induction m generalizing x with
  | zero => rw [Nat.zero_add, Nat.pow_zero, Nat.div_one, Lib.popAux, Nat.zero_add]
  | succ m ih =>
    rw [show m + 1 + n = m + n + 1 from by omega, Lib.popAux, ih, Lib.popAux, Nat.div_div_eq_div_mul, Nat.pow_succ, Nat.mul_comm 2]
    omega
theorem popAux8 (n x : Nat) : Lib.popAux (8 + n) x = Lib.popAux 8 (x % 256) + Lib.popAux n (x / 256) := by
  rw [popAux_add 8 n x, ← popAux_mod 8 x]
theorem divc (c A r : Nat) (hr : r < c) : (c * A + r) / c = A := by
  rw [Nat.mul_add_div (by omega), Nat.div_eq_of_lt hr, Nat.add_zero]
theorem sum8 (p0 p1 p2 p3 p4 p5 p6 p7 X : Nat) (b0 : p0 ≤ 8) (b1 : p1 ≤ 8) (b2 : p2 ≤ 8) (b3 : p3 ≤ 8) (b4 : p4 ≤ 8) (b5 : p5 ≤ 8) (b6 : p6 ≤ 8) (b7 : p7 ≤ 8)
    (hX : X = p0 + 256 * p1 + 65536 * p2 + 16777216 * p3 + 4294967296 * p4 + 1099511627776 * p5 + 281474976710656 * p6 + 72057594037927936 * p7) :
    ∃ y4 y5 y6, y4 = X + X / 256 ∧ y5 = y4 + y4 / 65536 ∧ y6 = y5 + y5 / 4294967296 ∧ y4 < 18446744073709551616 ∧ y5 < 18446744073709551616 ∧ y6 < 9223372036854775808 ∧ y6 % 128 = p0 + p1 + p2 + p3 + p4 + p5 + p6 + p7 := by
  have d1 : X / 256 = p1 + 256 * p2 + 65536 * p3 + 16777216 * p4 + 4294967296 * p5 + 1099511627776 * p6 + 281474976710656 * p7 := by
    rw [← divc 256 (p1 + 256 * p2 + 65536 * p3 + 16777216 * p4 + 4294967296 * p5 + 1099511627776 * p6 + 281474976710656 * p7) p0 (by clear hX; omega)]
    congr 1
    rw [hX]
    clear b0 b1 b2 b3 b4 b5 b6 b7 hX
    omega
  obtain ⟨y4, e4⟩ : ∃ y4, y4 = X + X / 256 := ⟨_, rfl⟩
  have h4 : y4 = 65536 * ((p2 + p3) + 256 * (p3 + p4) + 65536 * (p4 + p5) + 16777216 * (p5 + p6) + 4294967296 * (p6 + p7) + 1099511627776 * p7) + ((p0 + p1) + 256 * (p1 + p2)) := by
    rw [e4, d1, hX]
    clear b0 b1 b2 b3 b4 b5 b6 b7 hX d1 e4
    omega
  have d4 : y4 / 65536 = (p2 + p3) + 256 * (p3 + p4) + 65536 * (p4 + p5) + 16777216 * (p5 + p6) + 4294967296 * (p6 + p7) + 1099511627776 * p7 := by
    rw [h4]
    exact divc _ _ _ (by clear hX d1 e4 h4; omega)
  obtain ⟨y5, e5⟩ : ∃ y5, y5 = y4 + y4 / 65536 := ⟨_, rfl⟩
  have h5 : y5 = 4294967296 * ((p4 + p5 + p6 + p7) + 256 * (p5 + p6 + p7) + 65536 * (p6 + p7) + 16777216 * p7) + ((p0 + p1 + p2 + p3) + 256 * (p1 + p2 + p3 + p4) + 65536 * (p2 + p3 + p4 + p5) + 16777216 * (p3 + p4 + p5 + p6)) := by
    rw [e5, d4, h4]
    clear b0 b1 b2 b3 b4 b5 b6 b7 hX d1 e4 h4 d4 e5
    omega
  have d5 : y5 / 4294967296 = (p4 + p5 + p6 + p7) + 256 * (p5 + p6 + p7) + 65536 * (p6 + p7) + 16777216 * p7 := by
    rw [h5]
    exact divc _ _ _ (by clear hX d1 e4 h4 d4 e5 h5; omega)
  obtain ⟨y6, e6⟩ : ∃ y6, y6 = y5 + y5 / 4294967296 := ⟨_, rfl⟩
  have h6 : y6 = 256 * (16777216 * ((p4 + p5 + p6 + p7) + 256 * (p5 + p6 + p7) + 65536 * (p6 + p7) + 16777216 * p7) + ((p1 + p2 + p3 + p4) + 256 * (p2 + p3 + p4 + p5) + 65536 * (p3 + p4 + p5 + p6)) + ((p5 + p6 + p7) + 256 * (p6 + p7) + 65536 * p7)) + (p0 + p1 + p2 + p3 + p4 + p5 + p6 + p7) := by
    rw [e6, d5, h5]
    clear b0 b1 b2 b3 b4 b5 b6 b7 hX d1 e4 h4 d4 e5 h5 d5 e6
    omega
  refine ⟨y4, y5, y6, e4, e5, e6, by rw [h4]; clear hX d1 e4 h4 d4 e5 h5 d5 e6 h6; omega, by rw [h5]; clear hX d1 e4 h4 d4 e5 h5 d5 e6 h6; omega, by rw [h6]; clear hX d1 e4 h4 d4 e5 h5 d5 e6 h6; omega, ?_⟩
  rw [h6]
  have hs : p0 + p1 + p2 + p3 + p4 + p5 + p6 + p7 ≤ 64 := by clear hX d1 e4 h4 d4 e5 h5 d5 e6 h6; omega
  clear hX d1 e4 h4 d4 e5 h5 d5 e6 h6
  generalize p0 + p1 + p2 + p3 + p4 + p5 + p6 + p7 = s at *
  generalize 16777216 * ((p4 + p5 + p6 + p7) + 256 * (p5 + p6 + p7) + 65536 * (p6 + p7) + 16777216 * p7) + ((p1 + p2 + p3 + p4) + 256 * (p2 + p3 + p4 + p5) + 65536 * (p3 + p4 + p5 + p6)) + ((p5 + p6 + p7) + 256 * (p6 + p7) + 65536 * p7) = T
  clear b0 b1 b2 b3 b4 b5 b6 b7
  omega
theorem dsum_pop (x : Nat) : ∃ y4 y5 y6, y4 = dsum 8 x + dsum 8 x / 256 ∧ y5 = y4 + y4 / 65536 ∧ y6 = y5 + y5 / 4294967296 ∧ y4 < 18446744073709551616 ∧ y5 < 18446744073709551616 ∧ y6 < 9223372036854775808 ∧ y6 % 128 = Lib.popAux 64 x := by
  have hs : Lib.popAux 64 x = Lib.popAux 8 (x % 256) + (Lib.popAux 8 (x / 256 % 256) + (Lib.popAux 8 (x / 256 / 256 % 256) + (Lib.popAux 8 (x / 256 / 256 / 256 % 256) + (Lib.popAux 8 (x / 256 / 256 / 256 / 256 % 256) + (Lib.popAux 8 (x / 256 / 256 / 256 / 256 / 256 % 256) + (Lib.popAux 8 (x / 256 / 256 / 256 / 256 / 256 / 256 % 256) + (Lib.popAux 8 (x / 256 / 256 / 256 / 256 / 256 / 256 / 256 % 256) + 0))))))) := by
    have e0 := popAux8 56 x
    have e1 := popAux8 48 (x / 256)
    have e2 := popAux8 40 (x / 256 / 256)
    have e3 := popAux8 32 (x / 256 / 256 / 256)
    have e4 := popAux8 24 (x / 256 / 256 / 256 / 256)
    have e5 := popAux8 16 (x / 256 / 256 / 256 / 256 / 256)
    have e6 := popAux8 8 (x / 256 / 256 / 256 / 256 / 256 / 256)
    have e7 := popAux8 0 (x / 256 / 256 / 256 / 256 / 256 / 256 / 256)
    simp only [Nat.reduceAdd] at e0 e1 e2 e3 e4 e5 e6 e7
    rw [e0, e1, e2, e3, e4, e5, e6, e7, Lib.popAux]
  have d : dsum 8 x = 256 * (256 * (256 * (256 * (256 * (256 * (256 * (256 * 0 + Lib.popAux 8 (x / 256 / 256 / 256 / 256 / 256 / 256 / 256 % 256)) + Lib.popAux 8 (x / 256 / 256 / 256 / 256 / 256 / 256 % 256)) + Lib.popAux 8 (x / 256 / 256 / 256 / 256 / 256 % 256)) + Lib.popAux 8 (x / 256 / 256 / 256 / 256 % 256)) + Lib.popAux 8 (x / 256 / 256 / 256 % 256)) + Lib.popAux 8 (x / 256 / 256 % 256)) + Lib.popAux 8 (x / 256 % 256)) + Lib.popAux 8 (x % 256) := by simp only [dsum]
  have b0 := popAux_le 8 (x % 256)
  have b1 := popAux_le 8 (x / 256 % 256)
  have b2 := popAux_le 8 (x / 256 / 256 % 256)
  have b3 := popAux_le 8 (x / 256 / 256 / 256 % 256)
  have b4 := popAux_le 8 (x / 256 / 256 / 256 / 256 % 256)
  have b5 := popAux_le 8 (x / 256 / 256 / 256 / 256 / 256 % 256)
  have b6 := popAux_le 8 (x / 256 / 256 / 256 / 256 / 256 / 256 % 256)
  have b7 := popAux_le 8 (x / 256 / 256 / 256 / 256 / 256 / 256 / 256 % 256)
  obtain ⟨y4, y5, y6, k⟩ := sum8 _ _ _ _ _ _ _ _ (dsum 8 x) b0 b1 b2 b3 b4 b5 b6 b7 (by rw [d]; clear hs d b0 b1 b2 b3 b4 b5 b6 b7; omega)
  refine ⟨y4, y5, y6, k.1, k.2.1, k.2.2.1, k.2.2.2.1, k.2.2.2.2.1, k.2.2.2.2.2.1, ?_⟩
  rw [k.2.2.2.2.2.2, hs]
  simp only [Nat.add_assoc, Nat.add_zero]

/-- Flags that are set among b from place s on. -/
def cnt (l : List Bool) (s : Nat) : Nat → Nat
  | 0 => 0
  | b + 1 => cnt l s b + (if l.getD (s + b) false then 1 else 0)
theorem popAux_top (n x : Nat) : Lib.popAux (n + 1) x = Lib.popAux n x + (if x.testBit n then 1 else 0) := by
  induction n generalizing x with
  | zero =>
    simp only [Lib.popAux, Nat.testBit_zero]
    rcases Nat.mod_two_eq_zero_or_one x with h | h <;> simp [h]
  | succ n ih =>
    rw [Lib.popAux, ih (x / 2), Nat.testBit_succ, Lib.popAux]
    omega
theorem popAux_cnt (l : List Bool) (k n : Nat) (hn : n ≤ 64) : Lib.popAux n (wd l k) = cnt l (64 * k) n := by
  induction n with
  | zero => rfl
  | succ n ih => rw [popAux_top, ih (by omega), wd_bit, cnt]; simp [show n < 64 by omega]
theorem cnt_add (l : List Bool) (s a b : Nat) : cnt l s (a + b) = cnt l s a + cnt l (s + a) b := by
  induction b with
  | zero => rfl
  | succ b ih => rw [← Nat.add_assoc, cnt, ih, cnt, Nat.add_assoc s a b]; omega
theorem cnt_le (l : List Bool) (s b : Nat) : cnt l s b ≤ b := by
  induction b with
  | zero => exact Nat.le_refl _
  | succ b ih => rw [cnt]; split <;> omega
/-- How many are free. -/
def free7 (l : List Bool) : Nat := cnt l 0 l.length
theorem cnt_past (l : List Bool) (d : Nat) : cnt l 0 (l.length + d) = free7 l := by
  induction d with
  | zero => rfl
  | succ d ih => rw [← Nat.add_assoc, cnt, ih, List.getD_eq_getElem?_getD, List.getElem?_eq_none (by omega)]; rfl

/-- The k flags from i on turned. -/
def flip (l : List Bool) (i : Nat) : Nat → List Bool
  | 0 => l
  | k + 1 => (flip l i k).set (i + k) (!(flip l i k).getD (i + k) false)
theorem len_flip (l : List Bool) (i k : Nat) : (flip l i k).length = l.length := by
  induction k with
  | zero => rfl
  | succ k ih => rw [flip, List.length_set, ih]
theorem flip_at (l : List Bool) (i k j : Nat) (h : i + k ≤ l.length) : (flip l i k).getD j false = if i ≤ j ∧ j < i + k then !l.getD j false else l.getD j false := by
  induction k with
  | zero => rw [flip, if_neg (by omega)]
  | succ k ih =>
    rw [flip, getD_set _ _ _ _ (by rw [len_flip]; omega), ih (by omega)]
    by_cases e : j = i + k
    · subst e
      have hm := flip_at_self l i k (by omega) ih
      rw [if_pos rfl, if_pos (by omega)]
      rw [hm]
    · rw [if_neg e]
      by_cases h2 : i ≤ j ∧ j < i + k
      · rw [if_pos h2, if_pos (by omega)]
      · rw [if_neg h2, if_neg (by omega)]
where
  flip_at_self (l : List Bool) (i k : Nat) (h : i + k < l.length) (ih : i + k ≤ l.length → (flip l i k).getD (i + k) false = if i ≤ i + k ∧ i + k < i + k then !l.getD (i + k) false else l.getD (i + k) false) : (flip l i k).getD (i + k) false = l.getD (i + k) false := by
    rw [ih (by omega), if_neg (by omega)]
theorem flags_ext {a b : List Bool} (hl : a.length = b.length) (h : ∀ j, j < a.length → a.getD j false = b.getD j false) : a = b := by
  apply List.ext_getElem hl
  intro j h1 h2
  have := h j h1
  rw [List.getD_eq_getElem?_getD, List.getD_eq_getElem?_getD, List.getElem?_eq_getElem h1, List.getElem?_eq_getElem h2] at this
  exact this
end Go.Proofs.YtinnpbabkbppmaaDoor
