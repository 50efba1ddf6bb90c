/- Layer 7, plain: words of 64 flags; rows of flags that are set. -/
import Derived.Laws.Bits64b
import Derived.Lib.TrailingZeros
namespace Go.Proofs.YtinnpbabkbppmaaDoor

/-- The first b flags from place s on, as bits. -/
def wdTo (l : List Bool) (s : Nat) : Nat → Nat
  | 0 => 0
  | b + 1 => 2 ^ b * (if l.getD (s + b) false then 1 else 0) + wdTo l s b
theorem wdTo_lt (l : List Bool) (s b : Nat) : wdTo l s b < 2 ^ b := by
  induction b with
  | zero => exact Nat.one_pos
  | succ b ih =>
    have h : 2 ^ b * (if l.getD (s + b) false then 1 else 0) ≤ 2 ^ b := by split <;> simp
    rw [wdTo, Nat.pow_succ]; omega
theorem wdTo_bit (l : List Bool) (s b j : Nat) : (wdTo l s b).testBit j = (decide (j < b) && l.getD (s + j) false) := by
  induction b with
  | zero => simp [wdTo]
  | succ b ih =>
    rw [wdTo, Nat.testBit_two_pow_mul_add _ (wdTo_lt l s b)]
    by_cases h : j < b
    · rw [if_pos h, ih]; simp [h, Nat.lt_succ_of_lt h]
    · rw [if_neg h]
      by_cases h2 : j = b
      · subst h2
        rw [Nat.sub_self, Nat.testBit_zero]
        cases l.getD (s + j) false <;> simp
      · have h3 : ¬ j < b + 1 := by omega
        obtain ⟨d, hd⟩ : ∃ d, j - b = d + 1 := ⟨j - b - 1, by omega⟩
        rw [hd, Nat.testBit_succ]
        cases l.getD (s + b) false <;> simp [h3]
/-- Word k of the flags. -/
def wd (l : List Bool) (k : Nat) : Nat := wdTo l (64 * k) 64
theorem wd_lt (l : List Bool) (k : Nat) : wd l k < 18446744073709551616 := wdTo_lt l (64 * k) 64
theorem wd_bit (l : List Bool) (k j : Nat) : (wd l k).testBit j = (decide (j < 64) && l.getD (64 * k + j) false) := wdTo_bit l (64 * k) 64 j
theorem getD_set (l : List Bool) (i j : Nat) (b : Bool) (hi : i < l.length) : (l.set i b).getD j false = if j = i then b else l.getD j false := by
  rw [List.getD_eq_getElem?_getD, List.getD_eq_getElem?_getD, List.getElem?_set]
  by_cases h : i = j
  · subst h; simp [hi]
  · simp [h, Ne.symm h]
/-- One flag turned. -/
theorem wd_turn (l : List Bool) (i : Nat) (hi : i < l.length) : wd l (i / 64) ^^^ 2 ^ (i % 64) = wd (l.set i (!l.getD i false)) (i / 64) := by
  apply Nat.eq_of_testBit_eq
  intro j
  rw [Nat.testBit_xor, wd_bit, wd_bit, Nat.testBit_two_pow, getD_set _ _ _ _ hi]
  by_cases h : j < 64
  · by_cases e : i % 64 = j
    · have e2 : 64 * (i / 64) + j = i := by omega
      simp [h, e, e2]
    · have e2 : ¬ 64 * (i / 64) + j = i := by omega
      simp [h, e, e2]
  · have e : ¬ i % 64 = j := by omega
    simp [h, e]
theorem wd_other (l : List Bool) (i k : Nat) (b : Bool) (hi : i < l.length) (hk : k ≠ i / 64) : wd (l.set i b) k = wd l k := by
  apply Nat.eq_of_testBit_eq
  intro j
  rw [wd_bit, wd_bit, getD_set _ _ _ _ hi]
  by_cases h : j < 64
  · have e2 : ¬ 64 * k + j = i := by omega
    simp [h, e2]
  · simp [h]
theorem wd_and (l : List Bool) (i : Nat) : (wd l (i / 64) &&& 2 ^ (i % 64) = 0) ↔ l.getD i false = false := by
  have hb : (wd l (i / 64)).testBit (i % 64) = l.getD i false := by
    rw [wd_bit, show 64 * (i / 64) + i % 64 = i from by omega]
    simp [Nat.mod_lt]
  constructor
  · intro h
    have := congrArg (·.testBit (i % 64)) h
    simp only [Nat.testBit_and, Nat.testBit_two_pow_self, Bool.and_true, Nat.zero_testBit] at this
    rw [← hb]; exact this
  · intro h
    apply Nat.eq_of_testBit_eq
    intro j
    rw [Nat.testBit_and, Nat.testBit_two_pow, Nat.zero_testBit]
    by_cases e : i % 64 = j
    · subst e; rw [hb, h]; rfl
    · simp [e]

/-- How many bits of x are set from bit p on, one behind the other. -/
def ones (x p : Nat) : Nat := Lib.ctz 64 (18446744073709551616 - (x >>> p + 1))
theorem ctz_bits (y : Nat) (hy : y < 2 ^ 64) : Lib.ctz 64 y ≤ 64 ∧ (∀ j, j < Lib.ctz 64 y → y.testBit j = false) ∧ (Lib.ctz 64 y < 64 → y.testBit (Lib.ctz 64 y) = true) := by
  unfold Lib.ctz
  by_cases h : y = 0
  · rw [if_pos h, h]
    exact ⟨Nat.le_refl _, fun j _ => Nat.zero_testBit j, fun h => absurd h (by omega)⟩
  · rw [if_neg h]
    obtain ⟨m, hm, hk⟩ := Lib.ctzFrom_spec 64 y (by omega) hy
    generalize Lib.ctzFrom 64 y = c at *
    refine ⟨by omega, fun j hj => ?_, fun _ => ?_⟩
    · rw [hm, Nat.mul_comm, Nat.testBit_mul_two_pow]; simp; omega
    · rw [hm, Nat.mul_comm, Nat.testBit_mul_two_pow, Nat.sub_self, Nat.testBit_zero]; simp
theorem ones_bits (x p : Nat) (hx : x < 18446744073709551616) (hp : p ≤ 64) : p + ones x p ≤ 64 ∧ (∀ j, j < ones x p → x.testBit (p + j) = true) ∧ x.testBit (p + ones x p) = false := by
  have hs : x >>> p < 2 ^ 64 := by
    rw [Nat.shiftRight_eq_div_pow]
    exact Nat.lt_of_le_of_lt (Nat.div_le_self _ _) hx
  obtain ⟨h1, h2, h3⟩ := ctz_bits (18446744073709551616 - (x >>> p + 1)) (Nat.sub_lt (by decide) (Nat.succ_pos _))
  have hb : ∀ j, j < 64 → (18446744073709551616 - (x >>> p + 1)).testBit j = !x.testBit (p + j) := fun j hj => by
    have := Nat.testBit_two_pow_sub_succ hs j
    rw [show (18446744073709551616 : Nat) = 2 ^ 64 from rfl, this, Nat.testBit_shiftRight]
    simp [hj]
  have hz : ∀ j, 64 ≤ j → x.testBit j = false := fun j hj => Nat.testBit_lt_two_pow (Nat.lt_of_lt_of_le hx (Nat.pow_le_pow_right (by decide) hj : 2 ^ 64 ≤ 2 ^ j))
  have g : ∀ j, j < ones x p → x.testBit (p + j) = true := fun j hj => by
    have a1 := h2 j hj
    rw [hb j (by unfold ones at hj; omega)] at a1
    simpa using a1
  have g2 : p + ones x p ≤ 64 := by
    rcases Nat.lt_or_ge 64 (p + ones x p) with h | h
    · have := g (64 - p) (by omega)
      rw [hz _ (by omega)] at this
      cases this
    · exact h
  refine ⟨g2, g, ?_⟩
  rcases Nat.lt_or_ge (ones x p) 64 with h | h
  · have a1 := h3 h
    have a2 := hb _ h
    unfold ones at a2 ⊢
    rw [a1] at a2
    simpa using a2.symm
  · exact hz _ (by omega)

/-- The rows of flags that are set, and that end: from place i on, behind r that are set. -/
def rw7 (i r : Nat) : List Bool → List (Nat × Nat)
  | [] => []
  | true :: t => rw7 (i + 1) (r + 1) t
  | false :: t => (if 0 < r then [(i - r, r)] else []) ++ rw7 (i + 1) 0 t
def rows7 (l : List Bool) : List (Nat × Nat) := rw7 0 0 (l ++ [false])
theorem rw7_true (n i r : Nat) (t : List Bool) : rw7 i r (List.replicate n true ++ t) = rw7 (i + n) (r + n) t := by
  induction n generalizing i r with
  | zero => rfl
  | succ n ih => rw [List.replicate_succ, List.cons_append, rw7, ih]; congr 1 <;> omega
theorem rw7_false (n i : Nat) (t : List Bool) : rw7 i 0 (List.replicate n false ++ t) = rw7 (i + n) 0 t := by
  induction n generalizing i with
  | zero => rfl
  | succ n ih => rw [List.replicate_succ, List.cons_append, rw7, ih, if_neg (by omega), List.nil_append]; congr 1; omega
theorem rw7_only (n i : Nat) : rw7 i 0 (List.replicate n false) = [] := by
  have := rw7_false n i []
  rw [List.append_nil] at this
  rw [this]; rfl
theorem rw7_pad (l : List Bool) (i r n : Nat) : rw7 i r (l ++ List.replicate (n + 1) false) = rw7 i r (l ++ [false]) := by
  induction l generalizing i r with
  | nil => rw [List.nil_append, List.replicate_succ, List.nil_append, rw7, rw7_only]; rfl
  | cons b l ih => cases b <;> simp only [List.cons_append, rw7, ih]
theorem rows7_pad (l : List Bool) (n : Nat) : rw7 0 0 (l ++ List.replicate (n + 1) false) = rows7 l := rw7_pad l 0 0 n
theorem drop_run (L : List Bool) (b : Bool) (n p : Nat) (h : ∀ j, j < n → L[p + j]? = some b) : L.drop p = List.replicate n b ++ L.drop (p + n) := by
  induction n generalizing p with
  | zero => rfl
  | succ n ih =>
    have h0 := h 0 (by omega)
    obtain ⟨hlt, hv⟩ := List.getElem?_eq_some_iff.1 h0
    rw [Nat.add_zero] at hlt
    rw [List.drop_eq_getElem_cons hlt, ih (p + 1) (fun j hj => by have := h (j + 1) (by omega); rwa [show p + (j + 1) = p + 1 + j from by omega] at this), List.replicate_succ, List.cons_append, show p + 1 + n = p + (n + 1) from by omega]
    congr 1
end Go.Proofs.YtinnpbabkbppmaaDoor
