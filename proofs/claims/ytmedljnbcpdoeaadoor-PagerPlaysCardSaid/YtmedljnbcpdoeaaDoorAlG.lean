/- Layer 7, plain: words of 64 flags; rows of flags that are set. -/
import Derived.Laws.Bits64b
import Derived.Lib.TrailingZeros
import Derived.Test.YtmedljnbcpdoeaaDoorKern
import Derived.OwnWalk
import Derived.Maps.AppendAt
import Derived.Lib.BitFns
import Derived.Laws.BitsAllLaws
namespace Go.Proofs.YtmedljnbcpdoeaaDoor

/-- The first b flags from place s on, as bits. -/
def wdTo (l : List Bool) (s : Nat) : Nat → Nat
  | 0 => 0
  | b + 1 => 2 ^ b * (if l.getD (s + b) false then 1 else 0) + wdTo l s b
theorem wdTo_lt (l : List Bool) (s b : Nat) : wdTo l s b < 2 ^ b := by
  induction b with
  | zero => exact Nat.one_pos
  | succ b ih =>
    have h : 2 ^ b * (if l.getD (s + b) false then 1 else 0) ≤ 2 ^ b := by split <;> simp
    rw [wdTo, Nat.pow_succ]; omega
theorem wdTo_bit (l : List Bool) (s b j : Nat) : (wdTo l s b).testBit j = (decide (j < b) && l.getD (s + j) false) := by
  induction b with
  | zero => simp [wdTo]
  | succ b ih =>
    rw [wdTo, Nat.testBit_two_pow_mul_add _ (wdTo_lt l s b)]
    by_cases h : j < b
    · rw [if_pos h, ih]; simp [h, Nat.lt_succ_of_lt h]
    · rw [if_neg h]
      by_cases h2 : j = b
      · subst h2
        rw [Nat.sub_self, Nat.testBit_zero]
        cases l.getD (s + j) false <;> simp
      · have h3 : ¬ j < b + 1 := by omega
        obtain ⟨d, hd⟩ : ∃ d, j - b = d + 1 := ⟨j - b - 1, by omega⟩
        rw [hd, Nat.testBit_succ]
        cases l.getD (s + b) false <;> simp [h3]
/-- Word k of the flags. -/
def wd (l : List Bool) (k : Nat) : Nat := wdTo l (64 * k) 64
theorem wd_lt (l : List Bool) (k : Nat) : wd l k < 18446744073709551616 := wdTo_lt l (64 * k) 64
theorem wd_bit (l : List Bool) (k j : Nat) : (wd l k).testBit j = (decide (j < 64) && l.getD (64 * k + j) false) := wdTo_bit l (64 * k) 64 j
theorem getD_set (l : List Bool) (i j : Nat) (b : Bool) (hi : i < l.length) : (l.set i b).getD j false = if j = i then b else l.getD j false := by
  rw [List.getD_eq_getElem?_getD, List.getD_eq_getElem?_getD, List.getElem?_set]
  by_cases h : i = j
  · subst h; simp [hi]
  · simp [h, Ne.symm h]
/-- One flag turned. -/
theorem wd_turn (l : List Bool) (i : Nat) (hi : i < l.length) : wd l (i / 64) ^^^ 2 ^ (i % 64) = wd (l.set i (!l.getD i false)) (i / 64) := by
  apply Nat.eq_of_testBit_eq
  intro j
  rw [Nat.testBit_xor, wd_bit, wd_bit, Nat.testBit_two_pow, getD_set _ _ _ _ hi]
  by_cases h : j < 64
  · by_cases e : i % 64 = j
    · have e2 : 64 * (i / 64) + j = i := by omega
      simp [h, e, e2]
    · have e2 : ¬ 64 * (i / 64) + j = i := by omega
      simp [h, e, e2]
  · have e : ¬ i % 64 = j := by omega
    simp [h, e]
theorem wd_other (l : List Bool) (i k : Nat) (b : Bool) (hi : i < l.length) (hk : k ≠ i / 64) : wd (l.set i b) k = wd l k := by
  apply Nat.eq_of_testBit_eq
  intro j
  rw [wd_bit, wd_bit, getD_set _ _ _ _ hi]
  by_cases h : j < 64
  · have e2 : ¬ 64 * k + j = i := by omega
    simp [h, e2]
  · simp [h]
theorem wd_and (l : List Bool) (i : Nat) : (wd l (i / 64) &&& 2 ^ (i % 64) = 0) ↔ l.getD i false = false := by
  have hb : (wd l (i / 64)).testBit (i % 64) = l.getD i false := by
    rw [wd_bit, show 64 * (i / 64) + i % 64 = i from by omega]
    simp [Nat.mod_lt]
  constructor
  · intro h
    have := congrArg (·.testBit (i % 64)) h
    simp only [Nat.testBit_and, Nat.testBit_two_pow_self, Bool.and_true, Nat.zero_testBit] at this
    rw [← hb]; exact this
  · intro h
    apply Nat.eq_of_testBit_eq
    intro j
    rw [Nat.testBit_and, Nat.testBit_two_pow, Nat.zero_testBit]
    by_cases e : i % 64 = j
    · subst e; rw [hb, h]; rfl
    · simp [e]

/-- How many bits of x are set from bit p on, one behind the other. -/
def ones (x p : Nat) : Nat := Lib.ctz 64 (18446744073709551616 - (x >>> p + 1))
theorem ctz_bits (y : Nat) (hy : y < 2 ^ 64) : Lib.ctz 64 y ≤ 64 ∧ (∀ j, j < Lib.ctz 64 y → y.testBit j = false) ∧ (Lib.ctz 64 y < 64 → y.testBit (Lib.ctz 64 y) = true) := by
  unfold Lib.ctz
  by_cases h : y = 0
  · rw [if_pos h, h]
    exact ⟨Nat.le_refl _, fun j _ => Nat.zero_testBit j, fun h => absurd h (by omega)⟩
  · rw [if_neg h]
    obtain ⟨m, hm, hk⟩ := Lib.ctzFrom_spec 64 y (by omega) hy
    generalize Lib.ctzFrom 64 y = c at *
    refine ⟨by omega, fun j hj => ?_, fun _ => ?_⟩
    · rw [hm, Nat.mul_comm, Nat.testBit_mul_two_pow]; simp; omega
    · rw [hm, Nat.mul_comm, Nat.testBit_mul_two_pow, Nat.sub_self, Nat.testBit_zero]; simp
theorem ones_bits (x p : Nat) (hx : x < 18446744073709551616) (hp : p ≤ 64) : p + ones x p ≤ 64 ∧ (∀ j, j < ones x p → x.testBit (p + j) = true) ∧ x.testBit (p + ones x p) = false := by
  have hs : x >>> p < 2 ^ 64 := by
    rw [Nat.shiftRight_eq_div_pow]
    exact Nat.lt_of_le_of_lt (Nat.div_le_self _ _) hx
  obtain ⟨h1, h2, h3⟩ := ctz_bits (18446744073709551616 - (x >>> p + 1)) (Nat.sub_lt (by decide) (Nat.succ_pos _))
  have hb : ∀ j, j < 64 → (18446744073709551616 - (x >>> p + 1)).testBit j = !x.testBit (p + j) := fun j hj => by
    have := Nat.testBit_two_pow_sub_succ hs j
    rw [show (18446744073709551616 : Nat) = 2 ^ 64 from rfl, this, Nat.testBit_shiftRight]
    simp [hj]
  have hz : ∀ j, 64 ≤ j → x.testBit j = false := fun j hj => Nat.testBit_lt_two_pow (Nat.lt_of_lt_of_le hx (Nat.pow_le_pow_right (by decide) hj : 2 ^ 64 ≤ 2 ^ j))
  have g : ∀ j, j < ones x p → x.testBit (p + j) = true := fun j hj => by
    have a1 := h2 j hj
    rw [hb j (by unfold ones at hj; omega)] at a1
    simpa using a1
  have g2 : p + ones x p ≤ 64 := by
    rcases Nat.lt_or_ge 64 (p + ones x p) with h | h
    · have := g (64 - p) (by omega)
      rw [hz _ (by omega)] at this
      cases this
    · exact h
  refine ⟨g2, g, ?_⟩
  rcases Nat.lt_or_ge (ones x p) 64 with h | h
  · have a1 := h3 h
    have a2 := hb _ h
    unfold ones at a2 ⊢
    rw [a1] at a2
    simpa using a2.symm
  · exact hz _ (by omega)

/-- The rows of flags that are set, and that end: from place i on, behind r that are set. -/
def rw7 (i r : Nat) : List Bool → List (Nat × Nat)
  | [] => []
  | true :: t => rw7 (i + 1) (r + 1) t
  | false :: t => (if 0 < r then [(i - r, r)] else []) ++ rw7 (i + 1) 0 t
def rows7 (l : List Bool) : List (Nat × Nat) := rw7 0 0 (l ++ [false])
theorem rw7_true (n i r : Nat) (t : List Bool) : rw7 i r (List.replicate n true ++ t) = rw7 (i + n) (r + n) t := by
  induction n generalizing i r with
  | zero => rfl
  | succ n ih => rw [List.replicate_succ, List.cons_append, rw7, ih]; congr 1 <;> omega
theorem rw7_false (n i : Nat) (t : List Bool) : rw7 i 0 (List.replicate n false ++ t) = rw7 (i + n) 0 t := by
  induction n generalizing i with
  | zero => rfl
  | succ n ih => rw [List.replicate_succ, List.cons_append, rw7, ih, if_neg (by omega), List.nil_append]; congr 1; omega
theorem rw7_only (n i : Nat) : rw7 i 0 (List.replicate n false) = [] := by
  have := rw7_false n i []
  rw [List.append_nil] at this
  rw [this]; rfl
theorem rw7_pad (l : List Bool) (i r n : Nat) : rw7 i r (l ++ List.replicate (n + 1) false) = rw7 i r (l ++ [false]) := by
  induction l generalizing i r with
  | nil => rw [List.nil_append, List.replicate_succ, List.nil_append, rw7, rw7_only]; rfl
  | cons b l ih => cases b <;> simp only [List.cons_append, rw7, ih]
theorem rows7_pad (l : List Bool) (n : Nat) : rw7 0 0 (l ++ List.replicate (n + 1) false) = rows7 l := rw7_pad l 0 0 n
theorem drop_run (L : List Bool) (b : Bool) (n p : Nat) (h : ∀ j, j < n → L[p + j]? = some b) : L.drop p = List.replicate n b ++ L.drop (p + n) := by
  induction n generalizing p with
  | zero => rfl
  | succ n ih =>
    have h0 := h 0 (by omega)
    obtain ⟨hlt, hv⟩ := List.getElem?_eq_some_iff.1 h0
    rw [Nat.add_zero] at hlt
    rw [List.drop_eq_getElem_cons hlt, ih (p + 1) (fun j hj => by have := h (j + 1) (by omega); rwa [show p + (j + 1) = p + 1 + j from by omega] at this), List.replicate_succ, List.cons_append, show p + 1 + n = p + (n + 1) from by omega]
    congr 1
end Go.Proofs.YtmedljnbcpdoeaaDoor
/- Layer 7: small calls: a page's place, an alloc's words. -/
namespace Go.Proofs.YtmedljnbcpdoeaaDoor
open Go.RowKit
set_option linter.unusedVariables false
set_option maxRecDepth 100000

theorem pow_wrap (r : Nat) (hr : r < 64) : IntKind.u64.wrap ((2 : Int) ^ r) = ((2 ^ r : Nat) : Int) := by
  have h : 2 ^ r < 2 ^ 64 := Nat.pow_lt_pow_right (by decide) hr
  have e : ((2 : Int) ^ r) = ((2 ^ r : Nat) : Int) := by simp
  rw [IntKind.wrap_u64, e]
  generalize 2 ^ r = P at *
  have h2 : P < 18446744073709551616 := h
  omega
theorem place7 (i : Nat) (hi : i ≤ 16384) (w : World) :
    Calls Tryd.prog 71 #[.int .i64 i] w fun e w' => e = .returned (.tuple #[.int .i64 ((i / 64 : Nat) : Int), .int .u64 ((2 ^ (i % 64) : Nat) : Int)]) ∧ w' = w.drew := by
  have hlt : i % 64 < 64 := Nat.mod_lt _ (by decide)
  have e0 : (i : Int) % 64 = ((i % 64 : Nat) : Int) := by omega
  have e1 : (i : Int).tmod 64 = ((i % 64 : Nat) : Int) := by rw [Int.tmod_eq_emod_of_nonneg (by omega)]; rfl
  have e3 : ((i / 64 : Nat) : Int) = (i : Int) / 64 := by omega
  have e4 : (i : Int).tdiv 64 = (i : Int) / 64 := by rw [Int.tdiv_eq_ediv_of_nonneg (by omega)]
  rw [e3]
  generalize i % 64 = r at *
  have e2 := pow_wrap r hlt
  have e5 := wrap_of ((i : Int) / 64) (by omega) (by omega)
  have e6 := wrap_of (r : Int) (by omega) (by omega)
  generalize 2 ^ r = P at e2 ⊢
  go_enter Tryd.func71, Tryd.ntmps71
  go_wp2
  refine wp_region_still_lit (by kernel_rfl) (by kernel_rfl) ?_
  change wpStill _ _ (World.drew _) _ _ _
  repeat still_step
  refine wpStill_nil ?_
  change Exit.then _ _ _ _ (World.drew _)
  go_wp2
  go_ret2
  exact ⟨rfl, rfl⟩
/-- The table of the library. -/
def Tb (w : World) : Prop := ∀ j, j < 64 → w.cell? ⟨0, j, none⟩ = some (.int .u8 (Lib.deBruijn64tab.getD j 0))
theorem Tb.lt {w : World} (h : Tb w) : 0 < w.heap.size := cell_lt (h 0 (by decide))
theorem Tb.turn {S : Nat → Prop} {w w' : World} (h : Tb w) (ht : Turn S w w') (h0 : ¬ S 0) : Tb w' := fun j hj => (World.cell?_of_block (w := w) (ht.block 0 h.lt h0)).trans (h j hj)
theorem Tb.drew {w : World} (h : Tb w) : Tb w.drew := h
theorem tz7_zero (w : World) :
    Calls Tryd.prog 77 #[.int .u64 0] w fun e w' => e = .returned (.int .i64 64) ∧ w' = w := by
  go_enter Tryd.func77, Tryd.ntmps77
  go_wp2
  go_ret
  exact ⟨rfl, rfl⟩
set_option maxHeartbeats 1000000 in
theorem tz7_core (x k idx : Nat) (w : World) (hx0 : ((x : Int) == 0) = false)
    (key : IntKind.u64.wrap (bits BinOp.and IntKind.u64 (x : Int) (IntKind.u64.wrap (-(x : Int))) * 285870213051353865) / 288230376151711744 = (idx : Int))
    (hi : idx < 64) (hk : k < 64) (hcell : w.cell? ⟨0, idx, none⟩ = some (.int .u8 k)) :
    Calls Tryd.prog 77 #[.int .u64 x] w fun e w' => e = .returned (.int .i64 k) ∧ w' = w := by
  go_enter Tryd.func77, Tryd.ntmps77
  go_wp2_with (simp only [key])
  go_ret
  exact ⟨rfl, rfl⟩
theorem tz7_key (x a : Nat) (hx : x < 18446744073709551616) (hx0 : x ≠ 0) (hlow : x &&& (18446744073709551616 - x) = a) :
    IntKind.u64.wrap (bits BinOp.and IntKind.u64 (x : Int) (IntKind.u64.wrap (-(x : Int))) * 285870213051353865) / 288230376151711744 = ((a * 285870213051353865 % 18446744073709551616 / 288230376151711744 : Nat) : Int) := by
  have e1 : IntKind.u64.wrap (-(x : Int)) = ((18446744073709551616 - x : Nat) : Int) := by rw [IntKind.wrap_u64]; omega
  rw [e1, bits_and_u64_nat x _ hx (by omega), hlow, IntKind.wrap_u64]
  omega
theorem tz7 (x : Nat) (hx : x < 18446744073709551616) (w : World) (hT : Tb w) :
    Calls Tryd.prog 77 #[.int .u64 x] w fun e w' => e = .returned (.int .i64 (Lib.ctz 64 x)) ∧ w' = w := by
  by_cases hx0 : x = 0
  · subst hx0
    exact tz7_zero w
  · obtain ⟨hlow, hk⟩ := Lib.lowest_bit 64 x hx0 hx
    obtain ⟨hi, htab⟩ := Lib.deBruijn64_at _ hk
    have hcell := hT _ hi
    rw [htab] at hcell
    exact tz7_core x _ _ w (by simp; omega) (tz7_key x _ hx hx0 hlow) hi hk hcell
theorem not7 (y : Nat) (hy : y < 18446744073709551616) : bits BinOp.xor IntKind.u64 IntKind.u64.max (y : Int) = ((18446744073709551616 - (y + 1) : Nat) : Int) := by
  have hm : IntKind.u64.max = ((18446744073709551615 : Nat) : Int) := by decide
  rw [hm, bits_xor_u64_nat _ _ (by decide) hy]
  congr 1
  apply Nat.eq_of_testBit_eq
  intro j
  have h := Nat.testBit_two_pow_sub_succ (x := y) (n := 64) hy j
  rw [show (18446744073709551616 : Nat) = 2 ^ 64 from rfl, h, Nat.testBit_xor, show (18446744073709551615 : Nat) = 2 ^ 64 - 1 from rfl, Nat.testBit_two_pow_sub_one]
  by_cases h64 : j < 64
  · simp [h64]
  · have := Nat.testBit_lt_two_pow (Nat.lt_of_lt_of_le hy (Nat.pow_le_pow_right (by decide) (by omega : 64 ≤ j) : 2 ^ 64 ≤ 2 ^ j))
    simp [h64, this]
theorem run7 (x p : Nat) (hx : x < 18446744073709551616) (hp : p ≤ 64) (w : World) (hT : Tb w) :
    Calls Tryd.prog 75 #[.int .u64 x, .int .i64 p] w fun e w' => e = .returned (.int .i64 (ones x p)) ∧ w' = w := by
  have hs : x >>> p < 18446744073709551616 := by
    rw [Nat.shiftRight_eq_div_pow]
    exact Nat.lt_of_le_of_lt (Nat.div_le_self _ _) hx
  have e1 : (x : Int) / 2 ^ p = ((x >>> p : Nat) : Int) := by rw [Nat.shiftRight_eq_div_pow]; simp
  have hc := tz7 (18446744073709551616 - (x >>> p + 1)) (Nat.sub_lt (by decide) (Nat.succ_pos _)) w hT
  rw [show Lib.ctz 64 (18446744073709551616 - (x >>> p + 1)) = ones x p from rfl] at hc
  generalize ones x p = r at *
  rw [← not7 _ hs] at hc
  generalize x >>> p = y at *
  have HC := Lib.hid hc
  clear hc
  go_enter Tryd.func75, Tryd.ntmps75
  go_wp2_with (go_at_call 77; refine HC.out.mono ?_; rintro e w' ⟨rfl, rfl⟩)
  go_ret
  exact ⟨rfl, rfl⟩
end Go.Proofs.YtmedljnbcpdoeaaDoor
/- Layer 7, plain: how many bits are set; flags turned. -/
namespace Go.Proofs.YtmedljnbcpdoeaaDoor

theorem and_dig (h M l m : Nat) (hl : l < 256) (hm : m < 256) : (256 * h + l) &&& (256 * M + m) = 256 * (h &&& M) + (l &&& m) := by
  have hlm : l &&& m < 2 ^ 8 := Nat.and_lt_two_pow _ hm
  apply Nat.eq_of_testBit_eq
  intro j
  rw [Nat.testBit_and, show (256 : Nat) = 2 ^ 8 from rfl, Nat.testBit_two_pow_mul_add _ hl, Nat.testBit_two_pow_mul_add _ hm, Nat.testBit_two_pow_mul_add _ hlm]
  split <;> rw [Nat.testBit_and]
def msk (c : Nat) : Nat → Nat
  | 0 => 0
  | n + 1 => 256 * msk c n + c
def popA (n x : Nat) : Nat := (x / 2 &&& msk 85 n) + (x &&& msk 85 n)
def popB (n x : Nat) : Nat := (x / 4 &&& msk 51 n) + (x &&& msk 51 n)
def popC (n x : Nat) : Nat := x / 16 + x &&& msk 15 n
def a8 (b : Nat) : Nat := (b / 2 &&& 85) + (b &&& 85)
def b8 (b : Nat) : Nat := (b / 4 &&& 51) + (b &&& 51)
theorem a8_lt : ∀ b, b < 256 → a8 b < 256 := by decide +kernel
theorem b8_ok : ∀ b, b < 256 → b8 (a8 b) < 256 ∧ b8 (a8 b) / 16 ≤ 4 ∧ b8 (a8 b) % 16 ≤ 4 ∧ b8 (a8 b) / 16 + b8 (a8 b) % 16 = Lib.popAux 8 b := by decide +kernel
theorem m85 : ∀ c, c < 2 → ∀ b, b < 128 → (128 * c + b) &&& 85 = b &&& 85 := by decide +kernel
theorem m51 : ∀ c, c < 4 → ∀ b, b < 64 → (64 * c + b) &&& 51 = b &&& 51 := by decide +kernel
theorem m15 : ∀ c, c < 9 → ∀ b, b < 9 → (16 * c + b) &&& 15 = b := by decide +kernel
theorem popA_step (n y b : Nat) (hb : b < 256) : popA (n + 1) (256 * y + b) = 256 * popA n y + a8 b := by
  unfold popA a8
  rw [show msk 85 (n + 1) = 256 * msk 85 n + 85 from rfl, show (256 * y + b) / 2 = 256 * (y / 2) + (128 * (y % 2) + b / 2) from by omega, and_dig _ _ _ _ (by omega) (by decide), and_dig _ _ _ _ hb (by decide), m85 _ (by omega) _ (by omega)]
  omega
theorem popB_step (n y b : Nat) (hb : b < 256) : popB (n + 1) (256 * y + b) = 256 * popB n y + b8 b := by
  unfold popB b8
  rw [show msk 51 (n + 1) = 256 * msk 51 n + 51 from rfl, show (256 * y + b) / 4 = 256 * (y / 4) + (64 * (y % 4) + b / 4) from by omega, and_dig _ _ _ _ (by omega) (by decide), and_dig _ _ _ _ hb (by decide), m51 _ (by omega) _ (by omega)]
  omega
theorem popC_step (n y b : Nat) (hb : b < 256) (h1 : b / 16 ≤ 4) (h2 : b % 16 ≤ 4) (h3 : y % 16 ≤ 4) : popC (n + 1) (256 * y + b) = 256 * popC n y + (b / 16 + b % 16) := by
  unfold popC
  rw [show msk 15 (n + 1) = 256 * msk 15 n + 15 from rfl, show (256 * y + b) / 16 + (256 * y + b) = 256 * (y / 16 + y) + (16 * (y % 16 + b / 16) + (b / 16 + b % 16)) from by omega, and_dig _ _ _ _ (by omega) (by decide), m15 _ (by omega) _ (by omega)]
/-- The bytes' numbers of bits. -/
def dsum : Nat → Nat → Nat
  | 0, _ => 0
  | n + 1, x => 256 * dsum n (x / 256) + Lib.popAux 8 (x % 256)
theorem pop_all (n x : Nat) : popC n (popB n (popA n x)) = dsum n x ∧ popB n (popA n x) % 16 ≤ 4 := by
  induction n generalizing x with
  | zero => unfold popC popB popA msk dsum; simp
  | succ n ih =>
    have hb : x % 256 < 256 := Nat.mod_lt _ (by decide)
    obtain ⟨k1, k2, k3, k4⟩ := b8_ok _ hb
    obtain ⟨i1, i2⟩ := ih (x / 256)
    have e1 : popA (n + 1) x = 256 * popA n (x / 256) + a8 (x % 256) := by rw [← popA_step n _ _ hb]; congr 1; omega
    have e2 : popB (n + 1) (popA (n + 1) x) = 256 * popB n (popA n (x / 256)) + b8 (a8 (x % 256)) := by rw [e1, popB_step n _ _ (a8_lt _ hb)]
    rw [e2, popC_step n _ _ k1 k2 k3 i2, i1, k4]
    exact ⟨rfl, by omega⟩
theorem popAux_le (n x : Nat) : Lib.popAux n x ≤ n := by
  induction n generalizing x with
  | zero => exact Nat.le_refl _
  | succ n ih => rw [Lib.popAux]; have := ih (x / 2); omega
theorem popAux_mod (m x : Nat) : Lib.popAux m (x % 2 ^ m) = Lib.popAux m x := by
  induction m generalizing x with
  | zero => rfl
  | succ m ih =>
    rw [Lib.popAux, Lib.popAux, Nat.pow_succ, Nat.mul_comm, Nat.mod_mul_right_div_self, Nat.mod_mul_right_mod, ih]
theorem popAux_add (m n x : Nat) : Lib.popAux (m + n) x = Lib.popAux m x + Lib.popAux n (x / 2 ^ m) := by
  induction m generalizing x with
  | zero => rw [Nat.zero_add, Nat.pow_zero, Nat.div_one, Lib.popAux, Nat.zero_add]
  | succ m ih =>
    rw [show m + 1 + n = m + n + 1 from by omega, Lib.popAux, ih, Lib.popAux, Nat.div_div_eq_div_mul, Nat.pow_succ, Nat.mul_comm 2]
    omega
theorem popAux8 (n x : Nat) : Lib.popAux (8 + n) x = Lib.popAux 8 (x % 256) + Lib.popAux n (x / 256) := by
  rw [popAux_add 8 n x, ← popAux_mod 8 x]
theorem divc (c A r : Nat) (hr : r < c) : (c * A + r) / c = A := by
  rw [Nat.mul_add_div (by omega), Nat.div_eq_of_lt hr, Nat.add_zero]
theorem sum8 (p0 p1 p2 p3 p4 p5 p6 p7 X : Nat) (b0 : p0 ≤ 8) (b1 : p1 ≤ 8) (b2 : p2 ≤ 8) (b3 : p3 ≤ 8) (b4 : p4 ≤ 8) (b5 : p5 ≤ 8) (b6 : p6 ≤ 8) (b7 : p7 ≤ 8)
    (hX : X = p0 + 256 * p1 + 65536 * p2 + 16777216 * p3 + 4294967296 * p4 + 1099511627776 * p5 + 281474976710656 * p6 + 72057594037927936 * p7) :
    ∃ y4 y5 y6, y4 = X + X / 256 ∧ y5 = y4 + y4 / 65536 ∧ y6 = y5 + y5 / 4294967296 ∧ y4 < 18446744073709551616 ∧ y5 < 18446744073709551616 ∧ y6 < 9223372036854775808 ∧ y6 % 128 = p0 + p1 + p2 + p3 + p4 + p5 + p6 + p7 := by
  have d1 : X / 256 = p1 + 256 * p2 + 65536 * p3 + 16777216 * p4 + 4294967296 * p5 + 1099511627776 * p6 + 281474976710656 * p7 := by
    rw [← divc 256 (p1 + 256 * p2 + 65536 * p3 + 16777216 * p4 + 4294967296 * p5 + 1099511627776 * p6 + 281474976710656 * p7) p0 (by clear hX; omega)]
    congr 1
    rw [hX]
    clear b0 b1 b2 b3 b4 b5 b6 b7 hX
    omega
  obtain ⟨y4, e4⟩ : ∃ y4, y4 = X + X / 256 := ⟨_, rfl⟩
  have h4 : y4 = 65536 * ((p2 + p3) + 256 * (p3 + p4) + 65536 * (p4 + p5) + 16777216 * (p5 + p6) + 4294967296 * (p6 + p7) + 1099511627776 * p7) + ((p0 + p1) + 256 * (p1 + p2)) := by
    rw [e4, d1, hX]
    clear b0 b1 b2 b3 b4 b5 b6 b7 hX d1 e4
    omega
  have d4 : y4 / 65536 = (p2 + p3) + 256 * (p3 + p4) + 65536 * (p4 + p5) + 16777216 * (p5 + p6) + 4294967296 * (p6 + p7) + 1099511627776 * p7 := by
    rw [h4]
    exact divc _ _ _ (by clear hX d1 e4 h4; omega)
  obtain ⟨y5, e5⟩ : ∃ y5, y5 = y4 + y4 / 65536 := ⟨_, rfl⟩
  have h5 : y5 = 4294967296 * ((p4 + p5 + p6 + p7) + 256 * (p5 + p6 + p7) + 65536 * (p6 + p7) + 16777216 * p7) + ((p0 + p1 + p2 + p3) + 256 * (p1 + p2 + p3 + p4) + 65536 * (p2 + p3 + p4 + p5) + 16777216 * (p3 + p4 + p5 + p6)) := by
    rw [e5, d4, h4]
    clear b0 b1 b2 b3 b4 b5 b6 b7 hX d1 e4 h4 d4 e5
    omega
  have d5 : y5 / 4294967296 = (p4 + p5 + p6 + p7) + 256 * (p5 + p6 + p7) + 65536 * (p6 + p7) + 16777216 * p7 := by
    rw [h5]
    exact divc _ _ _ (by clear hX d1 e4 h4 d4 e5 h5; omega)
  obtain ⟨y6, e6⟩ : ∃ y6, y6 = y5 + y5 / 4294967296 := ⟨_, rfl⟩
  have h6 : y6 = 256 * (16777216 * ((p4 + p5 + p6 + p7) + 256 * (p5 + p6 + p7) + 65536 * (p6 + p7) + 16777216 * p7) + ((p1 + p2 + p3 + p4) + 256 * (p2 + p3 + p4 + p5) + 65536 * (p3 + p4 + p5 + p6)) + ((p5 + p6 + p7) + 256 * (p6 + p7) + 65536 * p7)) + (p0 + p1 + p2 + p3 + p4 + p5 + p6 + p7) := by
    rw [e6, d5, h5]
    clear b0 b1 b2 b3 b4 b5 b6 b7 hX d1 e4 h4 d4 e5 h5 d5 e6
    omega
  refine ⟨y4, y5, y6, e4, e5, e6, by rw [h4]; clear hX d1 e4 h4 d4 e5 h5 d5 e6 h6; omega, by rw [h5]; clear hX d1 e4 h4 d4 e5 h5 d5 e6 h6; omega, by rw [h6]; clear hX d1 e4 h4 d4 e5 h5 d5 e6 h6; omega, ?_⟩
  rw [h6]
  have hs : p0 + p1 + p2 + p3 + p4 + p5 + p6 + p7 ≤ 64 := by clear hX d1 e4 h4 d4 e5 h5 d5 e6 h6; omega
  clear hX d1 e4 h4 d4 e5 h5 d5 e6 h6
  generalize p0 + p1 + p2 + p3 + p4 + p5 + p6 + p7 = s at *
  generalize 16777216 * ((p4 + p5 + p6 + p7) + 256 * (p5 + p6 + p7) + 65536 * (p6 + p7) + 16777216 * p7) + ((p1 + p2 + p3 + p4) + 256 * (p2 + p3 + p4 + p5) + 65536 * (p3 + p4 + p5 + p6)) + ((p5 + p6 + p7) + 256 * (p6 + p7) + 65536 * p7) = T
  clear b0 b1 b2 b3 b4 b5 b6 b7
  omega
theorem dsum_pop (x : Nat) : ∃ y4 y5 y6, y4 = dsum 8 x + dsum 8 x / 256 ∧ y5 = y4 + y4 / 65536 ∧ y6 = y5 + y5 / 4294967296 ∧ y4 < 18446744073709551616 ∧ y5 < 18446744073709551616 ∧ y6 < 9223372036854775808 ∧ y6 % 128 = Lib.popAux 64 x := by
  have hs : Lib.popAux 64 x = Lib.popAux 8 (x % 256) + (Lib.popAux 8 (x / 256 % 256) + (Lib.popAux 8 (x / 256 / 256 % 256) + (Lib.popAux 8 (x / 256 / 256 / 256 % 256) + (Lib.popAux 8 (x / 256 / 256 / 256 / 256 % 256) + (Lib.popAux 8 (x / 256 / 256 / 256 / 256 / 256 % 256) + (Lib.popAux 8 (x / 256 / 256 / 256 / 256 / 256 / 256 % 256) + (Lib.popAux 8 (x / 256 / 256 / 256 / 256 / 256 / 256 / 256 % 256) + 0))))))) := by
    have e0 := popAux8 56 x
    have e1 := popAux8 48 (x / 256)
    have e2 := popAux8 40 (x / 256 / 256)
    have e3 := popAux8 32 (x / 256 / 256 / 256)
    have e4 := popAux8 24 (x / 256 / 256 / 256 / 256)
    have e5 := popAux8 16 (x / 256 / 256 / 256 / 256 / 256)
    have e6 := popAux8 8 (x / 256 / 256 / 256 / 256 / 256 / 256)
    have e7 := popAux8 0 (x / 256 / 256 / 256 / 256 / 256 / 256 / 256)
    simp only [Nat.reduceAdd] at e0 e1 e2 e3 e4 e5 e6 e7
    rw [e0, e1, e2, e3, e4, e5, e6, e7, Lib.popAux]
  have d : dsum 8 x = 256 * (256 * (256 * (256 * (256 * (256 * (256 * (256 * 0 + Lib.popAux 8 (x / 256 / 256 / 256 / 256 / 256 / 256 / 256 % 256)) + Lib.popAux 8 (x / 256 / 256 / 256 / 256 / 256 / 256 % 256)) + Lib.popAux 8 (x / 256 / 256 / 256 / 256 / 256 % 256)) + Lib.popAux 8 (x / 256 / 256 / 256 / 256 % 256)) + Lib.popAux 8 (x / 256 / 256 / 256 % 256)) + Lib.popAux 8 (x / 256 / 256 % 256)) + Lib.popAux 8 (x / 256 % 256)) + Lib.popAux 8 (x % 256) := by simp only [dsum]
  have b0 := popAux_le 8 (x % 256)
  have b1 := popAux_le 8 (x / 256 % 256)
  have b2 := popAux_le 8 (x / 256 / 256 % 256)
  have b3 := popAux_le 8 (x / 256 / 256 / 256 % 256)
  have b4 := popAux_le 8 (x / 256 / 256 / 256 / 256 % 256)
  have b5 := popAux_le 8 (x / 256 / 256 / 256 / 256 / 256 % 256)
  have b6 := popAux_le 8 (x / 256 / 256 / 256 / 256 / 256 / 256 % 256)
  have b7 := popAux_le 8 (x / 256 / 256 / 256 / 256 / 256 / 256 / 256 % 256)
  obtain ⟨y4, y5, y6, k⟩ := sum8 _ _ _ _ _ _ _ _ (dsum 8 x) b0 b1 b2 b3 b4 b5 b6 b7 (by rw [d]; clear hs d b0 b1 b2 b3 b4 b5 b6 b7; omega)
  refine ⟨y4, y5, y6, k.1, k.2.1, k.2.2.1, k.2.2.2.1, k.2.2.2.2.1, k.2.2.2.2.2.1, ?_⟩
  rw [k.2.2.2.2.2.2, hs]
  simp only [Nat.add_assoc, Nat.add_zero]

/-- Flags that are set among b from place s on. -/
def cnt (l : List Bool) (s : Nat) : Nat → Nat
  | 0 => 0
  | b + 1 => cnt l s b + (if l.getD (s + b) false then 1 else 0)
theorem popAux_top (n x : Nat) : Lib.popAux (n + 1) x = Lib.popAux n x + (if x.testBit n then 1 else 0) := by
  induction n generalizing x with
  | zero =>
    simp only [Lib.popAux, Nat.testBit_zero]
    rcases Nat.mod_two_eq_zero_or_one x with h | h <;> simp [h]
  | succ n ih =>
    rw [Lib.popAux, ih (x / 2), Nat.testBit_succ, Lib.popAux]
    omega
theorem popAux_cnt (l : List Bool) (k n : Nat) (hn : n ≤ 64) : Lib.popAux n (wd l k) = cnt l (64 * k) n := by
  induction n with
  | zero => rfl
  | succ n ih => rw [popAux_top, ih (by omega), wd_bit, cnt]; simp [show n < 64 by omega]
theorem cnt_add (l : List Bool) (s a b : Nat) : cnt l s (a + b) = cnt l s a + cnt l (s + a) b := by
  induction b with
  | zero => rfl
  | succ b ih => rw [← Nat.add_assoc, cnt, ih, cnt, Nat.add_assoc s a b]; omega
theorem cnt_le (l : List Bool) (s b : Nat) : cnt l s b ≤ b := by
  induction b with
  | zero => exact Nat.le_refl _
  | succ b ih => rw [cnt]; split <;> omega
/-- How many are free. -/
def free7 (l : List Bool) : Nat := cnt l 0 l.length
theorem cnt_past (l : List Bool) (d : Nat) : cnt l 0 (l.length + d) = free7 l := by
  induction d with
  | zero => rfl
  | succ d ih => rw [← Nat.add_assoc, cnt, ih, List.getD_eq_getElem?_getD, List.getElem?_eq_none (by omega)]; rfl

/-- The k flags from i on turned. -/
def flip (l : List Bool) (i : Nat) : Nat → List Bool
  | 0 => l
  | k + 1 => (flip l i k).set (i + k) (!(flip l i k).getD (i + k) false)
theorem len_flip (l : List Bool) (i k : Nat) : (flip l i k).length = l.length := by
  induction k with
  | zero => rfl
  | succ k ih => rw [flip, List.length_set, ih]
theorem flip_at (l : List Bool) (i k j : Nat) (h : i + k ≤ l.length) : (flip l i k).getD j false = if i ≤ j ∧ j < i + k then !l.getD j false else l.getD j false := by
  induction k with
  | zero => rw [flip, if_neg (by omega)]
  | succ k ih =>
    rw [flip, getD_set _ _ _ _ (by rw [len_flip]; omega), ih (by omega)]
    by_cases e : j = i + k
    · subst e
      have hm := flip_at_self l i k (by omega) ih
      rw [if_pos rfl, if_pos (by omega)]
      rw [hm]
    · rw [if_neg e]
      by_cases h2 : i ≤ j ∧ j < i + k
      · rw [if_pos h2, if_pos (by omega)]
      · rw [if_neg h2, if_neg (by omega)]
where
  flip_at_self (l : List Bool) (i k : Nat) (h : i + k < l.length) (ih : i + k ≤ l.length → (flip l i k).getD (i + k) false = if i ≤ i + k ∧ i + k < i + k then !l.getD (i + k) false else l.getD (i + k) false) : (flip l i k).getD (i + k) false = l.getD (i + k) false := by
    rw [ih (by omega), if_neg (by omega)]
theorem flags_ext {a b : List Bool} (hl : a.length = b.length) (h : ∀ j, j < a.length → a.getD j false = b.getD j false) : a = b := by
  apply List.ext_getElem hl
  intro j h1 h2
  have := h j h1
  rw [List.getD_eq_getElem?_getD, List.getD_eq_getElem?_getD, List.getElem?_eq_getElem h1, List.getElem?_eq_getElem h2] at this
  exact this
end Go.Proofs.YtmedljnbcpdoeaaDoor
/- Layer 7: an alloc in its blocks. -/
namespace Go.Proofs.YtmedljnbcpdoeaaDoor
open Go.RowKit
set_option linter.unusedVariables false
set_option maxRecDepth 100000

/-- The words' cells. -/
def words (l : List Bool) : List Value := (List.range (l.length / 64 + 1)).map fun k => .int .u64 ((wd l k : Nat) : Int)
theorem len_words (l : List Bool) : (words l).length = l.length / 64 + 1 := by simp [words]
theorem words_at (l : List Bool) (k : Nat) (hk : k < l.length / 64 + 1) : (words l)[k]? = some (.int .u64 ((wd l k : Nat) : Int)) := by simp [words, hk]
theorem words_set (l : List Bool) (i : Nat) (b : Bool) (hi : i < l.length) : (words l).set (i / 64) (.int .u64 ((wd (l.set i b) (i / 64) : Nat) : Int)) = words (l.set i b) := by
  apply List.ext_getElem (by simp [words])
  intro k h1 h2
  rw [List.getElem_set]
  simp only [words, List.getElem_map, List.getElem_range, List.length_set]
  split
  · rename_i e; rw [e]
  · rename_i e; rw [wd_other l i k b hi (fun h => e h.symm)]
/-- An alloc with these flags, free or not, in blocks p and g. -/
def Al (w : World) (p g : Nat) (l : List Bool) : Prop := ∃ (c : Nat) (rest : List Value), Blk w p 106 [.int .i64 l.length, .slice (some ⟨g, 0, none⟩) (l.length / 64 + 1) c] ∧ Blk w g 117 (words l ++ rest) ∧
  0 < l.length ∧ l.length ≤ 16384 ∧ p ≠ 0 ∧ g ≠ 0 ∧ p ≠ g ∧ Tb w ∧ l.length / 64 + 1 ≤ c ∧ c ≤ maxLen
section
variable {w w' : World} {p g : Nat} {l : List Bool} {S : Nat → Prop}
theorem Al.turn (h : Al w p g l) (ht : Turn S w w') (hp : ¬ S p) (hg : ¬ S g) (h0 : ¬ S 0) : Al w' p g l := by
  obtain ⟨c, rest, h1, h2, h3, h4, h5, h6, h7, h8, h9⟩ := h
  exact ⟨c, rest, h1.turn ht hp, h2.turn ht hg, h3, h4, h5, h6, h7, h8.turn ht h0, h9⟩
theorem Al.still (h : Al w p g l) (ht : Turn (fun _ => False) w w') : Al w' p g l := h.turn ht (fun h => h) (fun h => h) (fun h => h)
theorem Al.drew (h : Al w p g l) : Al w.drew p g l := h
theorem Al.pos (h : Al w p g l) : 0 < l.length := by obtain ⟨c, rest, h1, h2, h3, h4, h5⟩ := h; exact h3
theorem Al.le (h : Al w p g l) : l.length ≤ 16384 := by obtain ⟨c, rest, h1, h2, h3, h4, h5⟩ := h; exact h4
theorem Al.tb (h : Al w p g l) : Tb w := by obtain ⟨c, rest, h1, h2, h3, h4, h5, h6, h7, h8, h9⟩ := h; exact h8
theorem Al.ltp (h : Al w p g l) : p < w.heap.size := by obtain ⟨c, rest, h1, h2, h3⟩ := h; exact h1.lt
theorem Al.ltg (h : Al w p g l) : g < w.heap.size := by obtain ⟨c, rest, h1, h2, h3⟩ := h; exact h2.lt
end
theorem made7 {w : World} {p g : Nat} {l : List Bool} (h : Al w p g l) :
    Calls Tryd.prog 65 #[.pointer (some ⟨p, 0, none⟩)] w fun r w' => r = .returned (.bool true) ∧ w' = w := by
  obtain ⟨c, rest, h1, h2, h3, h4, h5⟩ := h
  have x0 := h1.cell 0
  simp only [List.getElem?_cons_zero] at x0
  have h3i : (0 : Int) < (l.length : Int) := by omega
  clear h1 h2 h5
  go_enter Tryd.func65, Tryd.ntmps65
  go_wp2
  go_ret
  exact ⟨rfl, rfl⟩
/-- Of no alloc. -/
def Noa (w : World) (v : Value) : Prop := v = .pointer none ∨ ∃ p, v = .pointer (some ⟨p, 0, none⟩) ∧ w.cell? ⟨p, 0, none⟩ = some (.int .i64 0)
theorem made7_no {w : World} {v : Value} (h : Noa w v) :
    Calls Tryd.prog 65 #[v] w fun r w' => r = .returned (.bool false) ∧ w' = w := by
  rcases h with rfl | ⟨p, rfl, x0⟩
  · go_enter Tryd.func65, Tryd.ntmps65
    go_wp2
    go_ret
    exact ⟨rfl, rfl⟩
  · go_enter Tryd.func65, Tryd.ntmps65
    go_wp2
    go_ret
    exact ⟨rfl, rfl⟩
theorem taken7 {w : World} {p g : Nat} {l : List Bool} (h : Al w p g l) (i : Nat) (hi : i < l.length) :
    Calls Tryd.prog 66 #[.pointer (some ⟨p, 0, none⟩), .int .i64 i] w fun r w' => r = .returned (.bool (!l.getD i false)) ∧ w' = w.drew := by
  obtain ⟨c, rest, h1, h2, h3, h4, h5⟩ := h
  have x1 := h1.drew.cell 1
  simp only [List.getElem?_cons_zero, List.getElem?_cons_succ] at x1
  have hlt : i / 64 < l.length / 64 + 1 := by omega
  have x2 := h2.drew.cell (i / 64)
  rw [List.getElem?_append_left (by rw [len_words]; exact hlt), words_at l _ hlt] at x2
  have hwd := wd_lt l (i / 64)
  have hm : i % 64 < 64 := Nat.mod_lt _ (by decide)
  have hp2 : 2 ^ (i % 64) < 18446744073709551616 := Nat.pow_lt_pow_right (by decide) hm
  have ha := bits_and_u64_nat (wd l (i / 64)) (2 ^ (i % 64)) hwd hp2
  have hz := wd_and l i
  have hP := place7 i (by omega) w
  have ei : ((i / 64 : Nat) : Int) < ((l.length / 64 + 1 : Nat) : Int) := by omega
  have hb : (((wd l (i / 64) &&& 2 ^ (i % 64) : Nat) : Int) == 0) = !l.getD i false := by
    rw [Bool.eq_iff_iff]
    simp only [beq_iff_eq, Bool.not_eq_true']
    rw [← hz]
    omega
  have HP := Lib.hid hP
  generalize l.length / 64 + 1 = N at *
  generalize i / 64 = k at *
  generalize 2 ^ (i % 64) = P at *
  generalize wd l k = W at *
  generalize (!l.getD i false) = res at *
  clear h1 h2 h5 hP hz hm
  go_enter Tryd.func66, Tryd.ntmps66
  go_wp2_with (go_at_call 71; refine HP.out.mono ?_; rintro e w' ⟨rfl, rfl⟩)
  go_ret
  exact ⟨rfl, rfl⟩
end Go.Proofs.YtmedljnbcpdoeaaDoor
/- Layer 7: pages turned, counted; calls that turn. -/
namespace Go.Proofs.YtmedljnbcpdoeaaDoor
open Go.RowKit
set_option linter.unusedVariables false
set_option maxRecDepth 100000

theorem al_put {w : World} {p g : Nat} {l : List Bool} {u : Value} (h : Al w p g l) (i : Nat) (hi : i < l.length) (hu : u = .int .u64 ((wd l (i / 64) ^^^ 2 ^ (i % 64) : Nat) : Int)) :
    Al (w.setCell ⟨g, i / 64, none⟩ u) p g (l.set i (!l.getD i false)) := by
  obtain ⟨c, rest, h1, h2, h3, h4, h5, h6, h7, h8, h9⟩ := h
  refine ⟨c, rest, ?_, ?_, by rw [List.length_set]; exact h3, by rw [List.length_set]; exact h4, h5, h6, h7, ?_, by rw [List.length_set]; exact h9⟩
  · rw [List.length_set]; exact h1.far h7 u
  · have := h2.put (i / 64) u
    rw [List.set_append_left _ _ (by rw [len_words]; omega), hu, wd_turn l i hi, words_set l i _ hi] at this
    rw [hu, wd_turn l i hi]
    exact this
  · exact h8.turn ((Turn.refl (· = g) w).setCell (p := ⟨g, i / 64, none⟩) (.inl rfl) u) (fun h => h6 h.symm)
set_option maxHeartbeats 1000000 in
theorem turn7 {w : World} {p g : Nat} {l : List Bool} (h : Al w p g l) (i k : Nat) (hik : i + k ≤ l.length) :
    Calls Tryd.prog 60 #[.pointer (some ⟨p, 0, none⟩), .int .i64 i, .int .i64 k] w fun r w' => (∃ v, r = .returned v) ∧ Al w' p g (flip l i k) ∧ Turn (· = g) w w' := by
  have hle := h.le
  have HA := Lib.hid h
  clear h
  go_enter Tryd.func60, Tryd.ntmps60
  go_wp2
  go_loopw [6] (fun v6 wr => ∃ j : Nat, j ≤ k ∧ v6 = .int .i64 ((i + j : Nat) : Int) ∧ Al wr p g (flip l i j) ∧ Turn (· = g) w wr) (fun v6 _ => (i + k) - (intOf v6).toNat)
  case atStart => exact ⟨0, Nat.zero_le _, rfl, HA.out, Turn.refl _ _⟩
  case round =>
    obtain ⟨j, hj, rfl, ha, ht⟩ := hrel
    have HJ := Lib.hid ha
    have HT := Lib.hid ht
    have e1 := wrap_of ((i : Int) + (k : Int)) (by omega) (by omega)
    by_cases hlt : j < k
    · have hL := len_flip l i j
      have hij : i + j < (flip l i j).length := by rw [hL]; omega
      have HP := Lib.hid (place7 (i + j) (by omega) wr)
      obtain ⟨c, rest, h1, h2, h3⟩ := ha
      have hN : (i + j) / 64 < (flip l i j).length / 64 + 1 := by omega
      have x1 := h1.drew.cell 1
      simp only [List.getElem?_cons_zero, List.getElem?_cons_succ] at x1
      have x2 := h2.drew.cell ((i + j) / 64)
      rw [List.getElem?_append_left (by rw [len_words]; exact hN), words_at _ _ hN] at x2
      have x3 := h2.drew.free ((i + j) / 64)
      have hx := bits_xor_u64_nat (wd (flip l i j) ((i + j) / 64)) (2 ^ ((i + j) % 64)) (wd_lt _ _) (Nat.pow_lt_pow_right (by decide) (Nat.mod_lt _ (by decide)) : _ < 2 ^ 64)
      have HS := Lib.hid (fun u hu => al_put (w := wr.drew) (u := u) HJ.out.drew (i + j) hij hu)
      have HS2 := Lib.hid (fun (u : Value) => ((HT.out.drew).setCell (p := ⟨g, (i + j) / 64, none⟩) (.inl rfl) u))
      have HF : Hid ((flip l i j).set (i + j) (!(flip l i j).getD (i + j) false) = flip l i (j + 1)) := Lib.hid rfl
      have ei : (((i + j) / 64 : Nat) : Int) < (((flip l i j).length / 64 + 1 : Nat) : Int) := by omega
      have lt2 : ((i + j : Nat) : Int) < (i : Int) + (k : Int) := by omega
      have e2 := wrap_of (((i + j : Nat) : Int) + 1) (by omega) (by omega)
      have e4 : ((i + j : Nat) : Int) + 1 = ((i + (j + 1) : Nat) : Int) := by omega
      clear h1 h2 h3 ht hL
      generalize (flip l i j).length / 64 + 1 = N at *
      generalize (wd (flip l i j) ((i + j) / 64)) = W at *
      generalize 2 ^ ((i + j) % 64) = P at *
      generalize (i + j) / 64 = q at *
      clear hij
      generalize hm : i + j = m at *
      clear e4
      go_wp2_with (go_at_call 71; refine HP.out.mono ?_; rintro e w' ⟨rfl, rfl⟩)
      go_roundw
      case rel => exact ⟨j + 1, hlt, by rw [show i + (j + 1) = m + 1 from by omega]; simp, by rw [← HF.out]; exact HS.out _ rfl, HS2.out _⟩
      case measure => simp [intOf]; omega
    · obtain rfl : j = k := by omega
      clear ha ht
      go_wp2
      go_end0
      exact ⟨⟨_, rfl⟩, HJ.out, HT.out⟩
end Go.Proofs.YtmedljnbcpdoeaaDoor
/- Layer 7: how many bits of a word are set. -/
namespace Go.Proofs.YtmedljnbcpdoeaaDoor
open Go.RowKit
set_option linter.unusedVariables false
set_option maxRecDepth 100000

theorem shr_int (x s : Nat) : ((x / s : Nat) : Int) = (x : Int) / (s : Int) := by simp
theorem ones_steps (x : Nat) (hx : x < 18446744073709551616) : ∃ a1 a2 y1 b1 b2 y2 c1 y3 y4 y5 y6 : Nat,
    bits .and .u64 ((x : Int) / 2) 6148914691236517205 = (a1 : Int) ∧ bits .and .u64 (x : Int) 6148914691236517205 = (a2 : Int) ∧ IntKind.u64.wrap ((a1 : Int) + (a2 : Int)) = (y1 : Int) ∧
    bits .and .u64 ((y1 : Int) / 4) 3689348814741910323 = (b1 : Int) ∧ bits .and .u64 (y1 : Int) 3689348814741910323 = (b2 : Int) ∧ IntKind.u64.wrap ((b1 : Int) + (b2 : Int)) = (y2 : Int) ∧
    IntKind.u64.wrap ((y2 : Int) / 16 + (y2 : Int)) = (c1 : Int) ∧ bits .and .u64 (c1 : Int) 1085102592571150095 = (y3 : Int) ∧
    IntKind.u64.wrap ((y3 : Int) + (y3 : Int) / 256) = (y4 : Int) ∧ IntKind.u64.wrap ((y4 : Int) + (y4 : Int) / 65536) = (y5 : Int) ∧ IntKind.u64.wrap ((y5 : Int) + (y5 : Int) / 4294967296) = (y6 : Int) ∧
    y6 < 9223372036854775808 ∧ y6 % 128 = Lib.popAux 64 x := by
  obtain ⟨y4, y5, y6, k4, k5, k6, l4, l5, l6, kp⟩ := dsum_pop x
  obtain ⟨hC, hm⟩ := pop_all 8 x
  have m1 : msk 85 8 = 6148914691236517205 := by decide
  have m2 : msk 51 8 = 3689348814741910323 := by decide
  have m3 : msk 15 8 = 1085102592571150095 := by decide
  have a1b : x / 2 &&& msk 85 8 ≤ 6148914691236517205 := by rw [← m1]; exact Nat.and_le_right
  have a2b : x &&& msk 85 8 ≤ 6148914691236517205 := by rw [← m1]; exact Nat.and_le_right
  have eA : popA 8 x = (x / 2 &&& msk 85 8) + (x &&& msk 85 8) := rfl
  have y1b : popA 8 x < 18446744073709551616 := by rw [eA]; omega
  have b1b : popA 8 x / 4 &&& msk 51 8 ≤ 3689348814741910323 := by rw [← m2]; exact Nat.and_le_right
  have b2b : popA 8 x &&& msk 51 8 ≤ 3689348814741910323 := by rw [← m2]; exact Nat.and_le_right
  have eB : popB 8 (popA 8 x) = (popA 8 x / 4 &&& msk 51 8) + (popA 8 x &&& msk 51 8) := rfl
  have y2b : popB 8 (popA 8 x) ≤ 7378697629483820646 := by rw [eB]; omega
  have eC : popC 8 (popB 8 (popA 8 x)) = popB 8 (popA 8 x) / 16 + popB 8 (popA 8 x) &&& msk 15 8 := rfl
  refine ⟨x / 2 &&& msk 85 8, x &&& msk 85 8, popA 8 x, popA 8 x / 4 &&& msk 51 8, popA 8 x &&& msk 51 8, popB 8 (popA 8 x), popB 8 (popA 8 x) / 16 + popB 8 (popA 8 x), dsum 8 x, y4, y5, y6, ?_, ?_, ?_, ?_, ?_, ?_, ?_, ?_, ?_, ?_, ?_, l6, kp⟩
  · have := bits_and_u64_nat (x / 2) (msk 85 8) (by omega) (by rw [m1]; decide)
    rw [← this, m1]; simp
  · have := bits_and_u64_nat x (msk 85 8) hx (by rw [m1]; decide)
    rw [← this, m1]; simp
  · rw [eA, IntKind.wrap_u64]; omega
  · have := bits_and_u64_nat (popA 8 x / 4) (msk 51 8) (by omega) (by rw [m2]; decide)
    rw [← this, m2]; simp
  · have := bits_and_u64_nat (popA 8 x) (msk 51 8) y1b (by rw [m2]; decide)
    rw [← this, m2]; simp
  · rw [eB, IntKind.wrap_u64]; omega
  · rw [IntKind.wrap_u64]; omega
  · have := bits_and_u64_nat (popB 8 (popA 8 x) / 16 + popB 8 (popA 8 x)) (msk 15 8) (by omega) (by rw [m3]; decide)
    rw [← hC, eC, ← this, m3]; simp
  · rw [IntKind.wrap_u64]; omega
  · rw [IntKind.wrap_u64]; omega
  · rw [IntKind.wrap_u64]; omega
theorem and127 (y : Nat) (h : y < 9223372036854775808) : bits .and .i64 (y : Int) 127 = ((y % 128 : Nat) : Int) := by
  have h1 : (BitVec.ofInt 64 (y : Int)).toNat = y := by
    rw [BitVec.ofInt_natCast, BitVec.toNat_ofNat]; exact Nat.mod_eq_of_lt (by omega)
  have h2 : (BitVec.ofInt 64 (127 : Int)).toNat = 127 := by decide
  have h3 : y &&& 127 = y % 128 := Nat.and_two_pow_sub_one_eq_mod y 7
  show IntKind.i64.wrap ((BitVec.ofInt 64 (y : Int) &&& BitVec.ofInt 64 (127 : Int)).toNat : Int) = _
  rw [BitVec.toNat_and, h1, h2, h3, IntKind.wrap_i64]
  omega
set_option maxHeartbeats 1000000 in
theorem onesCount7 (x : Nat) (hx : x < 18446744073709551616) (w : World) :
    Calls Tryd.prog 76 #[.int .u64 x] w fun e w' => e = .returned (.int .i64 (Lib.popAux 64 x)) ∧ w' = w := by
  obtain ⟨a1, a2, y1, b1, b2, y2, c1, y3, y4, y5, y6, e1, e2, e3, e4, e5, e6, e7, e8, e9, e10, e11, l6, kp⟩ := ones_steps x hx
  have e12 := and127 y6 l6
  rw [kp] at e12
  have e13 := wrap_of (y6 : Int) (by omega) (by omega)
  generalize Lib.popAux 64 x = r at *
  clear kp
  go_enter Tryd.func76, Tryd.ntmps76
  go_wp2
  go_ret
  exact ⟨rfl, rfl⟩
end Go.Proofs.YtmedljnbcpdoeaaDoor
/- Layer 7: Free, Has, Claim, Give. -/
namespace Go.Proofs.YtmedljnbcpdoeaaDoor
open Go.RowKit
set_option linter.unusedVariables false
set_option maxRecDepth 100000

theorem freeCount7 {w : World} {p g : Nat} {l : List Bool} (h : Al w p g l) :
    Calls Tryd.prog 70 #[.pointer (some ⟨p, 0, none⟩)] w fun r w' => r = .returned (.int .i64 (free7 l)) ∧ w' = w := by
  have HM := Lib.hid (made7 h)
  have hle := h.le
  obtain ⟨c, rest, h1, h2, h3, h4, h5⟩ := h
  have x1 := h1.cell 1
  simp only [List.getElem?_cons_zero, List.getElem?_cons_succ] at x1
  have H2 := Lib.hid (fun (k : Nat) (hk : k < l.length / 64 + 1) => (by
    have := h2.cell k
    rw [List.getElem?_append_left (by rw [len_words]; exact hk), words_at _ _ hk] at this
    exact this : w.cell? ⟨g, k, none⟩ = some (.int .u64 ((wd l k : Nat) : Int))))
  have HE : Hid (cnt l 0 (64 * (l.length / 64 + 1)) = free7 l) := Lib.hid (by
    rw [← cnt_past l (64 * (l.length / 64 + 1) - l.length)]
    congr 1
    omega)
  clear h1 h2 h5
  have hN : l.length / 64 + 1 ≤ 257 := by omega
  generalize l.length / 64 + 1 = N at *
  generalize free7 l = res at *
  go_enter Tryd.func70, Tryd.ntmps70
  go_wp2_with (go_at_call 65; refine HM.out.mono ?_; rintro e w' ⟨rfl, rfl⟩)
  go_loop [3, 14] (fun v3 v14 => ∃ k : Nat, k ≤ N ∧ v14 = .int .i64 k ∧ v3 = .int .i64 ((cnt l 0 (64 * k) : Nat) : Int)) (fun _ v14 => N - (intOf v14).toNat)
  case atStart => exact ⟨0, Nat.zero_le _, rfl, rfl⟩
  case round =>
    obtain ⟨k, hk, rfl, rfl⟩ := hrel
    have hc := cnt_le l 0 (64 * k)
    by_cases hlt : k < N
    · have x2 := H2.out k hlt
      have HC := Lib.hid (fun w => onesCount7 (wd l k) (wd_lt l k) w)
      have hp := popAux_cnt l k 64 (Nat.le_refl _)
      have ha := cnt_add l 0 (64 * k) 64
      rw [Nat.zero_add, ← hp] at ha
      have hpl := popAux_le 64 (wd l k)
      have HA : Hid (cnt l 0 (64 * (k + 1)) = cnt l 0 (64 * k) + Lib.popAux 64 (wd l k)) := Lib.hid (by rw [show 64 * (k + 1) = 64 * k + 64 from by omega]; exact ha)
      have hi : (k : Int) < (N : Int) := by omega
      clear hp ha
      generalize Lib.popAux 64 (wd l k) = q at *
      generalize cnt l 0 (64 * k) = s at *
      generalize wd l k = W at *
      have e1 := wrap_of ((s : Int) + (q : Int)) (by omega) (by omega)
      have e2 := wrap_of ((k : Int) + 1) (by omega) (by omega)
      go_wp2_with (go_at_call 76; refine (HC.out _).mono ?_; rintro e w' ⟨rfl, rfl⟩)
      go_round
      case rel => exact ⟨k + 1, hlt, by simp, by rw [HA.out]; simp⟩
      case measure => simp [intOf]; omega
    · obtain rfl : k = N := by omega
      have hk2 : ¬ (k : Int) < (k : Int) := by omega
      go_wp2
      go_ret
      exact ⟨by rw [HE.out]; rfl, rfl⟩
theorem freeCount7_no {w : World} {v : Value} (h : Noa w v) :
    Calls Tryd.prog 70 #[v] w fun r w' => r = .returned (.int .i64 0) ∧ w' = w := by
  have HM := Lib.hid (made7_no h)
  clear h
  go_enter Tryd.func70, Tryd.ntmps70
  go_wp2_with (go_at_call 65; refine HM.out.mono ?_; rintro e w' ⟨rfl, rfl⟩)
  go_ret
  exact ⟨rfl, rfl⟩
/-- Is page i taken? -/
def has7 (l : List Bool) (i : Int) : Bool := decide (0 ≤ i ∧ i < l.length) && !l.getD i.toNat false
theorem hasPage7 {w : World} {p g : Nat} {l : List Bool} (h : Al w p g l) (i : Int) :
    Calls Tryd.prog 47 #[.pointer (some ⟨p, 0, none⟩), .int .i64 i] w fun r w' => r = .returned (.bool (has7 l i)) ∧ Turn (fun _ => False) w w' := by
  have HM := Lib.hid (made7 h)
  have HT := Lib.hid (fun n hn => taken7 h n hn)
  have hle := h.le
  obtain ⟨c, rest, h1, h2, h3, h4, h5⟩ := h
  have x0 := h1.cell 0
  simp only [List.getElem?_cons_zero] at x0
  clear h1 h2 h5
  by_cases h0 : 0 ≤ i
  · obtain ⟨n, rfl⟩ : ∃ n : Nat, i = (n : Int) := ⟨i.toNat, by omega⟩
    by_cases hlt : n < l.length
    · have hlt2 : (n : Int) < (l.length : Int) := by omega
      have hr : has7 l n = !l.getD n false := by unfold has7; simp [hlt2, hlt]
      have HT2 := Lib.hid (HT.out n hlt)
      rw [hr]
      generalize (!l.getD n false) = res at *
      generalize l.length = N at *
      clear hr
      go_enter Tryd.func47, Tryd.ntmps47
      go_wp2_with (first | (go_at_call 65; refine HM.out.mono ?_; rintro e w' ⟨rfl, rfl⟩) | (go_at_call 66; refine HT2.out.mono ?_; rintro e w' ⟨rfl, rfl⟩))
      go_ret
      exact ⟨rfl, (Turn.refl _ _).drew⟩
    · have hlt2 : ¬ (n : Int) < (l.length : Int) := by omega
      have hr : has7 l n = false := by unfold has7; simp [hlt]
      rw [hr]
      clear hr HT
      have hlt3 : decide ((n : Int) < (l.length : Int)) = false := by simpa using hlt2
      have hlt4 : decide (n < l.length) = false := by simpa using hlt
      generalize l.length = N at *
      go_enter Tryd.func47, Tryd.ntmps47
      go_wp2_with (go_at_call 65; refine HM.out.mono ?_; rintro e w' ⟨rfl, rfl⟩)
      go_ret
      exact ⟨rfl, Turn.refl _ _⟩
  · have h02 : decide (0 ≤ i) = false := by simpa using h0
    have hr : has7 l i = false := by unfold has7; simp [h0]
    rw [hr]
    clear hr HT
    generalize l.length = N at *
    go_enter Tryd.func47, Tryd.ntmps47
    go_wp2_with (go_at_call 65; refine HM.out.mono ?_; rintro e w' ⟨rfl, rfl⟩)
    go_ret
    exact ⟨rfl, Turn.refl _ _⟩
theorem hasPage7_no {w : World} {v : Value} (h : Noa w v) (i : Int) :
    Calls Tryd.prog 47 #[v, .int .i64 i] w fun r w' => r = .returned (.bool false) ∧ w' = w := by
  have HM := Lib.hid (made7_no h)
  clear h
  go_enter Tryd.func47, Tryd.ntmps47
  go_wp2_with (go_at_call 65; refine HM.out.mono ?_; rintro e w' ⟨rfl, rfl⟩)
  go_ret
  exact ⟨rfl, rfl⟩
/-- Claim of page i. -/
def clm7 (l : List Bool) (i : Int) : List Bool × Int := if i < 0 ∨ l.length ≤ i then (l, 6) else if l.getD i.toNat false then (flip l i.toNat 1, 0) else (l, 8)
theorem claim7 {w : World} {p g : Nat} {l : List Bool} (h : Al w p g l) (i : Int) :
    Calls Tryd.prog 48 #[.pointer (some ⟨p, 0, none⟩), .int .i64 i] w fun r w' => r = .returned (.int .i64 (clm7 l i).2) ∧ Al w' p g (clm7 l i).1 ∧ Turn (· = g) w w' := by
  have HM := Lib.hid (made7 h)
  have HT := Lib.hid (fun n hn => taken7 h n hn)
  have HA := Lib.hid h
  have hle := h.le
  obtain ⟨c, rest, h1, h2, h3, h4, h5⟩ := h
  have x0 := h1.cell 0
  simp only [List.getElem?_cons_zero] at x0
  clear h1 h2 h5
  by_cases h0 : 0 ≤ i
  · obtain ⟨n, rfl⟩ : ∃ n : Nat, i = (n : Int) := ⟨i.toNat, by omega⟩
    have h0b : ((n : Int) < 0) = False := by simp
    by_cases hlt : n < l.length
    · have hlt2 : (n : Int) < (l.length : Int) := by omega
      have HT2 := Lib.hid (HT.out n hlt)
      have HU := Lib.hid (turn7 HA.out.drew n 1 (by omega))
      have hr : clm7 l n = if l.getD n false then (flip l n 1, 0) else (l, 8) := by
        unfold clm7
        rw [if_neg (by omega), Int.toNat_natCast]
      cases hb : l.getD n false with
      | true =>
        rw [hb] at hr HT2
        have HR : Hid (clm7 l n = (flip l n 1, 0)) := hr
        rw [HR.out]
        clear hr hb HT h0 h0b
        generalize flip l n 1 = X at *
        have hlt4 : decide (l.length ≤ n) = false := by simpa using hlt
        generalize l.length = N at *
        go_enter Tryd.func48, Tryd.ntmps48
        go_wp2_with (first | (go_at_call 65; refine HM.out.mono ?_; rintro e w' ⟨rfl, rfl⟩) | (go_at_call 66; refine HT2.out.mono ?_; rintro e w' ⟨rfl, rfl⟩) | (go_at_call 60; refine HU.out.mono ?_; rintro e w' ⟨⟨v, rfl⟩, ha, ht⟩))
        go_ret
        exact ⟨rfl, ha, (Turn.refl _ _).drew.trans ht⟩
      | false =>
        rw [hb] at hr HT2
        have HR : Hid (clm7 l n = (l, 8)) := hr
        rw [HR.out]
        clear hr hb HT HU h0 h0b
        have hlt4 : decide (l.length ≤ n) = false := by simpa using hlt
        have hlen : l.length = l.length := rfl
        generalize hN : l.length = N at *
        clear hN hlen
        go_enter Tryd.func48, Tryd.ntmps48
        go_wp2_with (first | (go_at_call 65; refine HM.out.mono ?_; rintro e w' ⟨rfl, rfl⟩) | (go_at_call 66; refine HT2.out.mono ?_; rintro e w' ⟨rfl, rfl⟩))
        go_ret
        exact ⟨rfl, HA.out.drew, (Turn.refl _ _).drew⟩
    · have hlt2 : (l.length : Int) ≤ (n : Int) := by omega
      have HR : Hid (clm7 l n = (l, 6)) := Lib.hid (by unfold clm7; rw [if_pos (by omega)])
      rw [HR.out]
      clear HT
      have hlt4 : decide (l.length ≤ n) = true := by simpa using hlt
      generalize hN : l.length = N at *
      clear hN
      go_enter Tryd.func48, Tryd.ntmps48
      go_wp2_with (go_at_call 65; refine HM.out.mono ?_; rintro e w' ⟨rfl, rfl⟩)
      go_ret
      exact ⟨rfl, HA.out, Turn.refl _ _⟩
  · have h02 : i < 0 := by omega
    have HR : Hid (clm7 l i = (l, 6)) := Lib.hid (by unfold clm7; rw [if_pos (by omega)])
    rw [HR.out]
    clear HT
    generalize hN : l.length = N at *
    clear hN
    go_enter Tryd.func48, Tryd.ntmps48
    go_wp2_with (go_at_call 65; refine HM.out.mono ?_; rintro e w' ⟨rfl, rfl⟩)
    go_ret
    exact ⟨rfl, HA.out, Turn.refl _ _⟩
theorem claim7_no {w : World} {v : Value} (h : Noa w v) (i : Int) :
    Calls Tryd.prog 48 #[v, .int .i64 i] w fun r w' => r = .returned (.int .i64 1) ∧ w' = w := by
  have HM := Lib.hid (made7_no h)
  clear h
  go_enter Tryd.func48, Tryd.ntmps48
  go_wp2_with (go_at_call 65; refine HM.out.mono ?_; rintro e w' ⟨rfl, rfl⟩)
  go_ret
  exact ⟨rfl, rfl⟩
end Go.Proofs.YtmedljnbcpdoeaaDoor
/- Layer 7: Give, New, Copy. -/
namespace Go.Proofs.YtmedljnbcpdoeaaDoor
open Go.RowKit
set_option linter.unusedVariables false
set_option maxRecDepth 100000

/-- Is one of the k pages from i on free? -/
def some7 (l : List Bool) (i k : Nat) : Bool := (List.range k).any fun j => l.getD (i + j) false
theorem some7_no {l : List Bool} {i k : Nat} (h : ∀ j, j < k → l.getD (i + j) false = false) : some7 l i k = false := by
  unfold some7
  rw [List.any_eq_false]
  intro j hj
  rw [h j (List.mem_range.1 hj)]; simp
theorem some7_yes {l : List Bool} {i k j : Nat} (hj : j < k) (h : l.getD (i + j) false = true) : some7 l i k = true := by
  unfold some7
  rw [List.any_eq_true]
  exact ⟨j, List.mem_range.2 hj, h⟩
/-- Give of k pages from i on. -/
def giv7 (l : List Bool) (i k : Int) : List Bool × Int :=
  if k < 1 then (l, 2) else if i < 0 ∨ l.length - i < k then (l, 6) else if some7 l i.toNat k.toNat then (l, 7) else (flip l i.toNat k.toNat, 0)
set_option maxHeartbeats 1000000 in
theorem give7 {w : World} {p g : Nat} {l : List Bool} (h : Al w p g l) (i k : Int) (hi : -9223372036854775808 ≤ i ∧ i ≤ 9223372036854775807) (hk : -9223372036854775808 ≤ k ∧ k ≤ 9223372036854775807) :
    Calls Tryd.prog 63 #[.pointer (some ⟨p, 0, none⟩), .int .i64 i, .int .i64 k] w fun r w' => r = .returned (.int .i64 (giv7 l i k).2) ∧ Al w' p g (giv7 l i k).1 ∧ Turn (· = g) w w' := by
  have HM := Lib.hid (made7 h)
  have hle := h.le
  have HA := Lib.hid h
  obtain ⟨c, rest, h1, h2, h3, h4, h5⟩ := h
  have x0 := h1.cell 0
  simp only [List.getElem?_cons_zero] at x0
  clear h1 h2 h5
  by_cases hk1 : k < 1
  · have HR : Hid (giv7 l i k = (l, 2)) := Lib.hid (by unfold giv7; rw [if_pos hk1])
    rw [HR.out]
    go_enter Tryd.func63, Tryd.ntmps63
    go_wp2_with (go_at_call 65; refine HM.out.mono ?_; rintro e w' ⟨rfl, rfl⟩)
    go_ret
    exact ⟨rfl, HA.out, Turn.refl _ _⟩
  · by_cases hr : i < 0 ∨ l.length - i < k
    · have HR : Hid (giv7 l i k = (l, 6)) := Lib.hid (by unfold giv7; rw [if_neg hk1, if_pos hr])
      rw [HR.out]
      by_cases h0 : i < 0
      · clear hr
        go_enter Tryd.func63, Tryd.ntmps63
        go_wp2_with (go_at_call 65; refine HM.out.mono ?_; rintro e w' ⟨rfl, rfl⟩)
        go_ret
        exact ⟨rfl, HA.out, Turn.refl _ _⟩
      · have hr2 : (l.length : Int) - i < k := by omega
        have e1 := wrap_of ((l.length : Int) - i) (by omega) (by omega)
        clear hr
        go_enter Tryd.func63, Tryd.ntmps63
        go_wp2_with (go_at_call 65; refine HM.out.mono ?_; rintro e w' ⟨rfl, rfl⟩)
        go_ret
        exact ⟨rfl, HA.out, Turn.refl _ _⟩
    · obtain ⟨I, rfl⟩ : ∃ n : Nat, i = (n : Int) := ⟨i.toNat, by omega⟩
      obtain ⟨K, rfl⟩ : ∃ n : Nat, k = (n : Int) := ⟨k.toNat, by omega⟩
      have hIK : I + K ≤ l.length := by omega
      have hr2 : (K : Int) ≤ (l.length : Int) - (I : Int) := by omega
      have HR : Hid (giv7 l I K = if some7 l I K then (l, 7) else (flip l I K, 0)) := Lib.hid (by unfold giv7; rw [if_neg hk1, if_neg hr, Int.toNat_natCast, Int.toNat_natCast])
      have e1 := wrap_of ((l.length : Int) - (I : Int)) (by omega) (by omega)
      have e2 := wrap_of ((I : Int) + (K : Int)) (by omega) (by omega)
      have hk2 : (1 : Int) ≤ (K : Int) := by omega
      clear hr
      go_enter Tryd.func63, Tryd.ntmps63
      go_wp2_with (go_at_call 65; refine HM.out.mono ?_; rintro e w' ⟨rfl, rfl⟩)
      go_loopw [7] (fun v7 wr => ∃ j : Nat, j ≤ K ∧ v7 = .int .i64 ((I + j : Nat) : Int) ∧ (∀ q, q < j → l.getD (I + q) false = false) ∧ Turn (fun _ => False) w' wr) (fun v7 _ => (I + K) - (intOf v7).toNat)
      case atStart => exact ⟨0, Nat.zero_le _, rfl, fun q h => absurd h (by omega), Turn.refl _ _⟩
      case round =>
        obtain ⟨j, hj, rfl, hq, ht⟩ := hrel
        have HQ := Lib.hid hq
        have HT := Lib.hid ht
        have HJ := Lib.hid (HA.out.still ht)
        clear hq ht
        by_cases hlt : j < K
        · have HK := Lib.hid (taken7 HJ.out (I + j) (by omega))
          have lt2 : ((I + j : Nat) : Int) < (I : Int) + (K : Int) := by omega
          have e5 := wrap_of (((I + j : Nat) : Int) + 1) (by omega) (by omega)
          cases hb : l.getD (I + j) false with
          | true =>
            have HR2 : Hid (giv7 l I K = (l, 7)) := Lib.hid (by rw [HR.out, some7_yes hlt hb]; rfl)
            rw [hb] at HK
            clear hb
            generalize I + j = m at *
            go_wp2_with (go_at_call 66; refine HK.out.mono ?_; rintro e w' ⟨rfl, rfl⟩)
            go_ret
            exact ⟨by rw [HR2.out]; rfl, by rw [HR2.out]; exact HJ.out.drew, (HT.out.drew).mono (fun _ _ h => h.elim)⟩
          | false =>
            have HQ2 : Hid (∀ q, q < j + 1 → l.getD (I + q) false = false) := Lib.hid (fun q h => by
              rcases Nat.lt_succ_iff_lt_or_eq.1 h with h | h
              · exact HQ.out q h
              · rw [h]; exact hb)
            rw [hb] at HK
            clear hb
            generalize hm : I + j = m at *
            go_wp2_with (go_at_call 66; refine HK.out.mono ?_; rintro e w' ⟨rfl, rfl⟩)
            go_roundw
            case rel => exact ⟨j + 1, hlt, by rw [show I + (j + 1) = m + 1 from by omega]; simp, HQ2.out, HT.out.drew⟩
            case measure => simp [intOf]; omega
        · obtain rfl : j = K := by omega
          have HR2 : Hid (giv7 l I j = (flip l I j, 0)) := Lib.hid (by rw [HR.out, some7_no HQ.out]; rfl)
          have HU := Lib.hid (turn7 HJ.out I j hIK)
          generalize flip l I j = X at *
          go_wp2_with (go_at_call 60; refine HU.out.mono ?_; rintro e w' ⟨⟨v, rfl⟩, ha, ht⟩)
          go_ret
          exact ⟨by rw [HR2.out]; rfl, by rw [HR2.out]; exact ha, (HT.out.mono (fun _ _ h => h.elim)).trans ht⟩
theorem give7_no {w : World} {v : Value} (h : Noa w v) (i k : Int) :
    Calls Tryd.prog 63 #[v, .int .i64 i, .int .i64 k] w fun r w' => r = .returned (.int .i64 1) ∧ w' = w := by
  have HM := Lib.hid (made7_no h)
  clear h
  go_enter Tryd.func63, Tryd.ntmps63
  go_wp2_with (go_at_call 65; refine HM.out.mono ?_; rintro e w' ⟨rfl, rfl⟩)
  go_ret
  exact ⟨rfl, rfl⟩
end Go.Proofs.YtmedljnbcpdoeaaDoor
