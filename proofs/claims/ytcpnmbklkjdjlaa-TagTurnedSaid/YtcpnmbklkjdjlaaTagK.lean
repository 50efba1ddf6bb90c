/- Layer 3: hexadecimal digits, there and back. Plain. -/
import Derived.Test.YtcpnmbklkjdjlaaBase
import Derived.Shelf.Strings.Search1
namespace Go.Proofs.Ytcpnmbklkjdjlaa

def hexs : ByteArray := ⟨#[48, 49, 50, 51, 52, 53, 54, 55, 56, 57, 97, 98, 99, 100, 101, 102]⟩
def hexd (d : Nat) : UInt8 := if d < 10 then UInt8.ofNat (48 + d) else UInt8.ofNat (87 + d)
def hv (c : UInt8) : Int := if 48 ≤ c.toNat ∧ c.toNat ≤ 57 then (c.toNat : Int) - 48 else if 97 ≤ c.toNat ∧ c.toNat ≤ 102 then (c.toNat : Int) - 97 + 10 else -1

theorem hexs_size : hexs.size = 16 := rfl
theorem hexs_at (d : Nat) (h : d < 16) : hexs[d]'h = hexd d := by
  have : ∀ d : Fin 16, hexs[d.val]'d.isLt = hexd d.val := by decide +kernel
  exact this ⟨d, h⟩
theorem index_hv (c : UInt8) : Lib.indexByte hexs.data.toList c = hv c := by
  have : ∀ n : Fin 256, Lib.indexByte hexs.data.toList (UInt8.ofNat n.val) = hv (UInt8.ofNat n.val) := by decide +kernel
  have h := this ⟨c.toNat, c.toNat_lt⟩
  simpa using h
theorem hv_hexd (d : Nat) (h : d < 16) : hv (hexd d) = d := by
  have : ∀ d : Fin 16, hv (hexd d.val) = d.val := by decide +kernel
  exact this ⟨d, h⟩
theorem hv_range (c : UInt8) : hv c = -1 ∨ (0 ≤ hv c ∧ hv c < 16) := by
  unfold hv
  split
  · right; omega
  · split
    · right; omega
    · left; rfl
theorem hexd_hv (c : UInt8) (h : 0 ≤ hv c) : hexd (hv c).toNat = c := by
  have : ∀ n : Fin 256, 0 ≤ hv (UInt8.ofNat n.val) → hexd (hv (UInt8.ofNat n.val)).toNat = UInt8.ofNat n.val := by decide +kernel
  have h2 := this ⟨c.toNat, c.toNat_lt⟩
  simp only [UInt8.ofNat_toNat] at h2
  exact h2 h

/-- Digit i of a number. -/
def dg (n : Nat) (i : Nat) : UInt8 := hexd (n / 16 ^ i % 16)
/-- The first i of five digits; the last i. -/
def al (n : Nat) : Nat → List UInt8
  | 0 => []
  | i + 1 => al n i ++ [dg n (4 - i)]
def rl (n : Nat) : Nat → List UInt8
  | 0 => []
  | i + 1 => dg n i :: rl n i
def hex5 (n : Nat) : List UInt8 := al n 5
theorem rl_five (n : Nat) : rl n 5 = hex5 n := rfl
theorem len_al (n i : Nat) : (al n i).length = i := by
  induction i with
  | zero => rfl
  | succ i ih => simp [al, ih]
theorem len_rl (n i : Nat) : (rl n i).length = i := by
  induction i with
  | zero => rfl
  | succ i ih => simp [rl, ih]
theorem len_hex5 (n : Nat) : (hex5 n).length = 5 := len_al n 5

/-- What digits say; below 0: they are none. -/
def rstep (a : Int) (c : UInt8) : Int := if a < 0 ∨ hv c < 0 then -1 else 16 * a + hv c
def rpv (l : List UInt8) : Int := l.foldl rstep 0
theorem rpv_snoc (l : List UInt8) (c : UInt8) : rpv (l ++ [c]) = rstep (rpv l) c := by simp [rpv]
theorem rstep_neg (l : List UInt8) : l.foldl rstep (-1) = -1 := by
  induction l with
  | nil => rfl
  | cons c l ih => rw [List.foldl_cons, show rstep (-1) c = -1 from by simp [rstep], ih]
theorem rpv_neg (l : List UInt8) (k : Nat) (h : rpv (l.take k) = -1) : rpv l = -1 := by
  have : rpv l = (l.drop k).foldl rstep (rpv (l.take k)) := by unfold rpv; rw [← List.foldl_append, List.take_append_drop]
  rw [this, h, rstep_neg]
theorem rpv_range (l : List UInt8) : rpv l = -1 ∨ (0 ≤ rpv l ∧ rpv l < 16 ^ l.length) := by
  suffices h : ∀ n (l : List UInt8), l.length = n → rpv l = -1 ∨ (0 ≤ rpv l ∧ rpv l < 16 ^ l.length) from h _ l rfl
  intro n
  induction n with
  | zero => intro l h; obtain rfl := List.eq_nil_of_length_eq_zero h; right; decide
  | succ n ih =>
    intro l h
    rcases List.eq_nil_or_concat l with rfl | ⟨r, c, rfl⟩
    · cases h
    · rw [List.concat_eq_append] at h ⊢
      rw [List.length_append] at h
      rw [rpv_snoc, List.length_append]
      have h1 := ih r (by simpa using h)
      unfold rstep
      rcases hv_range c with h2 | h2
      · left; rw [if_pos (by omega)]
      · rcases h1 with h1 | h1
        · left; rw [if_pos (by omega)]
        · right
          rw [if_neg (by omega), show r.length + [c].length = r.length + 1 from rfl, Int.pow_succ]
          omega
theorem rstep_ok (a : Int) (c : UInt8) (ha : 0 ≤ a) (hc : 0 ≤ hv c) : rstep a c = 16 * a + hv c := by unfold rstep; rw [if_neg (by omega)]
theorem rstep_no (a : Int) (c : UInt8) (hc : hv c < 0) : rstep a c = -1 := by unfold rstep; rw [if_pos (by omega)]
theorem rstep_hexd (a : Nat) (d : Nat) (hd : d < 16) : rstep (a : Int) (hexd d) = ((16 * a + d : Nat) : Int) := by
  rw [rstep_ok _ _ (by omega) (by rw [hv_hexd d hd]; omega), hv_hexd d hd]; omega
theorem rpv_hex5 (n : Nat) (h : n < 1048576) : rpv (hex5 n) = n := by
  show rstep (rstep (rstep (rstep (rstep 0 (hexd (n / 16 ^ 4 % 16))) (hexd (n / 16 ^ 3 % 16))) (hexd (n / 16 ^ 2 % 16))) (hexd (n / 16 ^ 1 % 16))) (hexd (n / 16 ^ 0 % 16)) = n
  rw [show (0 : Int) = ((0 : Nat) : Int) from rfl, rstep_hexd _ _ (by omega), rstep_hexd _ _ (by omega), rstep_hexd _ _ (by omega), rstep_hexd _ _ (by omega), rstep_hexd _ _ (by omega)]
  omega
theorem rstep_split {a : Int} {c : UInt8} (h : 0 ≤ rstep a c) : 0 ≤ a ∧ 0 ≤ hv c ∧ rstep a c = 16 * a + hv c := by
  unfold rstep at h ⊢
  split at h
  · omega
  · rename_i hn; rw [if_neg hn]; exact ⟨by omega, by omega, rfl⟩
theorem hexd_of (c : UInt8) (h : 0 ≤ hv c) (m : Nat) (hm : m % 16 = (hv c).toNat) : hexd (m % 16) = c := by rw [hm, hexd_hv c h]
theorem hex5_rpv (l : List UInt8) (hl : l.length = 5) (h : 0 ≤ rpv l) : hex5 (rpv l).toNat = l := by
  match l, hl with
  | [c4, c3, c2, c1, c0], _ =>
    have e : rpv [c4, c3, c2, c1, c0] = rstep (rstep (rstep (rstep (rstep 0 c4) c3) c2) c1) c0 := rfl
    rw [e] at h ⊢
    obtain ⟨h0, k0, e0⟩ := rstep_split h
    obtain ⟨h1, k1, e1⟩ := rstep_split h0
    obtain ⟨h2, k2, e2⟩ := rstep_split h1
    obtain ⟨h3, k3, e3⟩ := rstep_split h2
    obtain ⟨h4, k4, e4⟩ := rstep_split h3
    rw [e0, e1, e2, e3, e4]
    have r0 := hv_range c0
    have r1 := hv_range c1
    have r2 := hv_range c2
    have r3 := hv_range c3
    have r4 := hv_range c4
    show [hexd (_ / 16 ^ 4 % 16), hexd (_ / 16 ^ 3 % 16), hexd (_ / 16 ^ 2 % 16), hexd (_ / 16 ^ 1 % 16), hexd (_ / 16 ^ 0 % 16)] = _
    rw [hexd_of c4 k4 _ (by omega), hexd_of c3 k3 _ (by omega), hexd_of c2 k2 _ (by omega), hexd_of c1 k1 _ (by omega), hexd_of c0 k0 _ (by omega)]
end Go.Proofs.Ytcpnmbklkjdjlaa
