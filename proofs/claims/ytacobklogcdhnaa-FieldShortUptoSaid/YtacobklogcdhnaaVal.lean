/- Plain facts: a field is read as the number's lowest bits, wherever it stands. -/
import Derived.Test.YtacobklogcdhnaaFldOrd
import Derived.Test.YtacobklogcdhnaaLives
namespace Go.Proofs.Ytacobklogcdhnaa
open Go.RowKit

theorem foldl_val (l : List UInt8) (a : Nat) : l.foldl (fun a c => a * 256 + c.toNat) a = a * 256 ^ l.length + val l := by
  induction l generalizing a with
  | nil => simp [val]
  | cons c l ih =>
    have h1 := ih (a * 256 + c.toNat)
    have h2 := ih (0 * 256 + c.toNat)
    unfold val
    rw [List.foldl_cons, List.foldl_cons, h1, h2, List.length_cons, Nat.pow_succ, Nat.zero_mul, Nat.zero_add, Nat.add_mul]
    rw [Nat.mul_assoc a, Nat.mul_comm 256]
    omega
theorem val_cons (c : UInt8) (l : List UInt8) : val (c :: l) = c.toNat * 256 ^ l.length + val l := by
  unfold val; rw [List.foldl_cons, foldl_val]; simp [val]
theorem val_nfld (k x : Nat) : val (nfld k x) = x % 256 ^ k := by
  induction k with
  | zero => simp [nfld, val, Nat.mod_one]
  | succ k ih =>
    unfold nfld
    rw [val_cons, ih, len_nfld, UInt8.toNat_ofNat', Nat.mod_eq_of_lt (Nat.mod_lt _ (by decide)), show 2 ^ (8 * k) = 256 ^ k from by rw [Nat.pow_mul], Nat.pow_succ, Nat.mod_mul]
    rw [Nat.mul_comm, Nat.add_comm]
theorem fld_emod (k : Nat) (hk : k ≤ 8) (n : Int) : fld k n = nfld k (n % 18446744073709551616).toNat := by
  rw [← fld_wrap k hk n]
  have h : n % 18446744073709551616 = ((n % 18446744073709551616).toNat : Int) := (Int.toNat_of_nonneg (Int.emod_nonneg _ (by decide))).symm
  rw [h, fld_nat, Int.toNat_natCast]
theorem val_fld (k : Nat) (hk : k ≤ 8) (n : Int) : (val (fld k n) : Int) = n % 256 ^ k := by
  rw [fld_emod k hk, val_nfld]
  have h := Int.toNat_of_nonneg (Int.emod_nonneg n (b := 18446744073709551616) (by decide))
  rw [Int.natCast_emod, h, show (((256 : Nat) ^ k : Nat) : Int) = (256 : Int) ^ k from by simp]
  refine Int.emod_emod_of_dvd n ?_
  rw [show (18446744073709551616 : Int) = 256 ^ k * 256 ^ (8 - k) from by rw [← Int.pow_add, show k + (8 - k) = 8 from by omega]; rfl]
  exact Int.dvd_mul_right _ _
/-- What stands at place at_ is read. -/
theorem num_fld (k : Nat) (hk : k ≤ 8) (n : Int) (l a b : List UInt8) (at_ : Nat) (hl : l = a ++ fld k n ++ b) (ha : a.length = at_) : (num k l at_ : Int) = n % 256 ^ k := by
  subst hl ha
  unfold num
  rw [List.append_assoc, List.drop_left, List.take_left' (len_fld k n)]
  exact val_fld k hk n

/-- Two readers are apart: what one's call turns is none of the other's. -/
theorem Rdr.apart {w w' : World} {p q at_ er at2 er2 : Nat} {l m : List UInt8} (h : Rdr w q m at2 er2) (hp : Rdr w p l at_ er) (hne : q ≠ p) (ht : Turn (· = p) w w') : Rdr w' q m at2 er2 := by
  obtain ⟨A, cap, hc, hk, hA, h1, h2⟩ := h
  obtain ⟨A', cap', _, hk', _⟩ := hp
  refine ⟨A, cap, hc, hk.turn ht hne, fun hpos => ?_, h1, h2⟩
  obtain ⟨ad, e, hs, hb, hcell⟩ := hA hpos
  refine ⟨ad, e, hs, hb, fun j c hj => ?_⟩
  have hcj := hcell j c hj
  have hne2 : ad.block ≠ p := by
    intro e2
    obtain ⟨b, off, spot⟩ := ad
    obtain rfl : spot = none := hs
    obtain rfl : b = p := e2
    have hadd : (⟨b, off, none⟩ : Addr).add j = ⟨b, off + j, none⟩ := by unfold Addr.add; split <;> simp_all
    rw [hadd, hk'.cell] at hcj
    match hoff : off + j, hcj with
    | 0, hcj => simp [u8v] at hcj
    | 1, hcj => simp [u8v] at hcj
    | 2, hcj => simp [u8v] at hcj
    | 3, hcj => simp [u8v] at hcj
    | n + 4, hcj => simp at hcj
  have hlt := cell_lt hcj
  rw [block_add] at hlt
  rw [← hcj]
  exact World.cell?_of_block (w := w) (by rw [block_add]; exact ht.block _ hlt hne2)
end Go.Proofs.Ytacobklogcdhnaa
