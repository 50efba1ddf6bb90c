/- Layer 5: slots, plain: their bytes, and what bytes are read as. -/
import Derived.Test.YtcjoinahelmmpaaTagA
import Derived.Test.YtcjoinahelmmpaaCore
namespace Go.Proofs.Ytcjoinahelmmpaa
open Go.RowKit
set_option linter.unusedVariables false

/-- A slot. -/
structure St where
  e : Int
  q : Int
  f : Bool
  z : Bool
  d : ByteArray
@[go_sem] def stv (s : St) : Value := .agg #[.int .i64 s.e, .int .i64 s.q, .bool s.f, .bool s.z, .string s.d]
def r5 (s : St) : Bool := decide (0 ≤ s.e ∧ s.e ≤ 2147483647 ∧ 0 ≤ s.q ∧ s.q ≤ 1152921504606846976 ∧ s.d.size ≤ 108)
theorem r5_yes {s : St} (h : r5 s = true) : 0 ≤ s.e ∧ s.e ≤ 2147483647 ∧ 0 ≤ s.q ∧ s.q ≤ 1152921504606846976 ∧ s.d.size ≤ 108 := of_decide_eq_true h
def flg (f z : Bool) : Nat := (if f then 1 else 0) + (if z then 2 else 0)
/-- A slot's bytes ahead of the sum. -/
def h1 (s : St) : List UInt8 := [83] ++ fld 1 (flg s.f s.z : Nat)
def h2 (s : St) : List UInt8 := h1 s ++ fld 4 s.e
def h3 (s : St) : List UInt8 := h2 s ++ fld 8 s.q
def h4 (s : St) : List UInt8 := h3 s ++ fld 2 (s.d.size : Nat)
def h5 (s : St) : List UInt8 := h4 s ++ s.d.data.toList
def h6 (s : St) : List UInt8 := h5 s ++ List.replicate (108 - s.d.size) 0
def put5 (s : St) : List UInt8 := h6 s ++ fld 4 (csum (h6 s) : Nat)
theorem len_data (S : ByteArray) : S.data.toList.length = S.size := Array.length_toList
theorem len_h1 (s : St) : (h1 s).length = 2 := by simp [h1, len_fld]
theorem len_h2 (s : St) : (h2 s).length = 6 := by simp [h2, len_h1, len_fld]
theorem len_h3 (s : St) : (h3 s).length = 14 := by simp [h3, len_h2, len_fld]
theorem len_h4 (s : St) : (h4 s).length = 16 := by simp [h4, len_h3, len_fld]
theorem len_h5 (s : St) : (h5 s).length = 16 + s.d.size := by simp only [h5, List.length_append, len_h4, len_data]
theorem len_h6 {s : St} (h : s.d.size ≤ 108) : (h6 s).length = 124 := by simp only [h6, List.length_append, len_h5, List.length_replicate]; omega
theorem len_put5 {s : St} (h : s.d.size ≤ 108) : (put5 s).length = 128 := by simp only [put5, List.length_append, len_h6 h, len_fld]
/-- What bytes tell, right or not. -/
def parse5 (l : List UInt8) : St := ⟨(num 4 l 2 : Nat), wrap64 (num 8 l 6 : Nat), decide ((l.getD 1 0).toNat % 2 = 1), decide ((l.getD 1 0).toNat / 2 % 2 = 1), ⟨((l.drop 16).take (num 2 l 14)).toArray⟩⟩
theorem parse_size (l : List UInt8) (h : 16 + num 2 l 14 ≤ l.length) : (parse5 l).d.size = num 2 l 14 := by
  simp only [parse5, ByteArray.size]
  rw [List.size_toArray, List.length_take, List.length_drop]; omega
/-- The slot of bytes. -/
def read5 (l : List UInt8) : Option St := if l.length = 128 ∧ num 2 l 14 ≤ 108 ∧ r5 (parse5 l) = true ∧ put5 (parse5 l) = l then some (parse5 l) else none
theorem flg_at (f z : Bool) : (UInt8.ofNat (flg f z)).toNat = flg f z ∧ decide (flg f z % 2 = 1) = f ∧ decide (flg f z / 2 % 2 = 1) = z := by
  cases f <;> cases z <;> exact ⟨rfl, rfl, rfl⟩
theorem flg_lt (f z : Bool) : flg f z ≤ 3 := by cases f <;> cases z <;> decide
theorem fld1 (n : Nat) (h : n < 256) : fld 1 (n : Nat) = [UInt8.ofNat n] := by
  rw [fld_nat]
  simp [nfld, Nat.mod_eq_of_lt h]
theorem put_at (s : St) : ∃ t, put5 s = 83 :: UInt8.ofNat (flg s.f s.z) :: t := by
  have h := flg_lt s.f s.z
  refine ⟨fld 4 s.e ++ fld 8 s.q ++ fld 2 (s.d.size : Nat) ++ s.d.data.toList ++ List.replicate (108 - s.d.size) 0 ++ fld 4 (csum (h6 s) : Nat), ?_⟩
  simp only [put5]
  conv => lhs; arg 1; rw [h6, h5, h4, h3, h2, h1, fld1 _ (by omega)]
  simp
theorem num_nat (k : Nat) (hk : k ≤ 8) (n : Int) (h0 : 0 ≤ n) (h1 : n < 256 ^ k) (l a b : List UInt8) (at_ : Nat) (hl : l = a ++ fld k n ++ b) (ha : a.length = at_) : (num k l at_ : Int) = n := by
  rw [num_fld k hk n l a b at_ hl ha, Int.emod_eq_of_lt h0 h1]
theorem parse_put {s : St} (h : r5 s = true) : parse5 (put5 s) = s ∧ num 2 (put5 s) 14 = s.d.size := by
  obtain ⟨a1, a2, a3, a4, a5⟩ := r5_yes h
  obtain ⟨t, ht⟩ := put_at s
  have n2 : (num 2 (put5 s) 14 : Int) = ((s.d.size : Nat) : Int) := num_nat 2 (by decide) _ (by omega) (by simp; omega) _ (h3 s) (s.d.data.toList ++ List.replicate (108 - s.d.size) 0 ++ fld 4 (csum (h6 s) : Nat)) 14 (by simp [put5, h6, h5, h4]) (len_h3 s)
  have n2' : num 2 (put5 s) 14 = s.d.size := by omega
  have n4 : (num 4 (put5 s) 2 : Int) = s.e := num_nat 4 (by decide) _ a1 (by simp; omega) _ (h1 s) (fld 8 s.q ++ fld 2 (s.d.size : Nat) ++ s.d.data.toList ++ List.replicate (108 - s.d.size) 0 ++ fld 4 (csum (h6 s) : Nat)) 2 (by simp [put5, h6, h5, h4, h3, h2]) (len_h1 s)
  have n8 : (num 8 (put5 s) 6 : Int) = s.q := num_nat 8 (by decide) _ a3 (by simp; omega) _ (h2 s) (fld 2 (s.d.size : Nat) ++ s.d.data.toList ++ List.replicate (108 - s.d.size) 0 ++ fld 4 (csum (h6 s) : Nat)) 6 (by simp [put5, h6, h5, h4, h3]) (len_h2 s)
  refine ⟨?_, n2'⟩
  have hd : ((put5 s).drop 16).take (num 2 (put5 s) 14) = s.d.data.toList := by
    rw [n2', show put5 s = h4 s ++ (s.d.data.toList ++ (List.replicate (108 - s.d.size) 0 ++ fld 4 (csum (h6 s) : Nat))) from by simp [put5, h6, h5], List.drop_left' (len_h4 s), List.take_left' (len_data _)]
  have hw : wrap64 (num 8 (put5 s) 6 : Nat) = s.q := by
    rw [n8]; exact IntWalk.wrap64_in _ ⟨by omega, by omega⟩
  have hf := flg_at s.f s.z
  have hg : ((put5 s).getD 1 0) = UInt8.ofNat (flg s.f s.z) := by rw [ht]; rfl
  have hdd : (⟨(((put5 s).drop 16).take (num 2 (put5 s) 14)).toArray⟩ : ByteArray) = s.d := by rw [hd]
  unfold parse5
  rw [n4, hw, hg, hf.1, hf.2.1, hf.2.2, hdd]
theorem read_put {s : St} (h : r5 s = true) : read5 (put5 s) = some s := by
  obtain ⟨h1, h2⟩ := parse_put h
  have h8 := len_put5 (r5_yes h).2.2.2.2
  unfold read5
  rw [h1, if_pos ⟨h8, by rw [h2]; exact (r5_yes h).2.2.2.2, h, rfl⟩]
theorem read_is {l : List UInt8} {s : St} (h : read5 l = some s) : r5 s = true ∧ put5 s = l ∧ l.length = 128 := by
  unfold read5 at h
  split at h
  · rename_i hh
    injection h with h
    subst h
    exact ⟨hh.2.2.1, hh.2.2.2, hh.1⟩
  · cases h
end Go.Proofs.Ytcjoinahelmmpaa
