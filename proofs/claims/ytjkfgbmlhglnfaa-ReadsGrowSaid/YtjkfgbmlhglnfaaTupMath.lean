/- Layer 2 (tuple), plain words: parts of keys, their bytes, when they are a key. -/
import Derived.Test.YtjkfgbmlhglnfaaFldOrd
namespace Go.Proofs.Ytjkfgbmlhglnfaa
open Go.RowKit

/-- A part of a key: its kind, its number, its text. -/
structure Pt where
  k : Int
  n : Int
  s : ByteArray

def noS (s : ByteArray) : Bool := decide (s.size = 0)
/-- Has a part just what its kind has? -/
def prt (k n : Int) (s : ByteArray) : Bool := decide ((k = 1 ∧ n = 0) ∨ ((k = 2 ∨ k = 3) ∧ s.size = 0))
/-- How many bytes a part has. -/
def psz (k : Int) (s : ByteArray) : Nat := if k = 1 then 3 + s.size + s.data.toList.count 0 else 9
def pszs (l : List Pt) : Nat := (l.map fun p => psz p.k p.s).sum
/-- Check's answer. -/
def chk (l : List Pt) : Int := if l.all (fun p => prt p.k p.n p.s) then (if pszs l ≤ 128 then 0 else 5) else 2
/-- The word of a part's number. -/
def tn (k n : Int) : Int := if k = 3 then 9223372036854775807 - n else n + 9223372036854775808
/-- A text's bytes, each nought with its mark. -/
def esc : List UInt8 → List UInt8
  | [] => []
  | c :: l => (if c = 0 then [0, 255] else [c]) ++ esc l
/-- A part's bytes. -/
def pby (k n : Int) (s : ByteArray) : List UInt8 := if k = 1 then 2 :: (esc s.data.toList ++ [0, 1]) else (if k = 2 then 3 else 4) :: fld 8 (tn k n)
def kby : List Pt → List UInt8
  | [] => []
  | p :: l => pby p.k p.n p.s ++ kby l

theorem esc_app (a b : List UInt8) : esc (a ++ b) = esc a ++ esc b := by
  induction a with
  | nil => rfl
  | cons c a ih => simp [esc, ih]
theorem len_esc (l : List UInt8) : (esc l).length = l.length + l.count 0 := by
  induction l with
  | nil => rfl
  | cons c l ih =>
    unfold esc
    by_cases h : c = 0
    · subst h; simp [ih]; omega
    · simp [h, ih]; omega
theorem kby_app (a b : List Pt) : kby (a ++ b) = kby a ++ kby b := by
  induction a with
  | nil => rfl
  | cons p a ih => simp [kby, ih]
theorem len_ba (s : ByteArray) : s.data.toList.length = s.size := by simp
theorem len_pby (k n : Int) (s : ByteArray) : (pby k n s).length = psz k s := by
  unfold pby psz
  split
  · simp [len_esc]; omega
  · simp [len_fld]
theorem len_kby (l : List Pt) : (kby l).length = pszs l := by
  induction l with
  | nil => rfl
  | cons p l ih => simp [kby, pszs, len_pby, ih]
theorem psz_pos (k : Int) (s : ByteArray) : 3 ≤ psz k s := by unfold psz; split <;> omega
theorem pszs_len (l : List Pt) : 3 * l.length ≤ pszs l := by
  induction l with
  | nil => simp [pszs]
  | cons p l ih => have := psz_pos p.k p.s; simp [pszs] at *; omega
theorem pszs_app (a b : List Pt) : pszs (a ++ b) = pszs a + pszs b := by simp [pszs]
theorem chk_cases (l : List Pt) : chk l = 0 ∨ chk l = 5 ∨ chk l = 2 := by
  unfold chk; split
  · split <;> simp
  · simp
theorem chk_ok {l : List Pt} (h : chk l = 0) : (∀ p ∈ l, prt p.k p.n p.s = true) ∧ pszs l ≤ 128 := by
  unfold chk at h
  split at h
  · rename_i ha
    split at h
    · exact ⟨by simpa using ha, by assumption⟩
    · cases h
  · cases h
theorem chk_of {l : List Pt} (h : ∀ p ∈ l, prt p.k p.n p.s = true) (h2 : pszs l ≤ 128) : chk l = 0 := by
  unfold chk
  rw [if_pos (by simpa using h), if_pos h2]
theorem prt_cases {k n : Int} {s : ByteArray} (h : prt k n s = true) : (k = 1 ∧ n = 0) ∨ (k = 2 ∧ s.size = 0) ∨ (k = 3 ∧ s.size = 0) := by
  have := of_decide_eq_true h; omega
theorem tn_range {k n : Int} (h0 : -9223372036854775808 ≤ n) (h1 : n ≤ 9223372036854775807) : 0 ≤ tn k n ∧ tn k n ≤ 18446744073709551615 := by unfold tn; split <;> omega
end Go.Proofs.Ytjkfgbmlhglnfaa
