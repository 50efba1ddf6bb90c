/- Layer 8: a node out of bytes, plain: bytes of a right node are read as the node. -/
import Derived.Test.YtcmghbglnkfbaaaPgK
namespace Go.Proofs.Ytcmghbglnkfbaaa
open Go.RowKit
set_option linter.unusedVariables false
set_option linter.unusedSimpArgs false
set_option maxRecDepth 100000

/-- So many bytes whose number stands in a field, and the place behind. -/
def piece8 (l : List UInt8) (a k : Nat) : Option (ByteArray × Nat) := if a + k + num k l a ≤ l.length then some (⟨((l.drop (a + k)).take (num k l a)).toArray⟩, a + k + num k l a) else none
def kid8 (l : List UInt8) (a : Nat) : Option (Int × Nat) := if a + 4 ≤ l.length then some ((num 4 l a : Int), a + 4) else none
/-- An entry more. -/
def step8 (l : List UInt8) (s : Nd × Nat) : Option (Nd × Nat) :=
  match piece8 l s.2 1 with
  | none => none
  | some (key, b) =>
    if s.1.leaf then
      match piece8 l b 2 with
      | none => none
      | some (v, c) => some (⟨true, s.1.keys ++ [key], s.1.vals ++ [v], s.1.kids⟩, c)
    else
      match kid8 l b with
      | none => none
      | some (z, c) => some (⟨false, s.1.keys ++ [key], s.1.vals, s.1.kids ++ [z]⟩, c)
def it8 (l : List UInt8) (s : Option (Nd × Nat)) : Nat → Option (Nd × Nat)
  | 0 => s
  | j + 1 => (it8 l s j).bind (step8 l)
def start8 (l : List UInt8) : Option (Nd × Nat) := if l[0]? = some 76 then some (⟨true, [], [], []⟩, 3) else (kid8 l 3).map (fun z => (⟨false, [], [], [z.1]⟩, z.2))
def read8 (l : List UInt8) : Option Nd := (it8 l (start8 l) (num 2 l 1)).map Prod.fst
theorem it8_none (l : List UInt8) (s : Option (Nd × Nat)) {i j : Nat} (h : i ≤ j) (hi : it8 l s i = none) : it8 l s j = none := by
  induction j with
  | zero =>
    obtain rfl : i = 0 := (by omega)
    exact hi
  | succ j ih =>
    by_cases h2 : i ≤ j
    · rw [it8, ih h2]; rfl
    · obtain rfl : i = j + 1 := (by omega)
      exact hi
theorem num_at (k : Nat) (hk : k ≤ 8) (n : Nat) (hn : n < 256 ^ k) (l a b : List UInt8) (at_ : Nat) (hl : l = a ++ fld k n ++ b) (ha : a.length = at_) : num k l at_ = n := by
  have h := num_fld k hk n l a b at_ hl ha
  rw [Int.emod_eq_of_lt (by omega) (by exact_mod_cast hn)] at h
  omega
theorem piece_at (k : Nat) (hk : k ≤ 8) (s : ByteArray) (hn : s.size < 256 ^ k) (l a b : List UInt8) (at_ : Nat) (hl : l = a ++ fld k s.size ++ s.data.toList ++ b) (ha : a.length = at_) : piece8 l at_ k = some (s, at_ + k + s.size) := by
  have hnum := num_at k hk s.size hn l a (s.data.toList ++ b) at_ (by rw [hl]; simp only [List.append_assoc]) ha
  have hf : (fld k (s.size : Int)).length = k := len_fld k _
  have hsl : s.data.toList.length = s.size := by rw [Array.length_toList]; rfl
  unfold piece8
  rw [hnum, if_pos (by rw [hl]; simp only [List.length_append, hf, hsl]; omega)]
  have hd : (l.drop (at_ + k)).take s.size = s.data.toList := by
    have : l = (a ++ fld k s.size) ++ (s.data.toList ++ b) := by rw [hl]; simp only [List.append_assoc]
    rw [this, List.drop_append_of_le_length (by simp only [List.length_append, hf]; omega), List.drop_of_length_le (by simp only [List.length_append, hf]; omega), List.nil_append, List.take_append_of_le_length (by omega), List.take_of_length_le (by omega)]
  rw [hd]
theorem kid_at (z : Int) (h0 : 0 ≤ z) (h1 : z < 16384) (l a b : List UInt8) (at_ : Nat) (hl : l = a ++ fld 4 z ++ b) (ha : a.length = at_) : kid8 l at_ = some (z, at_ + 4) := by
  obtain ⟨n, rfl⟩ : ∃ n : Nat, z = n := ⟨z.toNat, by omega⟩
  have hnum := num_at 4 (by decide) n (by have : (256 : Nat) ^ 4 = 4294967296 := by decide
                                          omega) l a b at_ hl ha
  have hf : (fld 4 (n : Int)).length = 4 := len_fld 4 _
  unfold kid8
  rw [hnum, if_pos (by rw [hl]; simp only [List.length_append, hf]; omega)]
theorem body_more (n : Nd) (j d : Nat) : ∃ t, body8 n (j + d) = body8 n j ++ t := by
  induction d with
  | zero => exact ⟨[], by simp⟩
  | succ d ih =>
    obtain ⟨t, ht⟩ := ih
    exact ⟨t ++ ent8 n (j + d), by rw [← Nat.add_assoc, body8_succ, ht, List.append_assoc]⟩
theorem pgb_at (n : Nd) {j : Nat} (h : j < n.keys.length) : ∃ t, pgb n = body8 n j ++ ent8 n j ++ t := by
  obtain ⟨t, ht⟩ := body_more n (j + 1) (n.keys.length - (j + 1))
  rw [show j + 1 + (n.keys.length - (j + 1)) = n.keys.length by omega, body8_succ] at ht
  exact ⟨t ++ List.replicate (1024 - (raw8 n).length) 0, by unfold pgb; rw [show raw8 n = body8 n n.keys.length from rfl, ht]; simp only [List.append_assoc]⟩
theorem pgb_head (n : Nd) : ∃ t, pgb n = head8 n.leaf n.keys.length (n.kids.getD 0 0) ++ t := ⟨ents8 n n.keys.length ++ List.replicate (1024 - (raw8 n).length) 0, by unfold pgb raw8 body8; simp only [List.append_assoc]⟩
/-- What has been read of a right node's bytes behind j entries. -/
def so8 (n : Nd) (j : Nat) : Nd := ⟨n.leaf, n.keys.take j, n.vals.take j, if n.leaf then [] else n.kids.take (j + 1)⟩
theorem fld76 : fld 1 76 = [76] := by decide
theorem fld73 : fld 1 73 = [73] := by decide
theorem start_is {n : Nd} (hs : Stands8 n) : start8 (pgb n) = some (so8 n 0, (body8 n 0).length) := by
  obtain ⟨t, ht⟩ := pgb_head n
  have h3 := hs.2
  have hb : (body8 n 0).length = if n.leaf then 3 else 7 := by unfold body8; rw [ents8, List.append_nil, len_head8]
  unfold start8 so8
  rw [hb]
  cases hl : n.leaf with
  | true =>
    rw [ht, hl]
    unfold head8
    rw [if_pos rfl, fld76, if_pos (by simp)]
    simp
  | false =>
    rw [hl] at h3
    have hk0 : 0 < n.kids.length := by have := h3.2.2; omega
    have hz := h3.1 0 hk0
    have hkid := kid_at (n.kids.getD 0 0) hz.1 hz.2 (pgb n) (fld 1 73 ++ fld 2 n.keys.length) t 3 (by rw [ht, hl]; unfold head8; simp only [Bool.false_eq_true, if_false, List.append_assoc]) (by rw [List.length_append, len_fld, len_fld])
    rw [if_neg (by rw [ht, hl]; unfold head8; rw [if_neg (by decide), fld73]; simp), hkid]
    simp only [Option.map_some, List.take_zero, Bool.false_eq_true, if_false]
    rw [List.take_add_one, List.take_zero, kid8_some hk0]; rfl
theorem count_is {n : Nd} (hs : Stands8 n) (hk : n.keys.length < 65536) : num 2 (pgb n) 1 = n.keys.length := by
  obtain ⟨t, ht⟩ := pgb_head n
  cases hl : n.leaf with
  | true => exact num_at 2 (by decide) _ (by simpa using hk) _ (fld 1 76) t 1 (by rw [ht, hl]; unfold head8; rw [if_pos rfl]) (len_fld 1 76)
  | false => exact num_at 2 (by decide) _ (by simpa using hk) _ (fld 1 73) (fld 4 (n.kids.getD 0 0) ++ t) 1 (by rw [ht, hl]; unfold head8; simp only [Bool.false_eq_true, if_false, List.append_assoc]) (len_fld 1 73)
theorem step_is {n : Nd} (hs : Stands8 n) {j : Nat} (hj : j < n.keys.length) : step8 (pgb n) (so8 n j, (body8 n j).length) = some (so8 n (j + 1), (body8 n (j + 1)).length) := by
  obtain ⟨t, ht⟩ := pgb_at n hj
  have h3 := hs.2
  have hks : (key8 n.keys j).size ≤ 128 := (hs.1 j hj).1
  have hkt : n.keys.take j ++ [key8 n.keys j] = n.keys.take (j + 1) := by rw [List.take_add_one, key8_some hj]; rfl
  rw [body8_succ]
  unfold step8
  cases hl : n.leaf with
  | true =>
    rw [hl] at h3
    have hjv : j < n.vals.length := by rw [h3.2.1]; exact hj
    have hvs : (key8 n.vals j).size ≤ 200 := h3.1 j hjv
    have he : ent8 n j = fld 1 (key8 n.keys j).size ++ (key8 n.keys j).data.toList ++ fld 2 (key8 n.vals j).size ++ (key8 n.vals j).data.toList := by unfold ent8 lent8; rw [hl, if_pos rfl]
    have hkz : (key8 n.keys j).data.toList.length = (key8 n.keys j).size := by rw [Array.length_toList]; rfl
    have hvz : (key8 n.vals j).data.toList.length = (key8 n.vals j).size := by rw [Array.length_toList]; rfl
    have p1 := piece_at 1 (by decide) (key8 n.keys j) (by omega) (pgb n) (body8 n j) (fld 2 (key8 n.vals j).size ++ (key8 n.vals j).data.toList ++ t) (body8 n j).length (by rw [ht, he]; simp only [List.append_assoc]) rfl
    have p2 := piece_at 2 (by decide) (key8 n.vals j) (by omega) (pgb n) (body8 n j ++ fld 1 (key8 n.keys j).size ++ (key8 n.keys j).data.toList) t ((body8 n j).length + 1 + (key8 n.keys j).size) (by rw [ht, he]; simp only [List.append_assoc]) (by rw [List.length_append, List.length_append, len_fld, hkz])
    have hvt : n.vals.take j ++ [key8 n.vals j] = n.vals.take (j + 1) := by rw [List.take_add_one, key8_some hjv]; rfl
    simp only [p1, so8, hl, if_true, p2, hkt, hvt]
    rw [he]
    simp only [List.length_append, len_fld, hkz, hvz]
    congr 2; omega
  | false =>
    rw [hl] at h3
    have hjk : j + 1 < n.kids.length := by rw [h3.2.2]; omega
    have hz := h3.1 (j + 1) hjk
    have hvn : n.vals = [] := List.eq_nil_of_length_eq_zero h3.2.1
    have he : ent8 n j = fld 1 (key8 n.keys j).size ++ (key8 n.keys j).data.toList ++ fld 4 (n.kids.getD (j + 1) 0) := by unfold ent8 kent8; rw [hl, if_neg (by decide)]
    have hkz : (key8 n.keys j).data.toList.length = (key8 n.keys j).size := by rw [Array.length_toList]; rfl
    have p1 := piece_at 1 (by decide) (key8 n.keys j) (by omega) (pgb n) (body8 n j) (fld 4 (n.kids.getD (j + 1) 0) ++ t) (body8 n j).length (by rw [ht, he]; simp only [List.append_assoc]) rfl
    have p2 := kid_at (n.kids.getD (j + 1) 0) hz.1 hz.2 (pgb n) (body8 n j ++ fld 1 (key8 n.keys j).size ++ (key8 n.keys j).data.toList) t ((body8 n j).length + 1 + (key8 n.keys j).size) (by rw [ht, he]; simp only [List.append_assoc]) (by rw [List.length_append, List.length_append, len_fld, hkz])
    have hdt : n.kids.take (j + 1) ++ [n.kids.getD (j + 1) 0] = n.kids.take (j + 1 + 1) := by rw [List.take_add_one (i := j + 1), kid8_some hjk]; rfl
    simp only [p1, so8, hl, Bool.false_eq_true, if_false, p2, hkt, hdt, hvn, List.take_nil]
    rw [he]
    simp only [List.length_append, len_fld, hkz]
    congr 2; omega
theorem it_is {n : Nd} (hs : Stands8 n) : ∀ j, j ≤ n.keys.length → it8 (pgb n) (start8 (pgb n)) j = some (so8 n j, (body8 n j).length)
  | 0, _ => by rw [it8, start_is hs]
  | j + 1, h => by rw [it8, it_is hs j (by omega)]; exact step_is hs (by omega)
/-- A right node's bytes are read as the node. -/
theorem read_is {n : Nd} (h : check8 n = 0) : read8 (pgb n) = some n := by
  obtain ⟨hs, hz⟩ := check8_ok h
  have hle : n.keys.length ≤ 1024 := by
    unfold size8 kb8 at hz
    split at hz <;> omega
  unfold read8
  rw [count_is hs (by omega), it_is hs _ (Nat.le_refl _)]
  have h3 := hs.2
  show some (so8 n n.keys.length) = some n
  congr 1
  obtain ⟨leaf, K, V, Z⟩ := n
  unfold so8
  cases leaf with
  | true =>
    have hv : V.length = K.length := h3.2.1
    have hzn : Z = [] := List.eq_nil_of_length_eq_zero h3.2.2
    simp only [List.take_length, if_true, hzn]
    rw [← hv, List.take_length]
  | false =>
    have hv : V = [] := List.eq_nil_of_length_eq_zero h3.2.1
    have hd : Z.length = K.length + 1 := h3.2.2
    simp only [List.take_length, Bool.false_eq_true, if_false, hv, List.take_nil]
    rw [← hd, List.take_length]
end Go.Proofs.Ytcmghbglnkfbaaa
