/- Layer 9: pages and what they are, plain. -/
import Derived.Test.YtmedljnbcpdoeaaDoorAlU
namespace Go.Proofs.YtmedljnbcpdoeaaDoor
open Go.RowKit
set_option linter.unusedVariables false

/-- Which pages are free. -/
def bits9 (st : List Nat) : List Bool := st.map (fun x => x == 0)
theorem len_bits9 (st : List Nat) : (bits9 st).length = st.length := by simp [bits9]
theorem bits9_at (st : List Nat) (j : Nat) (h : j < st.length) : (bits9 st).getD j false = (st.getD j 0 == 0) := by
  unfold bits9
  simp [List.getD_eq_getElem?_getD, h]
theorem bits9_set (st : List Nat) (i s : Nat) : bits9 (st.set i s) = (bits9 st).set i (s == 0) := by unfold bits9; rw [List.map_set]
theorem bits9_same (st : List Nat) (i s : Nat) (h : i < st.length) (hs : (s == 0) = (st.getD i 0 == 0)) : bits9 (st.set i s) = bits9 st := by
  rw [bits9_set, hs, ← bits9_at st i h]
  apply List.ext_getElem?
  intro k
  rw [List.getElem?_set]
  split
  · rename_i e
    subst e
    rw [if_pos (by rw [len_bits9]; exact h), List.getD_eq_getElem?_getD, List.getElem?_eq_getElem (by rw [len_bits9]; exact h)]
    rfl
  · rfl
/-- A page that is not free is given. -/
theorem giv9 (st : List Nat) (i : Nat) (h : i < st.length) (hn : st.getD i 0 ≠ 0) : giv7 (bits9 st) i 1 = (bits9 (st.set i 0), 0) := by
  rw [giv7_one _ _ (by rw [len_bits9]; exact h), bits9_at st i h, if_neg (by simp; exact hn), bits9_set]; rfl
/-- Those of the first n pages that are something. -/
def pkTo (s : Nat) (st : List Nat) (n : Nat) : List Int := ((List.range n).filter (fun i => st.getD i 0 == s)).map (fun (i : Nat) => (i : Int))
def pk9 (s : Nat) (st : List Nat) : List Int := pkTo s st st.length
theorem pkTo_succ (s : Nat) (st : List Nat) (n : Nat) : pkTo s st (n + 1) = if st.getD n 0 == s then pkTo s st n ++ [(n : Int)] else pkTo s st n := by
  unfold pkTo
  rw [List.range_succ, List.filter_append, List.map_append]
  cases h : (st.getD n 0 == s) with
  | true => simp only [List.filter_cons, List.filter_nil, h, if_true, List.map_cons, List.map_nil]
  | false => simp only [List.filter_cons, List.filter_nil, h, Bool.false_eq_true, if_false, List.map_nil, List.append_nil]
theorem pkTo_le (s : Nat) (st : List Nat) (n : Nat) : (pkTo s st n).length ≤ n := by
  unfold pkTo
  rw [List.length_map]
  exact Nat.le_trans (List.length_filter_le _ _) (by simp)
theorem pkTo_mem (s : Nat) (st : List Nat) (n : Nat) (z : Int) : z ∈ pkTo s st n ↔ ∃ i : Nat, z = i ∧ i < n ∧ st.getD i 0 = s := by
  unfold pkTo
  simp only [List.mem_map, List.mem_filter, List.mem_range, beq_iff_eq]
  constructor
  · rintro ⟨i, ⟨h1, h2⟩, rfl⟩; exact ⟨i, rfl, h1, h2⟩
  · rintro ⟨i, rfl, h1, h2⟩; exact ⟨i, ⟨h1, h2⟩, rfl⟩
theorem pkTo_nodup (s : Nat) (st : List Nat) : ∀ n, (pkTo s st n).Nodup
  | 0 => by simp [pkTo]
  | n + 1 => by
    rw [pkTo_succ]
    split
    · rw [List.nodup_append]
      refine ⟨pkTo_nodup s st n, by simp, fun a ha b hb => ?_⟩
      rw [List.mem_singleton] at hb
      subst hb
      obtain ⟨i, rfl, h1, _⟩ := (pkTo_mem s st n a).1 ha
      omega
    · exact pkTo_nodup s st n
/-- All pages that are one thing are another. -/
def trn9 (a b : Nat) (st : List Nat) : List Nat := st.map (fun x => if x = a then b else x)
theorem len_trn9 (a b : Nat) (st : List Nat) : (trn9 a b st).length = st.length := by simp [trn9]
/-- The same, page by page: behind the first j of those that are picked. -/
def tr9 (b : Nat) (st : List Nat) (L : List Int) : List Nat := L.foldl (fun t i => t.set i.toNat b) st
theorem len_tr9 (b : Nat) (L : List Int) : ∀ (st : List Nat), (tr9 b st L).length = st.length := by
  induction L with
  | nil => intro st; rfl
  | cons x L ih => intro st; show (tr9 b (st.set x.toNat b) L).length = _; rw [ih, List.length_set]
theorem tr9_snoc (b : Nat) (st : List Nat) (L : List Int) (x : Int) : tr9 b st (L ++ [x]) = (tr9 b st L).set x.toNat b := by unfold tr9; rw [List.foldl_append]; rfl
theorem getD_set9 (st : List Nat) (i j b : Nat) (h : i < st.length) : (st.set i b).getD j 0 = if j = i then b else st.getD j 0 := by
  rw [List.getD_eq_getElem?_getD, List.getD_eq_getElem?_getD, List.getElem?_set]
  by_cases e : j = i
  · subst e; simp [h]
  · rw [if_neg (fun h => e h.symm), if_neg e]
theorem tr9_at (b : Nat) (L : List Int) : ∀ (st : List Nat) (j : Nat), (∀ z ∈ L, 0 ≤ z ∧ z < st.length) → (tr9 b st L).getD j 0 = if (j : Int) ∈ L then b else st.getD j 0 := by
  induction L with
  | nil => intro st j _; simp [tr9]
  | cons x L ih =>
    intro st j h
    show (tr9 b (st.set x.toNat b) L).getD j 0 = _
    have hx := h x (by simp)
    rw [ih _ _ (fun z hz => by rw [List.length_set]; exact h z (by simp [hz])), getD_set9 _ _ _ _ (by omega)]
    by_cases h1 : (j : Int) ∈ L
    · simp [h1]
    · by_cases h2 : j = x.toNat
      · have : (j : Int) = x := by omega
        rw [if_neg h1, if_pos h2, if_pos (by simp [this])]
      · have : ¬ (j : Int) = x := by omega
        rw [if_neg h1, if_neg h2, if_neg (by simp [this, h1])]
theorem list_ext9 {a b : List Nat} (hl : a.length = b.length) (h : ∀ j, j < a.length → a.getD j 0 = b.getD j 0) : a = b := by
  apply List.ext_getElem hl
  intro i h1 h2
  have := h i h1
  rw [List.getD_eq_getElem?_getD, List.getD_eq_getElem?_getD, List.getElem?_eq_getElem h1, List.getElem?_eq_getElem h2] at this
  exact this
theorem trn9_at (a b : Nat) (st : List Nat) (j : Nat) (h : j < st.length) : (trn9 a b st).getD j 0 = if st.getD j 0 = a then b else st.getD j 0 := by
  unfold trn9
  simp [List.getD_eq_getElem?_getD, h]
theorem pk9_in (s : Nat) (st : List Nat) : ∀ z ∈ pk9 s st, 0 ≤ z ∧ z < st.length := fun z hz => by
  obtain ⟨i, rfl, h1, _⟩ := (pkTo_mem s st st.length z).1 hz
  omega
theorem tr9_all (a b : Nat) (st : List Nat) : tr9 b st (pk9 a st) = trn9 a b st := by
  apply list_ext9 (by rw [len_tr9, len_trn9])
  intro j hj
  rw [len_tr9] at hj
  rw [tr9_at b _ st j (pk9_in a st), trn9_at a b st j hj]
  have : (j : Int) ∈ pk9 a st ↔ st.getD j 0 = a := by
    unfold pk9
    rw [pkTo_mem]
    constructor
    · rintro ⟨i, h1, h2, h3⟩
      have : i = j := by omega
      subst this; exact h3
    · intro h; exact ⟨j, rfl, hj, h⟩
  by_cases h : st.getD j 0 = a
  · rw [if_pos (this.2 h), if_pos h]
  · rw [if_neg (fun h2 => h (this.1 h2)), if_neg h]
/-- At its turn a page that was picked is still what it was. -/
theorem tr9_next (a b : Nat) (st : List Nat) (i : Nat) (z : Int) (h : (pk9 a st)[i]? = some z) : 0 ≤ z ∧ z < st.length ∧ (tr9 b st ((pk9 a st).take i)).getD z.toNat 0 = a := by
  have hz : z ∈ pk9 a st := List.mem_of_getElem? h
  have h1 := pk9_in a st z hz
  refine ⟨h1.1, h1.2, ?_⟩
  rw [tr9_at b _ st _ (fun y hy => pk9_in a st y (List.mem_of_mem_take hy))]
  obtain ⟨k, rfl, h2, h3⟩ := (pkTo_mem a st st.length z).1 hz
  rw [Int.toNat_natCast, if_neg]
  · exact h3
  · intro hm
    have hnd := pkTo_nodup a st st.length
    have hi : i < (pk9 a st).length := by
      rcases Nat.lt_or_ge i (pk9 a st).length with h4 | h4
      · exact h4
      · rw [List.getElem?_eq_none h4] at h; cases h
    obtain ⟨j, hj⟩ := List.getElem?_of_mem hm
    have hji : j < i := by
      rcases Nat.lt_or_ge j i with h4 | h4
      · exact h4
      · rw [List.getElem?_take_eq_none h4] at hj; cases hj
    rw [List.getElem?_take_of_lt hji] at hj
    have h5 := (List.getElem?_inj (show j < (pkTo a st st.length).length by have h6 : (pkTo a st st.length).length = (pk9 a st).length := rfl; omega) hnd).1 (hj.trans h.symm)
    omega
/-- The least page that is free. -/
def fst9 (st : List Nat) : Option Nat := (List.range st.length).find? (fun i => st.getD i 0 == 0)
end Go.Proofs.YtmedljnbcpdoeaaDoor
