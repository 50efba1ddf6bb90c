/- Layer 7, plain: the words' runs and the rows. -/
import Derived.Test.YtmedljnbcpdoeaaDoorAlG
namespace Go.Proofs.YtmedljnbcpdoeaaDoor

/-- The flags, and noughts up to the words' end. -/
def pad7 (l : List Bool) : List Bool := l ++ List.replicate (64 * (l.length / 64 + 1) - l.length) false
theorem len_pad7 (l : List Bool) : (pad7 l).length = 64 * (l.length / 64 + 1) := by unfold pad7; simp; omega
theorem rw7_pad7 (l : List Bool) : rw7 0 0 (pad7 l) = rows7 l := by
  obtain ⟨d, hd⟩ : ∃ d, 64 * (l.length / 64 + 1) - l.length = d + 1 := ⟨64 * (l.length / 64 + 1) - l.length - 1, by omega⟩
  unfold pad7
  rw [hd]; exact rows7_pad l d
theorem pad7_at (l : List Bool) (j : Nat) (hj : j < 64 * (l.length / 64 + 1)) : (pad7 l)[j]? = some (l.getD j false) := by
  unfold pad7
  rw [List.getD_eq_getElem?_getD]
  by_cases h : j < l.length
  · rw [List.getElem?_append_left h, List.getElem?_eq_getElem h]; rfl
  · rw [List.getElem?_append_right (by omega), List.getElem?_replicate, if_pos (by omega), List.getElem?_eq_none (by omega)]; rfl
theorem step7 (l : List Bool) (n p row : Nat) (hn : n < l.length / 64 + 1) (hp : p ≤ 64) :
    p + ones (wd l n) p ≤ 64 ∧ rw7 (64 * n + p) row ((pad7 l).drop (64 * n + p)) = rw7 (64 * n + (p + ones (wd l n) p)) (row + ones (wd l n) p) ((pad7 l).drop (64 * n + (p + ones (wd l n) p))) := by
  obtain ⟨h1, h2, _⟩ := ones_bits (wd l n) p (wd_lt l n) hp
  refine ⟨h1, ?_⟩
  generalize ones (wd l n) p = f at *
  rw [drop_run (pad7 l) true f (64 * n + p) (fun j hj => by
    have := h2 j hj
    rw [wd_bit] at this
    rw [pad7_at l _ (by omega), show 64 * n + p + j = 64 * n + (p + j) from by omega]
    have h3 : l.getD (64 * n + (p + j)) false = true := by
      simp only [Bool.and_eq_true] at this
      exact this.2
    rw [h3]), rw7_true, Nat.add_assoc]
theorem skip7 (l : List Bool) (n p row x : Nat) (hn : n < l.length / 64 + 1) (hp : p < 64) (hb : (wd l n).testBit p = false) (hx : x = 18446744073709551616 - (wd l n + 1)) :
    1 ≤ ones x p ∧ p + ones x p ≤ 64 ∧ rw7 (64 * n + p) row ((pad7 l).drop (64 * n + p)) = (if 0 < row then [(64 * n + p - row, row)] else []) ++ rw7 (64 * n + (p + ones x p)) 0 ((pad7 l).drop (64 * n + (p + ones x p))) := by
  have hlt := wd_lt l n
  have hxl : x < 18446744073709551616 := by omega
  obtain ⟨h1, h2, h3⟩ := ones_bits x p hxl (by omega)
  have hbit : ∀ j, j < 64 → x.testBit j = !(wd l n).testBit j := fun j hj => by
    have := Nat.testBit_two_pow_sub_succ (x := wd l n) (n := 64) hlt j
    rw [hx, show (18446744073709551616 : Nat) = 2 ^ 64 from rfl, this]; simp [hj]
  have hpos : 1 ≤ ones x p := by
    rcases Nat.lt_or_ge 0 (ones x p) with h | h
    · exact h
    · have e : ones x p = 0 := by omega
      rw [e, Nat.add_zero, hbit p hp, hb] at h3
      cases h3
  refine ⟨hpos, h1, ?_⟩
  generalize ones x p = s at *
  obtain ⟨s', rfl⟩ : ∃ s', s = s' + 1 := ⟨s - 1, by omega⟩
  rw [drop_run (pad7 l) false (s' + 1) (64 * n + p) (fun j hj => by
    have h4 := h2 j hj
    rw [hbit _ (by omega), wd_bit] at h4
    rw [pad7_at l _ (by omega), show 64 * n + p + j = 64 * n + (p + j) from by omega]
    have h5 : p + j < 64 := by omega
    simp [h5] at h4
    rw [List.getD_eq_getElem?_getD, h4]), List.replicate_succ, List.cons_append, rw7, rw7_false, show 64 * n + p + (s' + 1) = 64 * n + (p + (s' + 1)) from by omega, show 64 * n + p + 1 + s' = 64 * n + (p + (s' + 1)) from by omega]
/-- What a row of the flags is. -/
theorem rw7_mem (t : List Bool) (i r : Nat) (hr : r ≤ i) (x : Nat × Nat) (h : x ∈ rw7 i r t) : i - r ≤ x.1 ∧ 0 < x.2 ∧ x.1 + x.2 < i + t.length ∧ ∀ j, x.1 ≤ j → j < x.1 + x.2 → i ≤ j → t[j - i]? = some true := by
  induction t generalizing i r with
  | nil => cases h
  | cons b t ih =>
    cases b with
    | true =>
      rw [rw7] at h
      obtain ⟨h1, h2, h3, h4⟩ := ih (i + 1) (r + 1) (by omega) h
      refine ⟨by omega, h2, by simp; omega, fun j k1 k2 k3 => ?_⟩
      by_cases e : j = i
      · subst e; simp
      · have := h4 j k1 k2 (by omega)
        rw [show j - i = j - (i + 1) + 1 from by omega, List.getElem?_cons_succ]; exact this
    | false =>
      rw [rw7, List.mem_append] at h
      rcases h with h | h
      · split at h
        · simp only [List.mem_singleton] at h
          subst h
          refine ⟨Nat.le_refl _, by assumption, by simp; omega, fun j k1 k2 k3 => ?_⟩
          simp only at k2
          omega
        · cases h
      · obtain ⟨h1, h2, h3, h4⟩ := ih (i + 1) 0 (by omega) h
        refine ⟨by omega, h2, by simp; omega, fun j k1 k2 k3 => ?_⟩
        have := h4 j k1 k2 (by omega)
        rw [show j - i = j - (i + 1) + 1 from by omega, List.getElem?_cons_succ]; exact this
theorem rows7_mem (l : List Bool) (x : Nat × Nat) (h : x ∈ rows7 l) : 0 < x.2 ∧ x.1 + x.2 ≤ l.length ∧ ∀ j, x.1 ≤ j → j < x.1 + x.2 → l.getD j false = true := by
  obtain ⟨_, h2, h3, h4⟩ := rw7_mem (l ++ [false]) 0 0 (Nat.le_refl _) x h
  simp only [List.length_append, List.length_cons, List.length_nil, Nat.zero_add] at h3
  refine ⟨h2, by omega, fun j k1 k2 => ?_⟩
  have := h4 j k1 k2 (Nat.zero_le _)
  rw [Nat.sub_zero, List.getElem?_append_left (by omega)] at this
  rw [List.getD_eq_getElem?_getD, this]; rfl
/-- A row that is handed on. -/
structure Rw (n : Nat) where
  i : Nat
  c : Nat
  h : i + c ≤ n
def Rw.f {n : Nat} (x : Rw n) : Nat × Nat := (x.i, x.c)
end Go.Proofs.YtmedljnbcpdoeaaDoor
