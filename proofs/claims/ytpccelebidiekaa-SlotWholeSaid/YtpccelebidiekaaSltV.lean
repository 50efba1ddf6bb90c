/- Layer 5: records cut one behind the other, and what Join makes of the first slots of them, plain. -/
import Derived.Test.YtpccelebidiekaaSltU
namespace Go.Proofs.Ytpccelebidiekaa
open Go.RowKit
set_option linter.unusedVariables false
set_option maxRecDepth 100000

def pn (S : ByteArray) : Nat := (pcs5 S).length
/-- How many slots records have. -/
def tot : List ByteArray → Nat
  | [] => 0
  | S :: L => pn S + tot L
def rows5 (e : Int) : Int → List ByteArray → List St
  | _, [] => []
  | q, S :: L => mk5 (raw5 e q (pcs5 S)) ++ rows5 e (q + (pn S : Int)) L
/-- The Seqs behind each of them. -/
def ends5 : Int → List ByteArray → List Int
  | _, [] => []
  | q, S :: L => (q + (pn S : Int)) :: ends5 (q + (pn S : Int)) L
/-- The records of the first m slots. -/
def recs5 : Int → List ByteArray → Nat → List Rc
  | _, [], _ => []
  | q, S :: L, m => if pn S ≤ m then ⟨q, q + (pn S : Int), S⟩ :: recs5 (q + (pn S : Int)) L (m - pn S) else []
def want5 : Int → List ByteArray → Nat → Int
  | q, [], _ => q
  | q, S :: L, m => if pn S ≤ m then want5 (q + (pn S : Int)) L (m - pn S) else q
theorem pn_eq (S : ByteArray) : pn S = max 1 ((S.size + 107) / 108) := pcs5_count S.size S rfl
theorem pn_pos (S : ByteArray) : 0 < pn S := by rw [pn_eq]; omega
theorem tot_snoc (L : List ByteArray) (S : ByteArray) : tot (L ++ [S]) = tot L + pn S := by
  induction L with
  | nil => rw [List.nil_append]; unfold tot tot; omega
  | cons x L ih => rw [List.cons_append, tot, tot, ih]; omega
theorem rows_snoc (e : Int) (L : List ByteArray) (S : ByteArray) : ∀ q : Int, rows5 e q (L ++ [S]) = rows5 e q L ++ mk5 (raw5 e (q + (tot L : Int)) (pcs5 S)) := by
  induction L with
  | nil => intro q; rw [List.nil_append]; simp [rows5, tot]
  | cons x L ih => intro q; rw [List.cons_append, rows5, rows5, ih, List.append_assoc, tot]; congr 4; omega
theorem ends_snoc (L : List ByteArray) (S : ByteArray) : ∀ q : Int, ends5 q (L ++ [S]) = ends5 q L ++ [q + (tot L : Int) + (pn S : Int)] := by
  induction L with
  | nil => intro q; rw [List.nil_append]; simp [ends5, tot]
  | cons x L ih => intro q; rw [List.cons_append, ends5, ends5, ih, tot]; rw [List.cons_append]; congr 3; omega
theorem len_rows (e : Int) (L : List ByteArray) : ∀ q : Int, (rows5 e q L).length = tot L := by
  induction L with
  | nil => intro q; rfl
  | cons x L ih => intro q; rw [rows5, List.length_append, ih, tot, len_mk5, len_raw5]; rfl
theorem len_ends (L : List ByteArray) : ∀ q : Int, (ends5 q L).length = L.length := by
  induction L with
  | nil => intro q; rfl
  | cons x L ih => intro q; rw [ends5, List.length_cons, List.length_cons, ih]
theorem rows_seq (e : Int) (L : List ByteArray) : ∀ q : Int, 0 ≤ q → q + (tot L : Int) ≤ 9223372036854775807 → SeqRow e q (rows5 e q L) := by
  induction L with
  | nil => intro q _ _ i s hs; cases hs
  | cons x L ih =>
    intro q h1 h2
    rw [tot] at h2
    rw [rows5]
    refine (SeqRow.cut e q x ⟨h1, by have : (pn x : Int) = ((pcs5 x).length : Int) := rfl; omega⟩).app ?_
    rw [len_mk5, len_raw5]
    exact ih (q + (pn x : Int)) (by omega) (by omega)
theorem jn_rows (e : Int) (L : List ByteArray) : ∀ (q : Int) (m : Nat) (rs : List Rc), 0 ≤ q → q + (tot L : Int) ≤ 9223372036854775807 → jn5 ((rows5 e q L).take m) rs [] q false = (rs ++ recs5 q L m, want5 q L m) := by
  induction L with
  | nil => intro q m rs _ _; simp [rows5, recs5, want5, jn5]
  | cons x L ih =>
    intro q m rs h1 h2
    rw [tot] at h2
    have hl : (mk5 (raw5 e q (pcs5 x))).length = pn x := by rw [len_mk5, len_raw5]; rfl
    rw [rows5, recs5, want5]
    by_cases h : pn x ≤ m
    · rw [if_pos h, if_pos h, List.take_append, hl, List.take_of_length_le (by rw [hl]; exact h)]
      have hw := jn_whole e q x (pn x) (pn_eq x) ⟨h1, by omega⟩ rfl ((rows5 e (q + (pn x : Int)) L).take (m - pn x)) rs
      rw [hw, ih _ _ _ (by omega) (by omega), List.append_assoc]
      rfl
    · rw [if_neg h, if_neg h, List.take_append_of_le_length (by rw [hl]; omega), List.append_nil]
      exact jn_part e q x (pn x) (pn_eq x) ⟨h1, by omega⟩ rfl m (by omega) rs
/-- Which records are whole, and what is told of each. -/
theorem recs_at (L : List ByteArray) : ∀ (q : Int) (m i : Nat), (i < (recs5 q L m).length → i < L.length) ∧ (∀ en S, (ends5 q L)[i]? = some en → L[i]? = some S → ((en ≤ q + (m : Int)) ↔ i < (recs5 q L m).length) ∧
    (i < (recs5 q L m).length → (recs5 q L m)[i]? = some ⟨(if i = 0 then q else (ends5 q L).getD (i - 1) 0), en, S⟩)) := by
  induction L with
  | nil => intro q m i; exact ⟨fun h => h, fun en S h => by cases h⟩
  | cons x L ih =>
    intro q m i
    have hp := pn_pos x
    rw [recs5, ends5]
    by_cases h : pn x ≤ m
    · rw [if_pos h]
      cases i with
      | zero =>
        refine ⟨fun _ => by simp, fun en S h1 h2 => ?_⟩
        simp only [List.getElem?_cons_zero, Option.some.injEq] at h1 h2
        subst h1 h2
        exact ⟨⟨fun _ => by simp, fun _ => by omega⟩, fun _ => by simp⟩
      | succ i =>
        obtain ⟨a1, a2⟩ := ih (q + (pn x : Int)) (m - pn x) i
        refine ⟨fun h1 => by have := a1 (by simpa using h1); simpa using this, fun en S h1 h2 => ?_⟩
        simp only [List.getElem?_cons_succ] at h1 h2
        obtain ⟨b1, b2⟩ := a2 en S h1 h2
        refine ⟨?_, fun h3 => ?_⟩
        · rw [List.length_cons, Nat.add_lt_add_iff_right, ← b1]
          omega
        · have h4 := b2 (by simpa using h3)
          rw [List.getElem?_cons_succ, h4, if_neg (Nat.succ_ne_zero i)]
          cases i with
          | zero => simp
          | succ j => simp
    · rw [if_neg h]
      refine ⟨fun h1 => absurd h1 (by simp), fun en S h1 h2 => ⟨⟨fun h3 => ?_, fun h3 => absurd h3 (by simp)⟩, fun h3 => absurd h3 (by simp)⟩⟩
      exfalso
      cases i with
      | zero => simp only [List.getElem?_cons_zero, Option.some.injEq] at h1; subst h1; omega
      | succ i =>
        simp only [List.getElem?_cons_succ] at h1 h2
        have := (ih (q + (pn x : Int)) 0 i).2 en S h1 h2
        have hz : (recs5 (q + (pn x : Int)) L 0).length = 0 := by
          cases L with
          | nil => rfl
          | cons y L => rw [recs5, if_neg (by have := pn_pos y; omega)]; rfl
        rw [hz] at this
        have h5 := this.1
        have : ¬ en ≤ q + (pn x : Int) + ((0 : Nat) : Int) := fun hh => absurd (h5.1 hh) (by omega)
        omega
theorem want_at (L : List ByteArray) : ∀ (q : Int) (m : Nat), want5 q L m = if (recs5 q L m).length = 0 then q else (ends5 q L).getD ((recs5 q L m).length - 1) 0 := by
  induction L with
  | nil => intro q m; rfl
  | cons x L ih =>
    intro q m
    rw [recs5, ends5, want5]
    by_cases h : pn x ≤ m
    · rw [if_pos h, if_pos h, ih]
      generalize recs5 (q + (pn x : Int)) L (m - pn x) = R
      rw [List.length_cons, if_neg (Nat.succ_ne_zero _), Nat.add_sub_cancel]
      cases hR : R.length with
      | zero => simp
      | succ k => simp
    · rw [if_neg h, if_neg h]; rfl
theorem recs_zero (q : Int) (L : List ByteArray) : recs5 q L 0 = [] := by
  cases L with
  | nil => rfl
  | cons y L => rw [recs5, if_neg (by have := pn_pos y; omega)]
/-- Join of the first m slots of records. -/
theorem join_rows (L : List ByteArray) (e q : Int) (he : 0 < tot L → 0 ≤ e ∧ e ≤ 2147483647) (hq : 0 ≤ q ∧ q ≤ 1125899906842624) (ht : tot L ≤ 3040) (m : Nat) (hm : m ≤ tot L) (A : Option Addr) (c0 c : Nat) (hc : m ≤ c) (w : World) (ho : Row5 w (.slice A (tot L) c0) (rows5 e q L)) :
    Calls Try.prog 22 #[.slice A m c] w fun r w' => ∃ v' nx, r = .returned (.tuple #[v', .int .i64 nx]) ∧ w'.ownsRow w.heap.size 53 3 v' (recs5 q L m).length ((recs5 q L m).flatMap rcells) ∧ (nx = want5 q L m ∨ (m = 0 ∧ nx = 0)) ∧ Below w.heap.size w w' := by
  have hl := len_rows e L q
  rcases Nat.eq_zero_or_pos m with h0 | h0
  · subst h0
    refine (join5_none [] (by simp) (.slice A 0 c) w (Row5.nil w A c) rfl).mono ?_
    rintro r w' ⟨rfl, hb⟩
    exact ⟨_, 0, rfl, by rw [recs_zero]; exact World.ownsRow_nil _ _ _ _, .inr ⟨rfl, rfl⟩, hb⟩
  · have he2 := he (by omega)
    have hsr := rows_seq e L q hq.1 (by omega)
    obtain ⟨R, hR⟩ : ∃ R, (rows5 e q L).take m = R := ⟨_, rfl⟩
    have hRl : R.length = m := by rw [← hR, List.length_take, hl]; omega
    have hsR : SeqRow e q R := by rw [← hR]; exact hsr.take m
    have hro : Row5 w (.slice A m c) R := by
      rw [← hR]
      rw [← hl] at ho
      exact ho.take m (by omega) c
    have hyes : ∀ i, i < m → adv5 R i = true := fun i hi => by
      have := hsR.adv he2 ⟨hq.1, by rw [hRl]; omega⟩ [] i (by omega)
      rwa [List.append_nil] at this
    obtain ⟨s0, hs0⟩ : ∃ s0, R[0]? = some s0 := ⟨_, List.getElem?_eq_getElem (by omega)⟩
    have hsq : s0.q = q := by have := (hsR 0 s0 hs0).2.1; omega
    have hj := join5_some R (by omega) A c (by rw [hRl]; exact hc) w (by rw [hRl]; exact hro) s0 hs0 (hyes 0 h0)
    rw [hRl] at hj
    refine hj.mono ?_
    rintro r w' ⟨k, J, hk0, hk, ha, hb, hJ, v', rfl, ho', hbl⟩
    obtain rfl : k = m := by
      rcases Nat.lt_or_ge k m with h2 | h2
      · rw [hyes k h2] at hb; cases hb
      · omega
    rw [List.take_of_length_le (by omega), ← hR, hsq, jn_rows e L q k [] hq.1 (by omega)] at hJ
    subst hJ
    exact ⟨v', _, rfl, ho', .inl rfl, hbl⟩
end Go.Proofs.Ytpccelebidiekaa
