/- Layer 5: what Join makes of records' slots one behind the other, plain. -/
import Derived.Test.YthhmodbggngelaaSltS
namespace Go.Proofs.Ythhmodbggngelaa
open Go.RowKit
set_option linter.unusedVariables false
set_option maxRecDepth 100000

theorem ext_list (S : ByteArray) (a b : Nat) : (S.extract a b).data.toList = (S.data.toList.drop a).take (b - a) := by
  rw [ByteArray.data_extract, Array.toList_extract]
theorem cut_take (S : ByteArray) (i : Nat) (h : i * 108 ≤ S.size) : S.data.toList.take (i * 108) ++ (S.extract (i * 108) (min S.size ((i + 1) * 108))).data.toList = S.data.toList.take ((i + 1) * 108) := by
  have hl : S.data.toList.length = S.size := len_data S
  rw [ext_list]
  rw [show (i + 1) * 108 = i * 108 + 108 from by omega]
  generalize S.data.toList = l at *
  generalize i * 108 = a at *
  have h2 : (l.drop a).take (min S.size (a + 108) - a) = (l.drop a).take 108 := by
    rcases Nat.le_total (a + 108) S.size with h3 | h3
    · rw [Nat.min_eq_right h3]; congr 1; omega
    · rw [Nat.min_eq_left h3, List.take_of_length_le (by rw [List.length_drop]; omega), List.take_of_length_le (by rw [List.length_drop]; omega)]
  rw [h2, List.take_add]
theorem ba_list (S : ByteArray) (l : List UInt8) (h : l = S.data.toList) : (⟨l.toArray⟩ : ByteArray) = S := by subst h; exact (ba_self S).symm
section
variable (e q : Int) (S : ByteArray) (n : Nat) (hn : n = max 1 ((S.size + 107) / 108)) (hq : 0 ≤ q ∧ q + (n : Int) ≤ 9223372036854775807)
include hn hq
theorem jn_step (i : Nat) (hi : i < n) (L : List St) (rs : List Rc) : jn5 (cut_at e q S n i :: L) rs (S.data.toList.take (i * 108)) q (decide (0 < i)) =
    if i + 1 = n then jn5 L (rs ++ [⟨q, q + n, S⟩]) [] (q + n) false else jn5 L rs (S.data.toList.take ((i + 1) * 108)) q (decide (0 < i + 1)) := by
  have h1 : i * 108 ≤ S.size := by omega
  have hf : ¬ ((cut_at e q S n i).f = decide (0 < i)) := by
    show ¬ (decide (i = 0) = decide (0 < i))
    by_cases h : i = 0
    · subst h; simp
    · rw [decide_eq_false h, decide_eq_true (by omega : 0 < i)]; simp
  rw [jn5, if_neg hf]
  by_cases hz : i + 1 = n
  · have hz2 : (cut_at e q S n i).z = true := decide_eq_true (by omega : i = n - 1)
    rw [hz2, if_pos rfl, if_pos hz]
    have e1 : wrap64 ((cut_at e q S n i).q + 1) = q + n := by
      show wrap64 (wrap64 (q + (i : Int)) + 1) = q + n
      unfold wrap64; omega
    have e2 : S.data.toList.take (i * 108) ++ (cut_at e q S n i).d.data.toList = S.data.toList := by
      show _ ++ (S.extract (i * 108) (min S.size ((i + 1) * 108))).data.toList = _
      rw [cut_take S i h1, List.take_of_length_le (by rw [len_data]; omega)]
    rw [e1, e2, ba_list S _ rfl]
  · have hz2 : (cut_at e q S n i).z = false := decide_eq_false (by omega : ¬ i = n - 1)
    rw [hz2, if_neg (by simp), if_neg hz]
    have e2 : S.data.toList.take (i * 108) ++ (cut_at e q S n i).d.data.toList = S.data.toList.take ((i + 1) * 108) := cut_take S i h1
    rw [e2, decide_eq_true (by omega : 0 < i + 1)]
/-- The slots from i on, the first m of them. -/
theorem jn_run (m : Nat) : ∀ (i : Nat), i + m ≤ n → i < n → ∀ (T : List St) (rs : List Rc), jn5 (((List.range' i m).map (cut_at e q S n)) ++ T) rs (S.data.toList.take (i * 108)) q (decide (0 < i)) =
    if i + m = n then jn5 T (rs ++ [⟨q, q + n, S⟩]) [] (q + n) false else jn5 T rs (S.data.toList.take ((i + m) * 108)) q (decide (0 < i + m)) := by
  induction m with
  | zero =>
    intro i _ hi T rs
    rw [if_neg (by omega)]
    rfl
  | succ m ih =>
    intro i hm hi T rs
    rw [List.range'_succ, List.map_cons, List.cons_append, jn_step e q S n hn hq i hi]
    by_cases h : i + 1 = n
    · have hm0 : m = 0 := by omega
      subst hm0
      rw [if_pos h, if_pos (by omega)]
      rfl
    · rw [if_neg h, ih (i + 1) (by omega) (by omega) T rs, show i + 1 + m = i + (m + 1) from by omega]
theorem jn_whole (hc : (pcs5 S).length = n) (T : List St) (rs : List Rc) : jn5 (mk5 (raw5 e q (pcs5 S)) ++ T) rs [] q false = jn5 T (rs ++ [⟨q, q + n, S⟩]) [] (q + n) false := by
  have h0 : 0 < n := by omega
  have h := jn_run e q S n hn hq n 0 (by omega) h0 T rs
  rw [if_pos (by omega)] at h
  rw [mk5_range, hc, List.range_eq_range']
  simpa using h
theorem jn_part (hc : (pcs5 S).length = n) (m : Nat) (hm : m < n) (rs : List Rc) : jn5 ((mk5 (raw5 e q (pcs5 S))).take m) rs [] q false = (rs, q) := by
  have h0 : 0 < n := by omega
  have h := jn_run e q S n hn hq m 0 (by omega) h0 [] rs
  rw [if_neg (by omega)] at h
  rw [mk5_range, hc, ← List.map_take, List.take_range, Nat.min_eq_left (by omega), List.range_eq_range']
  simp only [List.append_nil, Nat.zero_mul, List.take_zero] at h
  rw [show decide (0 < 0) = false from rfl] at h
  rw [h]
  rfl
end
/-- Slots of one epoch, each right, that have the Seqs from q on. -/
def SeqRow (e q : Int) (R : List St) : Prop := ∀ (i : Nat) (s : St), R[i]? = some s → s.e = e ∧ s.q = q + (i : Int) ∧ s.d.size ≤ 108
theorem SeqRow.cut (e q : Int) (S : ByteArray) (hq : 0 ≤ q ∧ q + ((pcs5 S).length : Int) ≤ 9223372036854775807) : SeqRow e q (mk5 (raw5 e q (pcs5 S))) := by
  intro i s hs
  have hi : i < (pcs5 S).length := by have := (List.getElem?_eq_some_iff.1 hs).1; rwa [len_mk5, len_raw5] at this
  rw [mk5_at e q S i hi] at hs
  injection hs with hs
  subst hs
  refine ⟨rfl, ?_, ?_⟩
  · show wrap64 (q + (i : Int)) = _
    unfold wrap64; omega
  · show (S.extract _ _).size ≤ 108
    rw [ByteArray.size_extract]; omega
theorem SeqRow.app {e q : Int} {R T : List St} (h : SeqRow e q R) (k : SeqRow e (q + (R.length : Int)) T) : SeqRow e q (R ++ T) := by
  intro i s hs
  rcases Nat.lt_or_ge i R.length with hi | hi
  · rw [List.getElem?_append_left hi] at hs; exact h i s hs
  · rw [List.getElem?_append_right hi] at hs
    obtain ⟨a, b, c⟩ := k _ s hs
    exact ⟨a, by omega, c⟩
theorem SeqRow.take {e q : Int} {R : List St} (h : SeqRow e q R) (m : Nat) : SeqRow e q (R.take m) := by
  intro i s hs
  rw [List.getElem?_take] at hs
  split at hs
  · exact h i s hs
  · cases hs
/-- Such slots are right and follow one another, whatever stands behind them. -/
theorem SeqRow.adv {e q : Int} {R : List St} (h : SeqRow e q R) (he : 0 ≤ e ∧ e ≤ 2147483647) (hq : 0 ≤ q ∧ q + (R.length : Int) ≤ 1152921504606846977) (T : List St) (i : Nat) (hi : i < R.length) : adv5 (R ++ T) i = true := by
  have g : ∀ j, j < R.length → ∃ s, (R ++ T)[j]? = some s ∧ s.e = e ∧ s.q = q + (j : Int) ∧ s.d.size ≤ 108 := fun j hj => by
    refine ⟨R[j], ?_, h j _ (List.getElem?_eq_getElem hj)⟩
    rw [List.getElem?_append_left hj, List.getElem?_eq_getElem hj]
  obtain ⟨s, hs, s1, s2, s3⟩ := g i hi
  have hr : r5 s = true := decide_eq_true (by omega)
  unfold adv5
  rw [hs]
  cases i with
  | zero => simp [hr]
  | succ k =>
    obtain ⟨a, ha, a1, a2, a3⟩ := g k (by omega)
    have hf : fol5 a s = true := by
      unfold fol5
      have : s.q = wrap64 (a.q + 1) := by unfold wrap64; omega
      simp [this, s1, a1]
    simp only [ha, hr, hf, Bool.and_self]
theorem adv_end (R : List St) (i : Nat) (h : R.length ≤ i) : adv5 R i = false := by
  unfold adv5
  rw [List.getElem?_eq_none h]
/-- A slot that does not follow ends the row. -/
theorem adv_cut {R T : List St} {a s : St} (ha : R[R.length - 1]? = some a) (hs : T[0]? = some s) (h0 : 0 < R.length) (hf : fol5 a s = false) : adv5 (R ++ T) R.length = false := by
  unfold adv5
  rw [List.getElem?_append_right (Nat.le_refl _), Nat.sub_self, hs]
  obtain ⟨k, hk⟩ : ∃ k, R.length = k + 1 := ⟨R.length - 1, by omega⟩
  have h2 : (R ++ T)[k]? = some a := by rw [List.getElem?_append_left (by omega), ← ha]; congr 1; omega
  rw [hk]
  simp only [h2, hf, Bool.and_false]
end Go.Proofs.Ythhmodbggngelaa
/- Layer 5: the program's Cut and Join as the statements call them. -/
namespace Go.Proofs.Ythhmodbggngelaa
open Go.RowKit
set_option linter.unusedVariables false
set_option maxRecDepth 100000

/-- A record that can be cut. -/
def Cuts (S : ByteArray) (e q : Int) : Prop := S.size ≤ 16384 ∧ 0 ≤ e ∧ e ≤ 2147483647 ∧ 0 ≤ q ∧ q ≤ 1152921504606846976 - ((pcs5 S).length : Int) + 1
theorem pcs_few (S : ByteArray) (h : S.size ≤ 16384) : 0 < (pcs5 S).length ∧ (pcs5 S).length ≤ 152 := by
  have := pcs5_count S.size S rfl
  omega
theorem cut_yes (S : ByteArray) (e q : Int) (h : Cuts S e q) (w : World) :
    Calls Try.prog 26 #[.string S, .int .i64 e, .int .i64 q] w fun r w' => ∃ b c, r = .returned (.tuple #[.slice (some ⟨b, 0, none⟩) (pcs5 S).length c, .int .i64 0]) ∧
      w'.ownsRow w.heap.size 81 5 (.slice (some ⟨b, 0, none⟩) (pcs5 S).length c) (pcs5 S).length ((mk5 (raw5 e q (pcs5 S))).flatMap scells) ∧ b < w'.heap.size ∧ (pcs5 S).length ≤ c ∧ Below w.heap.size w w' := by
  have hn := pcs_few S h.1
  have hok := ok5_raw e q S (by have := h.2.2.2.1; omega) (by have := h.2.2.2.2; omega) h.1
  rw [decide_eq_true h.2] at hok
  refine (cut5_any S h.1 e q w).mono ?_
  rintro r w' ⟨hb, ⟨h0, _⟩ | ⟨_, v, rfl, ho⟩⟩
  · rw [hok] at h0; cases h0
  · rw [len_raw5] at ho
    obtain ⟨b, c, rfl, h1, h2, h3⟩ := own_form5 ho hn.1
    exact ⟨b, c, rfl, ho, h2, h3, hb⟩
theorem cut_no (S : ByteArray) (e q : Int) (hq1 : -9223372036854775808 ≤ q) (hq2 : q ≤ 9223372036854775807) (h : ¬ Cuts S e q) : ∃ x : Int, (x != 0) = true ∧ ∀ w,
    Calls Try.prog 26 #[.string S, .int .i64 e, .int .i64 q] w fun r w' => r = .returned (.tuple #[.slice none 0 0, .int .i64 x]) ∧ Below w.heap.size w w' := by
  by_cases hS : S.size ≤ 16384
  · have hok := ok5_raw e q S hq1 hq2 hS
    rw [decide_eq_false (fun k => h ⟨hS, k⟩)] at hok
    refine ⟨2, rfl, fun w => (cut5_any S hS e q w).mono ?_⟩
    rintro r w' ⟨hb, ⟨_, h1⟩ | ⟨h0, _⟩⟩
    · exact ⟨h1, hb⟩
    · rw [hok] at h0; cases h0
  · exact ⟨5, rfl, fun w => cut5_big S (by omega) e q w⟩
/-- What an own row holds, cell by cell, also behind what makes memory above it. -/
theorem own_news5 {w w' : World} {base e size n b c B : Nat} {xs : List Value} (h : w.ownsRow base e size (.slice (some ⟨b, 0, none⟩) n c) n xs) (hb : Below B w w') (hB : b < B) : ∀ j u, xs[j]? = some u → w'.cell? ((⟨b, 0, none⟩ : Addr).add j) = some u := by
  intro j u hu
  rcases h.2 with ⟨h1, _⟩ | ⟨g, cap, cur, h1, _, hh, _, _, _, ht⟩
  · cases h1
  · injection h1 with h1 _ _
    injection h1 with h1
    injection h1 with h1 _
    subst h1
    have hBk : Blk w b e cur.toList := by unfold Blk; simpa using hh
    rw [Addr.add_mid, Nat.zero_add, (hBk.below hb hB).cell]
    rw [← ht, List.getElem?_take] at hu
    split at hu
    · exact hu
    · cases hu
theorem one_scells (R : List St) : ∀ u ∈ R.flatMap scells, u.oneCell' = true := by
  intro u hu
  obtain ⟨s, _, h⟩ := List.mem_flatMap.1 hu
  simp only [scells, List.mem_cons, List.not_mem_nil, or_false] at h
  rcases h with rfl | rfl | rfl | rfl | rfl <;> rfl
/-- Join of one record's slots, and of what does not follow them. -/
theorem join_cut (S : ByteArray) (e q : Int) (h : Cuts S e q) (T : List St) (hT : T.length ≤ 1000) (hadv : adv5 (mk5 (raw5 e q (pcs5 S)) ++ T) (pcs5 S).length = false) (A1 : Option Addr) (c1 : Nat) (hcap : (pcs5 S).length + T.length ≤ c1) (w : World)
    (h1 : Row5 w (.slice A1 ((pcs5 S).length + T.length) c1) (mk5 (raw5 e q (pcs5 S)) ++ T)) :
    Calls Try.prog 24 #[.slice A1 ((pcs5 S).length + T.length) c1] w fun r w' => ∃ b c, r = .returned (.tuple #[.slice (some ⟨b, 0, none⟩) 1 c, .int .i64 (q + ((pcs5 S).length : Int))]) ∧ b < w'.heap.size ∧ w.heap.size ≤ b ∧ w'.cell? ⟨b, 2, none⟩ = some (.string S) ∧ Below w.heap.size w w' := by
  have hn := pcs_few S h.1
  have hl : (mk5 (raw5 e q (pcs5 S))).length = (pcs5 S).length := by rw [len_mk5, len_raw5]
  have hla : (mk5 (raw5 e q (pcs5 S)) ++ T).length = (pcs5 S).length + T.length := by rw [List.length_append, hl]
  obtain ⟨hS, he0, he1, hq0, hq1⟩ := h
  have hsr := SeqRow.cut e q S ⟨hq0, by omega⟩
  have hyes : ∀ i, i < (pcs5 S).length → adv5 (mk5 (raw5 e q (pcs5 S)) ++ T) i = true := fun i hi => hsr.adv ⟨he0, he1⟩ ⟨hq0, by rw [hl]; omega⟩ T i (by rw [hl]; exact hi)
  obtain ⟨s0, hs0⟩ : ∃ s0, (mk5 (raw5 e q (pcs5 S)))[0]? = some s0 := ⟨_, List.getElem?_eq_getElem (by rw [hl]; exact hn.1)⟩
  have hs1 : (mk5 (raw5 e q (pcs5 S)) ++ T)[0]? = some s0 := by rw [List.getElem?_append_left (by rw [hl]; exact hn.1)]; exact hs0
  have hsq : s0.q = q := by have := (hsr 0 s0 hs0).2.1; omega
  have hj := join5_some (mk5 (raw5 e q (pcs5 S)) ++ T) (by rw [hla]; omega) A1 c1 (by rw [hla]; exact hcap) w (by rw [hla]; exact h1) s0 hs1 (hyes 0 hn.1)
  rw [hla] at hj
  refine hj.mono ?_
  rintro r w' ⟨k, J, hk0, hk, ha, hb, hJ, v', rfl, ho, hbl⟩
  obtain rfl : k = (pcs5 S).length := by
    rcases Nat.lt_trichotomy k (pcs5 S).length with h2 | h2 | h2
    · rw [hyes k h2] at hb; cases hb
    · exact h2
    · rw [ha _ h2] at hadv; cases hadv
  rw [List.take_append_of_le_length (by rw [hl]; exact Nat.le_refl _), List.take_of_length_le (by rw [hl]; exact Nat.le_refl _), hsq] at hJ
  have hw := jn_whole e q S (pcs5 S).length (pcs5_count S.size S rfl) ⟨hq0, by omega⟩ rfl [] []
  rw [List.append_nil] at hw
  rw [hw] at hJ
  subst hJ
  obtain ⟨b, c, he, hb1, hb2, hb3⟩ := own_form5 ho (show 0 < 1 from by decide)
  refine ⟨b, c, by rw [he]; rfl, hb2, hb1, ?_, hbl⟩
  rw [he] at ho
  exact rc_cells (l := [⟨q, q + ((pcs5 S).length : Int), S⟩]) ho 2 (show 2 < 1 * 3 from by decide)
end Go.Proofs.Ythhmodbggngelaa
/- Layer 5: records cut one behind the other, and what Join makes of the first slots of them, plain. -/
namespace Go.Proofs.Ythhmodbggngelaa
open Go.RowKit
set_option linter.unusedVariables false
set_option maxRecDepth 100000

def pn (S : ByteArray) : Nat := (pcs5 S).length
/-- How many slots records have. -/
def tot : List ByteArray → Nat
  | [] => 0
  | S :: L => pn S + tot L
def rows5 (e : Int) : Int → List ByteArray → List St
  | _, [] => []
  | q, S :: L => mk5 (raw5 e q (pcs5 S)) ++ rows5 e (q + (pn S : Int)) L
/-- The Seqs behind each of them. -/
def ends5 : Int → List ByteArray → List Int
  | _, [] => []
  | q, S :: L => (q + (pn S : Int)) :: ends5 (q + (pn S : Int)) L
/-- The records of the first m slots. -/
def recs5 : Int → List ByteArray → Nat → List Rc
  | _, [], _ => []
  | q, S :: L, m => if pn S ≤ m then ⟨q, q + (pn S : Int), S⟩ :: recs5 (q + (pn S : Int)) L (m - pn S) else []
def want5 : Int → List ByteArray → Nat → Int
  | q, [], _ => q
  | q, S :: L, m => if pn S ≤ m then want5 (q + (pn S : Int)) L (m - pn S) else q
theorem pn_eq (S : ByteArray) : pn S = max 1 ((S.size + 107) / 108) := pcs5_count S.size S rfl
theorem pn_pos (S : ByteArray) : 0 < pn S := by rw [pn_eq]; omega
theorem tot_snoc (L : List ByteArray) (S : ByteArray) : tot (L ++ [S]) = tot L + pn S := by
  induction L with
  | nil => rw [List.nil_append]; unfold tot tot; omega
  | cons x L ih => rw [List.cons_append, tot, tot, ih]; omega
theorem rows_snoc (e : Int) (L : List ByteArray) (S : ByteArray) : ∀ q : Int, rows5 e q (L ++ [S]) = rows5 e q L ++ mk5 (raw5 e (q + (tot L : Int)) (pcs5 S)) := by
  induction L with
  | nil => intro q; rw [List.nil_append]; simp [rows5, tot]
  | cons x L ih => intro q; rw [List.cons_append, rows5, rows5, ih, List.append_assoc, tot]; congr 4; omega
theorem ends_snoc (L : List ByteArray) (S : ByteArray) : ∀ q : Int, ends5 q (L ++ [S]) = ends5 q L ++ [q + (tot L : Int) + (pn S : Int)] := by
  induction L with
  | nil => intro q; rw [List.nil_append]; simp [ends5, tot]
  | cons x L ih => intro q; rw [List.cons_append, ends5, ends5, ih, tot]; rw [List.cons_append]; congr 3; omega
theorem len_rows (e : Int) (L : List ByteArray) : ∀ q : Int, (rows5 e q L).length = tot L := by
  induction L with
  | nil => intro q; rfl
  | cons x L ih => intro q; rw [rows5, List.length_append, ih, tot, len_mk5, len_raw5]; rfl
theorem len_ends (L : List ByteArray) : ∀ q : Int, (ends5 q L).length = L.length := by
  induction L with
  | nil => intro q; rfl
  | cons x L ih => intro q; rw [ends5, List.length_cons, List.length_cons, ih]
theorem rows_seq (e : Int) (L : List ByteArray) : ∀ q : Int, 0 ≤ q → q + (tot L : Int) ≤ 9223372036854775807 → SeqRow e q (rows5 e q L) := by
  induction L with
  | nil => intro q _ _ i s hs; cases hs
  | cons x L ih =>
    intro q h1 h2
    rw [tot] at h2
    rw [rows5]
    refine (SeqRow.cut e q x ⟨h1, by have : (pn x : Int) = ((pcs5 x).length : Int) := rfl; omega⟩).app ?_
    rw [len_mk5, len_raw5]
    exact ih (q + (pn x : Int)) (by omega) (by omega)
theorem jn_rows (e : Int) (L : List ByteArray) : ∀ (q : Int) (m : Nat) (rs : List Rc), 0 ≤ q → q + (tot L : Int) ≤ 9223372036854775807 → jn5 ((rows5 e q L).take m) rs [] q false = (rs ++ recs5 q L m, want5 q L m) := by
  induction L with
  | nil => intro q m rs _ _; simp [rows5, recs5, want5, jn5]
  | cons x L ih =>
    intro q m rs h1 h2
    rw [tot] at h2
    have hl : (mk5 (raw5 e q (pcs5 x))).length = pn x := by rw [len_mk5, len_raw5]; rfl
    rw [rows5, recs5, want5]
    by_cases h : pn x ≤ m
    · rw [if_pos h, if_pos h, List.take_append, hl, List.take_of_length_le (by rw [hl]; exact h)]
      have hw := jn_whole e q x (pn x) (pn_eq x) ⟨h1, by omega⟩ rfl ((rows5 e (q + (pn x : Int)) L).take (m - pn x)) rs
      rw [hw, ih _ _ _ (by omega) (by omega), List.append_assoc]
      rfl
    · rw [if_neg h, if_neg h, List.take_append_of_le_length (by rw [hl]; omega), List.append_nil]
      exact jn_part e q x (pn x) (pn_eq x) ⟨h1, by omega⟩ rfl m (by omega) rs
/-- Which records are whole, and what is told of each. -/
theorem recs_at (L : List ByteArray) : ∀ (q : Int) (m i : Nat), (i < (recs5 q L m).length → i < L.length) ∧ (∀ en S, (ends5 q L)[i]? = some en → L[i]? = some S → ((en ≤ q + (m : Int)) ↔ i < (recs5 q L m).length) ∧
    (i < (recs5 q L m).length → (recs5 q L m)[i]? = some ⟨(if i = 0 then q else (ends5 q L).getD (i - 1) 0), en, S⟩)) := by
  induction L with
  | nil => intro q m i; exact ⟨fun h => h, fun en S h => by cases h⟩
  | cons x L ih =>
    intro q m i
    have hp := pn_pos x
    rw [recs5, ends5]
    by_cases h : pn x ≤ m
    · rw [if_pos h]
      cases i with
      | zero =>
        refine ⟨fun _ => by simp, fun en S h1 h2 => ?_⟩
        simp only [List.getElem?_cons_zero, Option.some.injEq] at h1 h2
        subst h1 h2
        exact ⟨⟨fun _ => by simp, fun _ => by omega⟩, fun _ => by simp⟩
      | succ i =>
        obtain ⟨a1, a2⟩ := ih (q + (pn x : Int)) (m - pn x) i
        refine ⟨fun h1 => by have := a1 (by simpa using h1); simpa using this, fun en S h1 h2 => ?_⟩
        simp only [List.getElem?_cons_succ] at h1 h2
        obtain ⟨b1, b2⟩ := a2 en S h1 h2
        refine ⟨?_, fun h3 => ?_⟩
        · rw [List.length_cons, Nat.add_lt_add_iff_right, ← b1]
          omega
        · have h4 := b2 (by simpa using h3)
          rw [List.getElem?_cons_succ, h4, if_neg (Nat.succ_ne_zero i)]
          cases i with
          | zero => simp
          | succ j => simp
    · rw [if_neg h]
      refine ⟨fun h1 => absurd h1 (by simp), fun en S h1 h2 => ⟨⟨fun h3 => ?_, fun h3 => absurd h3 (by simp)⟩, fun h3 => absurd h3 (by simp)⟩⟩
      exfalso
      cases i with
      | zero => simp only [List.getElem?_cons_zero, Option.some.injEq] at h1; subst h1; omega
      | succ i =>
        simp only [List.getElem?_cons_succ] at h1 h2
        have := (ih (q + (pn x : Int)) 0 i).2 en S h1 h2
        have hz : (recs5 (q + (pn x : Int)) L 0).length = 0 := by
          cases L with
          | nil => rfl
          | cons y L => rw [recs5, if_neg (by have := pn_pos y; omega)]; rfl
        rw [hz] at this
        have h5 := this.1
        have : ¬ en ≤ q + (pn x : Int) + ((0 : Nat) : Int) := fun hh => absurd (h5.1 hh) (by omega)
        omega
theorem want_at (L : List ByteArray) : ∀ (q : Int) (m : Nat), want5 q L m = if (recs5 q L m).length = 0 then q else (ends5 q L).getD ((recs5 q L m).length - 1) 0 := by
  induction L with
  | nil => intro q m; rfl
  | cons x L ih =>
    intro q m
    rw [recs5, ends5, want5]
    by_cases h : pn x ≤ m
    · rw [if_pos h, if_pos h, ih]
      generalize recs5 (q + (pn x : Int)) L (m - pn x) = R
      rw [List.length_cons, if_neg (Nat.succ_ne_zero _), Nat.add_sub_cancel]
      cases hR : R.length with
      | zero => simp
      | succ k => simp
    · rw [if_neg h, if_neg h]; rfl
theorem recs_zero (q : Int) (L : List ByteArray) : recs5 q L 0 = [] := by
  cases L with
  | nil => rfl
  | cons y L => rw [recs5, if_neg (by have := pn_pos y; omega)]
/-- Join of the first m slots of records. -/
theorem join_rows (L : List ByteArray) (e q : Int) (he : 0 < tot L → 0 ≤ e ∧ e ≤ 2147483647) (hq : 0 ≤ q ∧ q ≤ 1125899906842624) (ht : tot L ≤ 3040) (m : Nat) (hm : m ≤ tot L) (A : Option Addr) (c0 c : Nat) (hc : m ≤ c) (w : World) (ho : Row5 w (.slice A (tot L) c0) (rows5 e q L)) :
    Calls Try.prog 24 #[.slice A m c] w fun r w' => ∃ v' nx, r = .returned (.tuple #[v', .int .i64 nx]) ∧ w'.ownsRow w.heap.size 70 3 v' (recs5 q L m).length ((recs5 q L m).flatMap rcells) ∧ (nx = want5 q L m ∨ (m = 0 ∧ nx = 0)) ∧ Below w.heap.size w w' := by
  have hl := len_rows e L q
  rcases Nat.eq_zero_or_pos m with h0 | h0
  · subst h0
    refine (join5_none [] (by simp) (.slice A 0 c) w (Row5.nil w A c) rfl).mono ?_
    rintro r w' ⟨rfl, hb⟩
    exact ⟨_, 0, rfl, by rw [recs_zero]; exact World.ownsRow_nil _ _ _ _, .inr ⟨rfl, rfl⟩, hb⟩
  · have he2 := he (by omega)
    have hsr := rows_seq e L q hq.1 (by omega)
    obtain ⟨R, hR⟩ : ∃ R, (rows5 e q L).take m = R := ⟨_, rfl⟩
    have hRl : R.length = m := by rw [← hR, List.length_take, hl]; omega
    have hsR : SeqRow e q R := by rw [← hR]; exact hsr.take m
    have hro : Row5 w (.slice A m c) R := by
      rw [← hR]
      rw [← hl] at ho
      exact ho.take m (by omega) c
    have hyes : ∀ i, i < m → adv5 R i = true := fun i hi => by
      have := hsR.adv he2 ⟨hq.1, by rw [hRl]; omega⟩ [] i (by omega)
      rwa [List.append_nil] at this
    obtain ⟨s0, hs0⟩ : ∃ s0, R[0]? = some s0 := ⟨_, List.getElem?_eq_getElem (by omega)⟩
    have hsq : s0.q = q := by have := (hsR 0 s0 hs0).2.1; omega
    have hj := join5_some R (by omega) A c (by rw [hRl]; exact hc) w (by rw [hRl]; exact hro) s0 hs0 (hyes 0 h0)
    rw [hRl] at hj
    refine hj.mono ?_
    rintro r w' ⟨k, J, hk0, hk, ha, hb, hJ, v', rfl, ho', hbl⟩
    obtain rfl : k = m := by
      rcases Nat.lt_or_ge k m with h2 | h2
      · rw [hyes k h2] at hb; cases hb
      · omega
    rw [List.take_of_length_le (by omega), ← hR, hsq, jn_rows e L q k [] hq.1 (by omega)] at hJ
    subst hJ
    exact ⟨v', _, rfl, ho', .inl rfl, hbl⟩
end Go.Proofs.Ythhmodbggngelaa
