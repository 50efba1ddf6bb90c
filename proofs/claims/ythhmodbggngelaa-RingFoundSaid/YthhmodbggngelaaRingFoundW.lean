/- Layer 6: what stands behind a crash, plain; and the walk of ambrylaw06.RingFound. -/
import Derived.Test.YthhmodbggngelaaRnK
import Derived.Test.YthhmodbggngelaaFrameR
import Derived.Test.YthhmodbggngelaaFrame
namespace Go.Proofs.Ythhmodbggngelaa
open Go.RowKit
set_option linter.unusedVariables false
set_option maxRecDepth 100000

theorem puts_is (f c : Nat) (hc : 0 < c) : ∀ (R : List St) (D : Dsk), D.dead = false → D.fuse = -1 → f + c ≤ D.kept.length → (∀ s ∈ R, r5 s = true) →
    puts f c D R = ({ D with pend := D.pend ++ R.map (fun s => (f + s.q.toNat % c, put5 s)) }, 0)
  | [], D, hd, hf, _, _ => by simp [puts]
  | s :: l, D, hd, hf, hl, hr => by
    have hm := Nat.mod_lt s.q.toNat hc
    have hw := wr6 hd hf (i := f + s.q.toNat % c) (by omega) (len_put5 (r5_yes (hr s (by simp))).2.2.2.2)
    rw [puts, hw, if_pos rfl]
    simp only
    rw [puts_is f c hc l { D with pend := D.pend ++ [(f + s.q.toNat % c, put5 s)] } hd hf hl (fun x hx => hr x (by simp [hx]))]
    simp [List.append_assoc]
theorem overw_is {y : List UInt8} {i : Nat} (l : List (Nat × List UInt8)) (s : List UInt8) (h : ∀ x ∈ l, x.1 = i → x.2 = y) (he : ∃ x ∈ l, x.1 = i) : overw l i s = y := by
  induction l using snoc_ind with
  | h0 => obtain ⟨x, hx, _⟩ := he; cases hx
  | h1 l x ih =>
    rw [overw_snoc]
    by_cases hx : x.1 = i
    · rw [if_pos hx]; exact h x (by simp) hx
    · rw [if_neg hx]
      refine ih (fun z hz => h z (by simp [hz])) ?_
      obtain ⟨z, hz, hzi⟩ := he
      rcases List.mem_append.1 hz with h1 | h1
      · exact ⟨z, h1, hzi⟩
      · rw [List.mem_singleton] at h1; subst h1; exact absurd hzi hx
theorem overw_mem6 (l : List (Nat × List UInt8)) (i : Nat) (s : List UInt8) : overw l i s = s ∨ ∃ x ∈ l, x.1 = i ∧ x.2 = overw l i s := by
  induction l using snoc_ind with
  | h0 => exact .inl rfl
  | h1 l x ih =>
    rw [overw_snoc]
    split
    · rename_i h; exact .inr ⟨x, by simp, h, rfl⟩
    · rcases ih with h | ⟨y, hy, h1, h2⟩
      · exact .inl h
      · exact .inr ⟨y, by simp [hy], h1, h2⟩
/-- The disk of 40 sectors, with these slots from sector 3 on, of which t are kept and the rest pends. -/
structure Fd (D : Dsk) (rows : List St) (t : Nat) : Prop where
  dead : D.dead = false
  fuse : D.fuse = -1
  len : D.kept.length = 40
  old : ∀ (j : Nat) (s : St), j < t → rows[j]? = some s → D.kept.getD (3 + j) [] = put5 s
  new : ∀ j, t ≤ j → j < 36 → D.kept.getD (3 + j) [] = zeros
  mem : ∀ x ∈ D.pend, ∃ j s, t ≤ j ∧ rows[j]? = some s ∧ x = (3 + j, put5 s)
  all : ∀ (j : Nat) (s : St), t ≤ j → rows[j]? = some s → (3 + j, put5 s) ∈ D.pend
  few : D.pend.length ≤ rows.length
  low : t ≤ rows.length
theorem Fd.fresh6 : Fd (fresh 40) [] 0 := by
  refine ⟨rfl, rfl, rfl, fun j s h => absurd h (by omega), fun j _ h => ?_, fun x hx => (by cases hx), fun j s _ h => (by cases h), Nat.le_refl _, Nat.le_refl _⟩
  show (List.replicate 40 zeros).getD (3 + j) [] = zeros
  rw [List.getD_eq_getElem?_getD, List.getElem?_replicate, if_pos (by omega)]
  rfl
theorem Fd.put {D : Dsk} {rows X : List St} {t : Nat} (h : Fd D rows t) (hr : ∀ s ∈ X, r5 s = true) (hq : ∀ (i : Nat) (s : St), X[i]? = some s → s.q = ((rows.length + i : Nat) : Int)) (hl : rows.length + X.length ≤ 36) :
    (puts 3 36 D X).2 = 0 ∧ Fd (puts 3 36 D X).1 (rows ++ X) t := by
  rw [puts_is 3 36 (by decide) X D h.dead h.fuse (by rw [h.len]; decide) hr]
  have hpl : ∀ (i : Nat) (s : St), X[i]? = some s → (3 + s.q.toNat % 36, put5 s) = (3 + (rows.length + i), put5 s) := fun i s hi => by
    have h1 := hq i s hi
    have h2 := (List.getElem?_eq_some_iff.1 hi).1
    have h3 : s.q.toNat = rows.length + i := by omega
    rw [h3, Nat.mod_eq_of_lt (by omega)]
  refine ⟨rfl, h.dead, h.fuse, h.len, fun j s hj hs => ?_, h.new, fun x hx => ?_, fun j s hj hs => ?_, ?_, ?_⟩
  · have := h.low
    rw [List.getElem?_append_left (by omega)] at hs
    exact h.old j s hj hs
  · rcases List.mem_append.1 hx with h1 | h1
    · obtain ⟨j, s, h2, h3, h4⟩ := h.mem x h1
      exact ⟨j, s, h2, by rw [List.getElem?_append_left (List.getElem?_eq_some_iff.1 h3).1]; exact h3, h4⟩
    · obtain ⟨s, hs, rfl⟩ := List.mem_map.1 h1
      obtain ⟨i, hi⟩ := List.getElem?_of_mem hs
      refine ⟨rows.length + i, s, by have := h.low; omega, ?_, hpl i s hi⟩
      rw [List.getElem?_append_right (by omega), Nat.add_sub_cancel_left]; exact hi
  · simp only [List.mem_append]
    by_cases hjl : j < rows.length
    · rw [List.getElem?_append_left hjl] at hs
      exact .inl (h.all j s hj hs)
    · rw [List.getElem?_append_right (by omega)] at hs
      refine .inr (List.mem_map.2 ⟨s, List.mem_of_getElem? hs, ?_⟩)
      have := hpl _ s hs
      rw [this]
      congr 1
      omega
  · have := h.few
    simp only [List.length_append, List.length_map]
    omega
  · have := h.low
    rw [List.length_append]; omega
theorem Fd.sync {D : Dsk} {rows : List St} {t : Nat} (h : Fd D rows t) (hl : rows.length ≤ 36) : D.flush.2 = 0 ∧ Fd D.flush.1 rows rows.length := by
  have he : D.flush = ((D.keepAll D.pend).lost, 0) := by
    unfold Dsk.flush
    rw [h.dead, if_neg (by simp), h.fuse, if_neg (by decide)]
    unfold Dsk.flushed Dsk.burnt
    rw [h.fuse, if_neg (by decide), if_neg (by decide)]
  rw [he]
  obtain ⟨k1, k2, k3, k4⟩ := keepAll_same D.pend D
  have hat : ∀ j, j < 36 → (D.keepAll D.pend).lost.kept.getD (3 + j) [] = overw D.pend (3 + j) (D.kept.getD (3 + j) []) := fun j hj => keepAll_at D.pend D (3 + j) (by rw [h.len]; omega)
  refine ⟨rfl, k3.trans h.dead, k2.trans h.fuse, k4.trans h.len, fun j s hj hs => ?_, fun j hj hj2 => ?_, fun x hx => (by cases hx), fun j s hj hs => ?_, Nat.zero_le _, Nat.le_refl _⟩
  · rw [hat j (by omega)]
    by_cases hjt : j < t
    · rcases overw_mem6 D.pend (3 + j) (D.kept.getD (3 + j) []) with h1 | ⟨x, hx, h1, h2⟩
      · rw [h1]; exact h.old j s hjt hs
      · obtain ⟨j2, s2, a1, a2, rfl⟩ := h.mem x hx
        simp only at h1
        omega
    · refine overw_is _ _ (fun x hx hi => ?_) ⟨_, h.all j s (by omega) hs, rfl⟩
      obtain ⟨j2, s2, a1, a2, rfl⟩ := h.mem x hx
      simp only at hi
      obtain rfl : j2 = j := by omega
      rw [a2] at hs
      injection hs with hs
      rw [hs]
  · rw [hat j hj2]
    rcases overw_mem6 D.pend (3 + j) (D.kept.getD (3 + j) []) with h1 | ⟨x, hx, h1, h2⟩
    · rw [h1]; exact h.new j (by have := h.low; omega) hj2
    · obtain ⟨j2, s2, a1, a2, rfl⟩ := h.mem x hx
      have := (List.getElem?_eq_some_iff.1 a2).1
      simp only at h1
      omega
  · have := (List.getElem?_eq_some_iff.1 hs).1
    omega
/-- What may stand at a place behind a crash. -/
structure Cr (D : Dsk) (rows : List St) (t : Nat) : Prop where
  dead : D.dead = false
  len : D.kept.length = 40
  one : ∀ j, j < 36 → at5 D 3 36 j = none ∨ at5 D 3 36 j = rows[j]?
  sure : ∀ j, j < t → at5 D 3 36 j = rows[j]?
  low : t ≤ rows.length
theorem Fd.crash {D : Dsk} {rows : List St} {t : Nat} (h : Fd D rows t) (hl : rows.length ≤ 36) (hr : ∀ s ∈ rows, r5 s = true) (ks : List Int) : Cr (D.crashed ks) rows t := by
  obtain ⟨k1, k2, k3, k4⟩ := keepAll_same (sel D.pend (isIn ks)) D
  have hat : ∀ j, j < 36 → at5 (D.crashed ks) 3 36 j = read5 (overw (sel D.pend (isIn ks)) (3 + j) (D.kept.getD (3 + j) [])) := fun j hj => by
    unfold at5
    rw [Nat.mod_eq_of_lt hj]
    show read5 (overw [] (3 + j) ((D.keepAll (sel D.pend (isIn ks))).kept.getD (3 + j) [])) = _
    rw [keepAll_at _ _ _ (by rw [h.len]; omega)]
    rfl
  have hrd : ∀ (j : Nat) (s : St), rows[j]? = some s → read5 (put5 s) = some s := fun j s hs => read_put (hr s (List.mem_of_getElem? hs))
  have hpe : ∀ (j : Nat), j < 36 → overw (sel D.pend (isIn ks)) (3 + j) (D.kept.getD (3 + j) []) = D.kept.getD (3 + j) [] ∨ (t ≤ j ∧ ∃ s, rows[j]? = some s ∧ overw (sel D.pend (isIn ks)) (3 + j) (D.kept.getD (3 + j) []) = put5 s) := fun j hj => by
    rcases overw_mem6 (sel D.pend (isIn ks)) (3 + j) (D.kept.getD (3 + j) []) with h1 | ⟨x, hx, h1, h2⟩
    · exact .inl h1
    · obtain ⟨j2, s2, a1, a2, rfl⟩ := h.mem x (sel_mem hx)
      simp only at h1 h2
      obtain rfl : j2 = j := by omega
      exact .inr ⟨a1, s2, a2, h2.symm⟩
  refine ⟨rfl, k4.trans h.len, fun j hj => ?_, fun j hj => ?_, h.low⟩
  · rw [hat j hj]
    rcases hpe j hj with h1 | ⟨_, s, h1, h2⟩
    · rw [h1]
      by_cases hjt : j < t
      · have := h.low
        have hs : rows[j]? = some rows[j] := List.getElem?_eq_getElem (by omega)
        rw [h.old j _ hjt hs, hrd j _ hs]
        exact .inr hs.symm
      · rw [h.new j (by omega) hj, none6]
        exact .inl rfl
    · rw [h2, hrd j s h1]
      exact .inr h1.symm
  · have := h.low
    have hs : rows[j]? = some rows[j] := List.getElem?_eq_getElem (by omega)
    rw [hat j (by omega)]
    rcases hpe j (by omega) with h1 | ⟨h3, _⟩
    · rw [h1, h.old j _ hj hs, hrd j _ hs]
      exact hs.symm
    · omega
/-- What look takes of such places: a part from the start on. -/
theorem Cr.look {D : Dsk} {rows : List St} {t : Nat} (h : Cr D rows t) (E : Nat) (e : Int) (he : e ≤ E) (hs : SeqRow E 0 rows) : ∀ k, k ≤ 36 → ∃ M, M ≤ k ∧ M ≤ rows.length ∧ (lk5 0 e (slots5 D 3 36 0 k)).l = rows.take M ∧ (lk5 0 e (slots5 D 3 36 0 k)).least ≤ E ∧ (lk5 0 e (slots5 D 3 36 0 k)).most ≤ E ∧ (k ≤ t → M = k) ∧ (t ≤ k → t ≤ M)
  | 0, _ => ⟨0, Nat.le_refl _, Nat.zero_le _, rfl, he, he, fun _ => rfl, fun h => h⟩
  | k + 1, hk => by
    obtain ⟨M, m1, m2, m3, m4, m5, m6, m7⟩ := Cr.look h E e he hs k (by omega)
    have hlow := h.low
    have hlen : (lk5 0 e (slots5 D 3 36 0 k)).l.length = M := by rw [m3, List.length_take]; omega
    rw [slots5, Nat.zero_add]
    cases ha : at5 D 3 36 k with
    | none =>
      simp only [List.append_nil]
      have hkt : t ≤ k := by
        rcases Nat.lt_or_ge k t with h1 | h1
        · have h2 := h.sure k h1
          rw [ha, List.getElem?_eq_getElem (by omega)] at h2
          cases h2
        · exact h1
      exact ⟨M, by omega, m2, m3, m4, m5, fun h1 => by omega, fun _ => m7 hkt⟩
    | some s =>
      have hrk : rows[k]? = some s := by
        rcases h.one k (by omega) with h1 | h1
        · rw [ha] at h1; cases h1
        · rw [← h1, ha]
      obtain ⟨s1, s2, s3⟩ := hs k s hrk
      have hkl := (List.getElem?_eq_some_iff.1 hrk).1
      simp only
      rw [lk5_snoc]
      unfold Lk.step
      rw [hlen]
      split
      · rename_i hc
        have hMk : M = k := by have := hc.1; omega
        refine ⟨k + 1, Nat.le_refl _, hkl, ?_, by rw [s1]; exact Int.le_refl _, by simp only; omega, fun _ => rfl, fun h1 => h1⟩
        rw [m3, hMk, List.take_add_one, hrk]
        rfl
      · rename_i hc
        refine ⟨M, by omega, m2, m3, m4, by simp only; omega, fun h1 => ?_, fun h1 => ?_⟩
        · exact absurd ⟨by have := m6 (by omega); omega, by rw [s2]; omega, by rw [s1]; exact m4⟩ hc
        · rcases Nat.lt_or_ge k t with h2 | h2
          · exact absurd ⟨by have := m6 (by omega); omega, by rw [s2]; omega, by rw [s1]; exact m4⟩ hc
          · exact m7 h2
/-- What is found behind a crash: of the records the first ones. -/
theorem Cr.found {D : Dsk} {t : Nat} (A : List ByteArray) (E : Nat) (e : Int) (h : Cr D (rows5 E 0 A) t) (he0 : 0 ≤ e) (he : e ≤ E) (hE : E ≤ 1000001) (ht : tot A ≤ 36) :
    ∃ M, t ≤ M ∧ M ≤ tot A ∧ top5 D 3 36 0 e ≤ E ∧ ∀ L n E2, Opn D 3 36 0 e L n E2 → L = recs5 0 A M ∧ (n : Int) = want5 0 A M ∧ (E2 : Int) = top5 D 3 36 0 e + 1 ∧ e < E2 := by
  have hseq := rows_seq E A 0 (by decide) (by omega)
  obtain ⟨M, m1, m2, m3, m4, m5, _, m7⟩ := h.look E e he hseq 36 (Nat.le_refl _)
  have hlen := len_rows E A 0
  have hlow := h.low
  rw [hlen] at m2 hlow
  have htop : e ≤ top5 D 3 36 0 e := (top_ok D 3 36 0 e).1
  refine ⟨M, m7 (by omega), m2, m5, fun L n E2 ho => ?_⟩
  obtain ⟨h1, k, h2, h4, h5, h3⟩ := ho
  have hf : fnd D 3 36 0 e = (rows5 E 0 A).take M := m3
  rw [hf] at h2 h4 h5 h3
  have hlt : ((rows5 E 0 A).take M).length = M := by rw [List.length_take, hlen]; omega
  rw [hlt] at h2
  have hadv : ∀ i, i < M → adv5 ((rows5 E 0 A).take M) i = true := fun i hi => by
    have h6 := SeqRow.adv (hseq.take M) ⟨by omega, by omega⟩ ⟨by decide, by rw [hlt]; omega⟩ [] i (by rw [hlt]; exact hi)
    rw [List.append_nil] at h6
    exact h6
  obtain rfl : k = M := by
    rcases Nat.lt_or_ge k M with h6 | h6
    · rw [hadv k h6] at h5; cases h5
    · omega
  rw [List.take_of_length_le (by rw [hlt]; exact Nat.le_refl _)] at h3
  have hj := jn_rows E A 0 k [] (by decide) (by omega)
  rw [List.nil_append] at hj
  have h3' : jn5 ((rows5 E 0 A).take k) [] [] 0 false = (L, (n : Int)) := h3
  rw [hj] at h3'
  injection h3' with h7 h8
  exact ⟨h7.symm, h8.symm, h1, by omega⟩
theorem recs_len (A X : List ByteArray) : ∀ (q : Int) (m : Nat), tot A ≤ m → A.length ≤ (recs5 q (A ++ X) m).length := by
  induction A with
  | nil => intro q m _; exact Nat.zero_le _
  | cons S A ih =>
    intro q m hm
    have h1 : pn S + tot A ≤ m := hm
    rw [List.cons_append, recs5, if_pos (by omega)]
    have := ih (q + (pn S : Int)) (m - pn S) (by omega)
    simp only [List.length_cons]
    omega
theorem recs_few (A : List ByteArray) : ∀ (q : Int) (m : Nat), (recs5 q A m).length ≤ A.length ∧ ∀ (i : Nat) (x : Rc), (recs5 q A m)[i]? = some x → A[i]? = some x.d := by
  induction A with
  | nil => intro q m; exact ⟨Nat.le_refl _, fun i x h => by cases h⟩
  | cons S A ih =>
    intro q m
    rw [recs5]
    split
    · obtain ⟨h1, h2⟩ := ih (q + (pn S : Int)) (m - pn S)
      refine ⟨by simp only [List.length_cons]; omega, fun i x h => ?_⟩
      cases i with
      | zero => simp only [List.getElem?_cons_zero, Option.some.injEq] at h ⊢; rw [← h]
      | succ i => simp only [List.getElem?_cons_succ] at h ⊢; exact h2 i x h
    · exact ⟨Nat.zero_le _, fun i x h => by cases h⟩
theorem tot_len (B : List ByteArray) : B.length ≤ tot B := by
  induction B with
  | nil => exact Nat.zero_le _
  | cons S B ih =>
    have h1 := pn_pos S
    show B.length + 1 ≤ pn S + tot B
    omega
/-- A ring of 36 slots that takes records. -/
structure Fg (S : Nat → Prop) (vR : Value) (w : World) (p d E : Nat) (L : List Rc) (D : Dsk) (B : List ByteArray) (t : Nat) : Prop where
  rd : RD S vR w p d 3 36 0 (tot B) E L D
  fd : Fd D (rows5 E 0 B) t
  few : tot B ≤ 36
  ln : L.length ≤ tot B
theorem rows_right (A : List ByteArray) (E : Nat) (hE : E ≤ 1000001) (ht : tot A ≤ 36) : ∀ s ∈ rows5 E 0 A, r5 s = true := fun s hs => by
  obtain ⟨i, hi⟩ := List.getElem?_of_mem hs
  have hlt := (List.getElem?_eq_some_iff.1 hi).1
  rw [len_rows] at hlt
  obtain ⟨a1, a2, a3⟩ := rows_seq E A 0 (by decide) (by omega) i s hi
  exact decide_eq_true ⟨by omega, by omega, by omega, by omega, a3⟩
theorem fg_key (n K : Nat) (h : n + K ≤ 36) : (K : Int) ≤ min (((0 : Nat) : Int) + (36 : Nat)) 1152921504606846977 - (n : Int) := by
  have h1 : min (((0 : Nat) : Int) + (36 : Nat)) 1152921504606846977 = (36 : Int) := rfl
  rw [h1]
  omega
theorem fg_key2 (n K : Nat) (h : ¬ n + K ≤ 36) : min (((0 : Nat) : Int) + (36 : Nat)) 1152921504606846977 - (n : Int) < (K : Int) := by
  have h1 : min (((0 : Nat) : Int) + (36 : Nat)) 1152921504606846977 = (36 : Int) := rfl
  rw [h1]
  omega
theorem Fg.append {S : Nat → Prop} {vR : Value} {w : World} {p d E : Nat} {L : List Rc} {D : Dsk} {B : List ByteArray} {t : Nat} (h : Fg S vR w p d E L D B t) (hE : E ≤ 1000001) (T : ByteArray) :
    Calls Try.prog 9 #[.pointer (some ⟨p, 0, none⟩), .string T] w fun r w' => ∃ (x : Int) (S' : Nat → Prop) (vR' : Value) (L' : List Rc) (D' : Dsk) (B' : List ByteArray), r = .returned (.int .i64 x) ∧ ((x == 0) = true ∧ B' = B ++ [T] ∨ (x == 0) = false ∧ B' = B) ∧ Fg S' vR' w' p d E L' D' B' t ∧ Stp (Rk S p vR) w (Rk S' p vR') w' := by
  have hfew := h.few
  by_cases hT : Cuts T E (tot B : Nat)
  · by_cases hfit : tot B + (pcs5 T).length ≤ 36
    · have hlx : (mk5 (raw5 (E : Int) ((tot B : Nat) : Int) (pcs5 T))).length = (pcs5 T).length := by rw [len_mk5, len_raw5]
      have hsr := SeqRow.cut (E : Int) ((tot B : Nat) : Int) T ⟨by omega, by omega⟩
      have hrr : ∀ s ∈ mk5 (raw5 (E : Int) ((tot B : Nat) : Int) (pcs5 T)), r5 s = true := fun s hs => by
        obtain ⟨i, hi⟩ := List.getElem?_of_mem hs
        have hlt := (List.getElem?_eq_some_iff.1 hi).1
        rw [hlx] at hlt
        obtain ⟨a1, a2, a3⟩ := hsr i s hi
        exact decide_eq_true ⟨by omega, by omega, by omega, by omega, a3⟩
      obtain ⟨h1, h2⟩ := h.fd.put hrr (fun i s hs => by
        have := (hsr i s hs).2.1
        rw [len_rows]
        omega) (by rw [len_rows, hlx]; exact hfit)
      have hrow : rows5 (E : Int) 0 (B ++ [T]) = rows5 (E : Int) 0 B ++ mk5 (raw5 (E : Int) ((tot B : Nat) : Int) (pcs5 T)) := by
        rw [rows_snoc, Int.zero_add]
      have htot : tot (B ++ [T]) = tot B + (pcs5 T).length := tot_snoc B T
      have hln := h.ln
      have hpd := h.fd.few
      rw [len_rows] at hpd
      refine (append_put h.rd (by decide) (by decide) (by decide) (by decide) (by omega) (by omega) (by omega) T hT (fg_key _ _ hfit)).mono ?_
      rintro r w' ⟨rfl, S', vR', hst, ⟨h6, _⟩ | ⟨_, h6⟩⟩
      · exact absurd h1 h6
      · refine ⟨_, S', vR', _, _, B ++ [T], rfl, .inl ⟨by rw [h1]; rfl, rfl⟩, ⟨by rw [htot]; exact h6, by rw [hrow]; exact h2, by rw [htot]; exact hfit, ?_⟩, hst⟩
        rw [htot, List.length_append]
        have h3 := pn_pos T
        unfold pn at h3
        show L.length + 1 ≤ _
        omega
    · refine (append_full h.rd (by decide) (by decide) (by omega) T hT (fg_key2 _ _ hfit)).mono ?_
      rintro r w' ⟨rfl, ht⟩
      exact ⟨11, S, vR, L, D, B, rfl, .inr ⟨rfl, rfl⟩, ⟨h.rd.quiet ht, h.fd, h.few, h.ln⟩, Stp.quiet ht⟩
  · refine (append_no h.rd (by omega) T hT).mono ?_
    rintro r w' ⟨x, hx, rfl, ht⟩
    exact ⟨x, S, vR, L, D, B, rfl, .inr ⟨by simpa using hx, rfl⟩, ⟨h.rd.quiet ht, h.fd, h.few, h.ln⟩, Stp.quiet ht⟩
/-- The ring's Sync. -/
theorem Fg.sync {S : Nat → Prop} {vR : Value} {w : World} {p d E : Nat} {L : List Rc} {D : Dsk} {B : List ByteArray} {t : Nat} (h : Fg S vR w p d E L D B t) :
    Calls Try.prog 10 #[.pointer (some ⟨p, 0, none⟩)] w fun r w' => r = .returned (.int .i64 0) ∧ ∃ (S' : Nat → Prop) (D' : Dsk), Fg S' vR w' p d E L D' B (tot B) ∧ Stp (Rk S p vR) w (Rk S' p vR) w' := by
  have hpd := h.fd.few
  have hfew := h.few
  rw [len_rows] at hpd
  obtain ⟨h1, h2⟩ := h.fd.sync (by rw [len_rows]; exact hfew)
  rw [len_rows] at h2
  refine (ringSync S p d D (3 : Nat) (36 : Nat) (0 : Nat) (tot B : Nat) (E : Nat) vR w h.rd.blk h.rd.disk (by omega)).mono ?_
  rintro r w' ⟨rfl, S', hd, hs⟩
  exact ⟨by rw [h1], S', _, ⟨h.rd.step hs hd, h2, h.few, h.ln⟩, Rk.step hs⟩
end Go.Proofs.Ythhmodbggngelaa
/- The walk of ambrylaw06.RingFound. -/
namespace Go.Proofs.Ythhmodbggngelaa
open Go.RowKit
set_option linter.unusedVariables false
set_option maxRecDepth 100000

theorem same6 (L : List Rc) (TS : List ByteArray) (hl : TS.length = L.length) (hd : ∀ (i : Nat) (x : Rc), L[i]? = some x → TS[i]? = some x.d) (hn : L.length ≤ 1000) (v1 v2 : Value) (B1 B2 : Nat) (w : World) (h1 : w.ownsRow B1 70 3 v1 L.length (L.flatMap rcells)) (h2 : Strs w B2 v2 TS) (hB : B2 ≤ w.heap.size) :
    Calls Try.prog 13 #[v1, v2] w fun r w' => r = .returned (.bool true) ∧ Turn (fun _ => False) w w' := by
  obtain ⟨n, hN⟩ : ∃ n, L.length = n := ⟨_, rfl⟩
  have HN := Lib.hid hN
  obtain ⟨A1, c1, rfl, hA1⟩ : ∃ A c, v1 = .slice A n c ∧ (0 < n → ∃ b, A = some ⟨b, 0, none⟩ ∧ b < w.heap.size) := by
    rw [hN] at h1
    rcases h1.2 with ⟨e1, e2⟩ | ⟨b, cc, cur, e1, _, e3, _⟩
    · exact ⟨none, 0, by rw [e1, e2], fun h => by omega⟩
    · exact ⟨_, _, e1, fun _ => ⟨b, rfl, (Array.getElem?_eq_some_iff.1 e3).1⟩⟩
  obtain ⟨A2, c2, rfl, hA2⟩ := h2
  rw [hl] at hA2 ⊢
  rw [hN] at h1 hn hA2 ⊢
  have H1 := Lib.hid h1
  have HA1 := Lib.hid hA1
  have HA2 := Lib.hid hA2
  have HD := Lib.hid hd
  clear h1 hA1 hA2 hd hl hN
  go_enter Try.func13, Try.ntmps13
  go_wp2_with fail
  go_loopw [5] (fun vi wr => ∃ (j : Nat), j ≤ n ∧ vi = .int .i64 j ∧ Turn (fun _ => False) w wr) (fun vi _ => n - (intOf vi).toNat)
  case atStart => exact ⟨0, Nat.zero_le _, rfl, Turn.refl _ _⟩
  case round =>
    obtain ⟨j, hj, rfl, ht⟩ := hrel
    have TT := Lib.hid ht
    clear ht
    by_cases hlt : j < n
    · obtain ⟨x, hx⟩ : ∃ x, L[j]? = some x := ⟨_, List.getElem?_eq_getElem (by rw [HN.out]; exact hlt)⟩
      obtain ⟨b1, rfl, hb1⟩ := HA1.out (by omega)
      obtain ⟨⟨b2, o2, s2⟩, rfl, hsp, hb2, hc2⟩ := HA2.out (by omega)
      obtain rfl : s2 = none := hsp
      have y1 : wr.drew.cell? ⟨b1, j * 3 + 2, none⟩ = some (.string x.d) := by
        have h3 : w.cell? ⟨b1, j * 3 + 2, none⟩ = some (.string x.d) := by
          rw [rc_cells H1.out (j * 3 + 2) (by omega)]
          exact flat_at3_ L j 2 x hx (by decide)
        have ht2 := TT.out.drew
        rw [World.cell?_of_block (w := w) (w' := wr.drew) (a := ⟨b1, j * 3 + 2, none⟩) (ht2.block b1 hb1 (fun h => h))]
        exact h3
      have y2 : wr.drew.cell? ⟨b2, o2 + j, none⟩ = some (.string x.d) := by
        have h3 := hc2 j x.d (HD.out j x hx)
        rw [Addr.add_mid] at h3
        have ht2 := TT.out.drew
        rw [World.cell?_of_block (w := w) (w' := wr.drew) (a := ⟨b2, o2 + j, none⟩) (ht2.block b2 (Nat.lt_of_lt_of_le hb2 hB) (fun h => h))]
        exact h3
      have hsame := bytes_same5 x.d
      have hi1 : (j : Int) < (n : Int) := by omega
      have hi2 : (0 : Int) ≤ (j : Int) := by omega
      have z3 := wrap_of ((j : Int) + 1) (by omega) (by omega)
      generalize x.d = S at *
      clear hc2 hx
      go_wp2_with fail
      refine wp_region_still_lit (by kernel_rfl) (by kernel_rfl) ?_
      change wpStill _ _ (World.drew _) _ _ _
      repeat still_step
      refine wpStill_nil ?_
      change Exit.then _ _ _ _ (World.drew _)
      go_wp2_with fail
      go_roundw
      case rel => exact ⟨j + 1, hlt, by simp, TT.out.drew⟩
      case measure => simp [intOf]; omega
    · have hi1 : ¬ (j : Int) < (n : Int) := by omega
      go_wp2_with fail
      go_ret
      exact ⟨rfl, TT.out⟩
theorem iv_ints6 {w w' : World} {v : Value} {zs : List Int} {S : Nat → Prop} (h : Ints .i64 w w.heap.size v zs) (hb : Below w.heap.size w w') (hs : w.heap.size ≤ w'.heap.size) (hS : ∀ k, S k → w.heap.size ≤ k) : Iv S w' v zs ∧ zs.length ≤ 9223372036854775807 := by
  obtain ⟨A, cap, rfl, hr, hm, hn, hl, hw⟩ := h
  refine ⟨⟨A, cap, rfl, fun hp => ?_⟩, by unfold maxLen at hm; omega⟩
  obtain ⟨ad, e, hsp, hlt, hc⟩ := hr hp
  obtain ⟨b, o, sp⟩ := ad
  simp at hsp; subst hsp
  simp only at hlt
  refine ⟨b, o, e, by omega, fun h => by have := hS b h; omega, fun j z hj => ?_⟩
  have h1 := hc j z hj
  rw [Addr.add_mid] at h1
  rw [← h1]
  exact hb.cell (p := ⟨b, o + j, none⟩) hlt
theorem RD.far {S T : Nat → Prop} {vR : Value} {w w' : World} {p d f c s n e : Nat} {L : List Rc} {D : Dsk} (h : RD S vR w p d f c s n e L D) (ht : Turn T w w') (hn : ∀ k, Rk S p vR k → ¬ T k) : RD S vR w' p d f c s n e L D :=
  ⟨h.disk.turn ht (fun k hk => hn k (.inl hk)), h.blk.turn ht (hn p (.inr (.inl rfl))), h.row.turn ht (fun k hk => hn k (.inr (.inr hk))), h.sp, h.sv⟩
theorem RD.lt {S : Nat → Prop} {vR : Value} {w : World} {p d f c s n e : Nat} {L : List Rc} {D : Dsk} (h : RD S vR w p d f c s n e L D) : ∀ k, Rk S p vR k → k < w.heap.size := fun k hk => by
  rcases hk with h1 | h1 | h1
  · exact h.disk.lt k h1
  · subst h1; exact h.blk.lt
  · exact h.row.lt k h1
def svs (B : List ByteArray) : List Value := B.map Value.string
/-- A ring that takes records, and a row of texts beside. -/
structure Fj (w0 : World) (S : Nat → Prop) (vR : Value) (w : World) (p d E : Nat) (L : List Rc) (D : Dsk) (B : List ByteArray) (t : Nat) (v : Value) (Y : List ByteArray) : Prop where
  fg : Fg S vR w p d E L D B t
  lv : Lv w0.heap.size w0 (Rk S p vR) w
  row : w.ownsRow w0.heap.size 9 1 v Y.length (svs Y)
  ap : ∀ k, v.ownBlock = some k → ¬ Rk S p vR k
theorem Fj.step {w0 : World} {S S' : Nat → Prop} {vR vR' : Value} {w w' : World} {p d E : Nat} {L L' : List Rc} {D D' : Dsk} {B B' Y : List ByteArray} {t t' : Nat} {v : Value} (h : Fj w0 S vR w p d E L D B t v Y) (hs : Stp (Rk S p vR) w (Rk S' p vR') w') (hf : Fg S' vR' w' p d E L' D' B' t') : Fj w0 S' vR' w' p d E L' D' B' t' v Y :=
  ⟨hf, h.lv.step hs, World.ownsRow.turn5 h.row hs.1 h.ap, fun k hk hr => by
    rcases hs.2 k hr with h1 | h1
    · exact h.ap k hk h1
    · have := own_lt5 h.row k hk; omega⟩
theorem Fj.append {w0 : World} {S : Nat → Prop} {vR : Value} {w : World} {p d E : Nat} {L : List Rc} {D : Dsk} {B Y : List ByteArray} {t : Nat} {v : Value} (h : Fj w0 S vR w p d E L D B t v Y) (hE : E ≤ 1000001) (T : ByteArray) :
    Calls Try.prog 9 #[.pointer (some ⟨p, 0, none⟩), .string T] w fun r w' => ∃ (x : Int) (S' : Nat → Prop) (vR' : Value) (L' : List Rc) (D' : Dsk) (B' : List ByteArray), r = .returned (.int .i64 x) ∧ ((x == 0) = true ∧ B' = B ++ [T] ∨ (x == 0) = false ∧ B' = B) ∧ Fj w0 S' vR' w' p d E L' D' B' t v Y := by
  refine (h.fg.append hE T).mono ?_
  rintro r w' ⟨x, S', vR', L', D', B', rfl, h1, h2, h3⟩
  exact ⟨x, S', vR', L', D', B', rfl, h1, h.step h3 h2⟩
theorem Fj.far {w0 : World} {S : Nat → Prop} {vR : Value} {w w' : World} {p d E : Nat} {L : List Rc} {D : Dsk} {B Y Z : List ByteArray} {t : Nat} {v v' : Value} {u : Option Nat} (h : Fj w0 S vR w p d E L D B t v Y) (ht : Turn (fun k => u = some k) w w') (hu : ∀ k, u = some k → k < w.heap.size → v.ownBlock = some k)
    (ho : w'.ownsRow w0.heap.size 9 1 v' Z.length (svs Z)) (hv : ∀ k, v'.ownBlock = some k → v.ownBlock = some k ∨ w.heap.size ≤ k) : Fj w0 S vR w' p d E L D B t v' Z := by
  have hn : ∀ k, Rk S p vR k → ¬ (u = some k ∧ k < w.heap.size) := fun k hk hh => h.ap k (hu k hh.1 hh.2) hk
  have ht2 : Turn (fun k => u = some k ∧ k < w.heap.size) w w' := ht.mono (fun k hk hh => ⟨hh, hk⟩)
  have hb : Below w0.heap.size w w' := ht2.below h.lv.2.1 (fun k hh => World.ownsRow.base5 h.row k (hu k hh.1 hh.2))
  refine ⟨⟨h.fg.rd.far ht2 hn, h.fg.fd, h.fg.few, h.fg.ln⟩, ⟨h.lv.1.trans hb, Nat.le_trans h.lv.2.1 ht.size, h.lv.2.2⟩, ho, fun k hk hr => ?_⟩
  rcases hv k hk with h1 | h1
  · exact h.ap k h1 hr
  · have := h.fg.rd.lt k hr; omega
theorem pn_mem {B : List ByteArray} {T : ByteArray} (h : T ∈ B) : pn T ≤ tot B := by
  induction B with
  | nil => cases h
  | cons S B ih =>
    show pn T ≤ pn S + tot B
    rcases List.mem_cons.1 h with h1 | h1
    · subst h1; omega
    · have := ih h1; omega
theorem small6 {B : List ByteArray} (hB : tot B ≤ 36) {L : List Rc} (hL : ∀ (i : Nat) (x : Rc), L[i]? = some x → B[i]? = some x.d) : ∀ x ∈ L, x.d.size ≤ 281474976710656 := fun x hx => by
  obtain ⟨i, hi⟩ := List.getElem?_of_mem hx
  have h1 := pn_mem (List.mem_of_getElem? (hL i x hi))
  rw [pn_eq] at h1
  omega
theorem fresh_cr : Cr (fresh 40) (rows5 (0 : Nat) 0 []) 0 := by
  have h := Fd.fresh6.crash (by decide) (fun s hs => by cases hs) []
  exact h
theorem Try.infoStr6 : (Try.prog.info? 9).map (fun i => (i.zero, i.size, i.bytes)) = some (some (.string ⟨#[]⟩), 1, 16) := by kernel_rfl
theorem len_svs (Y : List ByteArray) : (svs Y).length = Y.length := by simp [svs]
theorem wpList_append_to_nil6 (w : World) {ops : Array Oper} {rest : List Oper} {o : Oper} {a : Go.Act} {Q : Exit → Go.Act → World → Prop} (hgd : o.guard = none) (s x : Operand)
    (ho : o.op = .call { callee := .builtin .append, args := #[s, x], argTypes := #[22, 22] }) (i : TypeInfo) (z : Value) (hi : Try.prog.info? 9 = some i) (hz : i.zero = some z)
    (hsize : i.size = 1) (hby : i.bytes = 16) (hzs : z.cells.size = 1) (base : Nat) (hs : a.eval s = .slice none 0 0) (v : Value) (Y : List ByteArray) (hx : a.eval x = v) (hrow : w.ownsRow base 9 1 v Y.length (svs Y)) (hY : Y.length ≤ 1000) (hb : base ≤ w.heap.size)
    (h : ∀ v' w', w'.ownsRow base 9 1 v' Y.length (svs Y) → Turn (fun _ => False) w w' → (∀ k, v'.ownBlock = some k → w.heap.size ≤ k) → wpList Try.prog ops Q rest (a.put o.dst v') w') :
    wpList Try.prog ops Q (o :: rest) a w := by
  have hrow0 := hrow
  rcases hrow.2 with ⟨rfl, h2⟩ | ⟨g, c, cur, rfl, hB, hh, _⟩
  · refine wpList_append_own_none hgd s x 22 ho base 9 i 1 Try.underlying22 hi (.slice none 0 0) 0 [] hs (World.ownsRow_nil _ _ _ _) hx ?_
    exact h _ w hrow0 (Turn.refl _ _) (fun k hk => by simp [Value.ownBlock] at hk)
  · refine wpList_append_own_at _ hgd s x 22 ho base 9 i z 1 16 Try.underlying22 hi hz hsize hby hzs (by decide) (.slice none 0 0) 0 [] hs (World.ownsRow_nil _ _ _ _) ⟨g, 0, none⟩ Y.length c (svs Y) hx (by rw [len_svs, Nat.mul_one]) (own_news5 hrow0 (Below.refl w.heap.size w) (Array.getElem?_eq_some_iff.1 hh).1) (fun u hu => by obtain ⟨y, _, rfl⟩ := List.mem_map.1 hu; rfl) (by unfold maxLen; omega) (by omega) hb ?_
    intro v' w' h3 h4 _ h5
    rw [Nat.zero_add, List.nil_append] at h3
    refine h v' w' h3 ((grown_turn5 h4).mono (fun k _ hk => by simp [Value.ownBlock] at hk)) (fun k hk => ?_)
    rcases h5 with h5 | h5
    · rw [h5] at hk; simp [Value.ownBlock] at hk
    · rw [h5] at hk; injection hk with hk; omega
theorem Fj.snoc {w0 : World} {S : Nat → Prop} {vR : Value} {w w5 : World} {p d E m : Nat} {L : List Rc} {D : Dsk} {B Y : List ByteArray} {t : Nat} {v v5 : Value} {T : ByteArray} {o : Obj} (h : Fj w0 S vR w p d E L D B t v Y) (hm : Y.length = m) (G5 : (w.alloc o).grownBy w5 v.ownBlock) (O5 : w5.ownsRow w0.heap.size 9 1 v5 (m + 1) (svs Y ++ [.string T])) (V5 : v5.ownBlock = v.ownBlock ∨ v5.ownBlock = some (w.alloc o).heap.size) :
    Fj w0 S vR w5 p d E L D B t v5 (Y ++ [T]) ∧ ∃ A c, v5 = .slice A (m + 1) c := by
  refine ⟨h.far (u := v.ownBlock) (((Turn.refl _ w).alloc o).trans (grown_turn5 G5)) (fun k hk _ => hk) ?_ (fun k hk => ?_), ?_⟩
  · have h1 : svs (Y ++ [T]) = svs Y ++ [.string T] := by simp [svs]
    rw [h1, List.length_append, hm]
    exact O5
  · rcases V5 with h1 | h1
    · exact .inl (h1 ▸ hk)
    · rw [h1] at hk; injection hk with hk; rw [World.size_alloc] at hk; exact .inr (by omega)
  · rcases O5.2 with ⟨_, h1⟩ | ⟨b, cc, cur, h1, _⟩
    · omega
    · exact ⟨_, _, h1⟩
theorem strs_take {w : World} {base n c k : Nat} {A : Option Addr} {Y : List ByteArray} (h : w.ownsRow base 9 1 (.slice A n c) n (svs Y)) (hn : Y.length = n) (hk : k ≤ n) : Strs w w.heap.size (.slice A k c) (Y.take k) := by
  have hl : (Y.take k).length = k := by rw [List.length_take]; omega
  refine ⟨A, c, by rw [hl], fun h0 => ?_⟩
  rw [hl] at h0
  rcases h.2 with ⟨h1, h2⟩ | ⟨g, cc, cur, h1, _, h3, _⟩
  · omega
  · injection h1 with h1 _ _
    subst h1
    have hg := (Array.getElem?_eq_some_iff.1 h3).1
    refine ⟨⟨g, 0, none⟩, rfl, rfl, hg, fun j s hj => ?_⟩
    refine own_news5 h (Below.refl w.heap.size w) hg j (.string s) ?_
    have hjk : j < k := by have := (List.getElem?_eq_some_iff.1 hj).1; omega
    rw [List.getElem?_take_of_lt hjk] at hj
    unfold svs
    rw [List.getElem?_map, hj]; rfl
theorem own_cap6 {w : World} {base e s n c : Nat} {A : Option Addr} {xs : List Value} (h : w.ownsRow base e s (.slice A n c) n xs) : n ≤ c ∧ c ≤ maxLen := by
  rcases h.2 with ⟨h1, h2⟩ | ⟨g, cc, cur, h1, _, _, h3, h4, _⟩
  · injection h1 with _ _ h4; unfold maxLen; omega
  · injection h1 with _ _ h5; subst h5; exact ⟨h3, h4⟩
set_option maxHeartbeats 16000000 in
theorem ringFound_in (va vb vk : Value) (La Lb : List ByteArray) (zs : List Int) (ep : Nat) (w : World) (ha : Strs w w.heap.size va La) (hb : Strs w w.heap.size vb Lb) (hk : Ints .i64 w w.heap.size vk zs) (hna : La.length ≤ 60) (hnb : Lb.length ≤ 60) (hep : ep ≤ 1000000) :
    Calls Try.prog 3 #[va, vb, vk, .int .i64 ep] w fun e w' => e = .returned (.bool true) ∧ Below w.heap.size w w' := by
  have HLV := Lib.hid lives6_any
  have HNW := Lib.hid (fun w => new_dq 40 (by decide) (by decide) w)
  have HOP := Lib.hid (fun (S : Nat → Prop) (w : World) (d : Nat) (D : Dsk) (h : Dq S w d D) (h1 : D.dead = false) (h2 : D.kept.length = 40) (h3 : top5 D 3 36 0 ep < 2147483647) => open_any h h1 3 36 0 (by rw [h2]; decide) (by decide) (by decide) (by decide) ep ⟨by omega, by omega⟩ h3)
  obtain ⟨iT, hiT, ht1, ht2, ht3⟩ := info_parts Try.infoStr6
  obtain ⟨A, cap, rfl, hra⟩ := ha
  have HRA := Lib.hid hra
  clear hra
  obtain ⟨Ab, capb, rfl, hrb⟩ := hb
  have HRB := Lib.hid hrb
  clear hrb
  have HIK := Lib.hid (fun W (h : Below w.heap.size w W) (h1 : w.heap.size ≤ W.heap.size) (S : Nat → Prop) (h2 : ∀ k, S k → w.heap.size ≤ k) => iv_ints6 hk h h1 h2)
  clear hk
  obtain ⟨n, hN⟩ : ∃ n, La.length = n := ⟨_, rfl⟩
  have HN := Lib.hid hN
  obtain ⟨nb, hNb⟩ : ∃ n, Lb.length = n := ⟨_, rfl⟩
  have HNB := Lib.hid hNb
  rw [hN] at hna ⊢
  rw [hNb] at hnb ⊢
  clear hN hNb
  have g1 : decide ((60 : Int) < (n : Int)) = false := decide_eq_false (by omega)
  have g2 : decide ((60 : Int) < (nb : Int)) = false := decide_eq_false (by omega)
  have g3 : decide ((ep : Int) < 0) = false := decide_eq_false (by omega)
  have g4 : decide ((1000000 : Int) < (ep : Int)) = false := decide_eq_false (by omega)
  go_enter Try.func3, Try.ntmps3
  go_wp2_with fail
  refine (HNW.out _).mono ?_
  rintro e w0 ⟨d, S0, rfl, hd, hS, ht⟩
  have Q0 := Lib.hid hd
  have V0 : Hid (Lv w.heap.size w S0 w0) := Lib.hid ⟨ht.below (Nat.le_refl _) (fun _ h => h.elim), ht.size, hS⟩
  clear hd hS ht
  obtain ⟨M0, q1, q2, q3, q4⟩ := Cr.found (D := fresh 40) (t := 0) [] ep ep fresh_cr (by omega) (Int.le_refl _) (by omega) (by decide)
  go_wp2_with fail
  refine (HOP.out S0 w0 d _ Q0.out rfl rfl (by omega)).mono ?_
  rintro e w1 ⟨p, vR, L, n5, E, rfl, hop, hr, hp, hv, ht⟩
  obtain ⟨rfl, r2, r3, r4⟩ := q4 _ _ _ hop
  have hn5 : n5 = 0 := by have : want5 0 [] M0 = 0 := rfl; omega
  subst hn5
  have hE : E ≤ 1000001 ∧ ep < E := by omega
  have F1 : Hid (Fj w S0 vR w1 p d E [] (fresh 40) [] 0 (.slice none 0 0) []) := Lib.hid ⟨⟨hr, Fd.fresh6, by decide, by decide⟩, ⟨(V0.out.still ht).1, (V0.out.still ht).2.1, Rk.low V0.out.2.2 (Nat.le_trans V0.out.2.1 hp) (fun k hk => Nat.le_trans V0.out.2.1 (hv k hk))⟩, World.ownsRow_nil _ _ _ _, fun k hk => by simp [Value.ownBlock] at hk⟩
  clear hop hr hp hv ht q1 q2 q3 q4 r2 r3 r4
  go_wp2_with fail
  go_loopw [13, 15] (fun vs vi wr => ∃ (j : Nat) (S : Nat → Prop) (vR : Value) (L : List Rc) (D : Dsk) (B : List ByteArray) (A3 : Option Addr) (c3 : Nat), j ≤ n ∧ vi = .int .i64 j ∧ vs = .slice A3 B.length c3 ∧ Fj w S vR wr p d E L D B 0 (.slice A3 B.length c3) B) (fun _ vi _ => n - (intOf vi).toNat)
  case atStart => exact ⟨0, S0, vR, [], _, [], none, 0, Nat.zero_le _, rfl, rfl, F1.out⟩
  case round =>
    obtain ⟨j, S, vS, L, D, B, A3, c3, hj, rfl, rfl, hF⟩ := hrel
    have FF := Lib.hid hF
    obtain ⟨m, hm⟩ : ∃ m, B.length = m := ⟨_, rfl⟩
    have HM := Lib.hid hm
    have hfew := Nat.le_trans (tot_len B) hF.fg.few
    have hvl := hF.lv.1
    rw [hm] at FF hfew ⊢
    clear hF hm
    by_cases hlt : j < n
    · obtain ⟨T, hT⟩ : ∃ T, La[j]? = some T := ⟨_, List.getElem?_eq_getElem (by rw [HN.out]; omega)⟩
      obtain ⟨⟨bl, ol, sl⟩, rfl, hsp, hbk, hcl⟩ := HRA.out (by rw [HN.out]; omega)
      obtain rfl : sl = none := hsp
      have X0 : Hid (∀ X, Below w.heap.size w X → X.cell? ⟨bl, ol + j, none⟩ = some (.string T)) := Lib.hid (fun X hX => by
        have h1 := (hX.cell (p := (⟨bl, ol, none⟩ : Addr).add j) (by rw [block_add]; exact hbk)).trans (hcl j T hT)
        rw [Addr.add_mid] at h1
        exact h1)
      have x0 := X0.out wr hvl
      have hi1 : (j : Int) < (n : Int) := by omega
      have hi2 : (0 : Int) ≤ (j : Int) := by omega
      have z3 := wrap_of ((j : Int) + 1) (by omega) (by omega)
      clear hcl hT hvl
      by_cases hbig : 20000 < T.size
      · have hb1 : (20000 : Int) < (T.size : Int) := by omega
        go_wp2_with fail
        refine (HLV.out _).mono ?_
        rintro e w2 ⟨rfl, hb⟩
        have BL := Lib.hid (FF.out.lv.1.trans (hb.mono FF.out.lv.2.1))
        clear hb
        go_wp2_with fail
        go_ret
        exact ⟨rfl, BL.out⟩
      · have hb1 : ¬ (20000 : Int) < (T.size : Int) := by omega
        have HA := Lib.hid (FF.out.append hE.1 T)
        go_wp2_with fail
        refine HA.out.mono ?_
        rintro e w2 ⟨x, S2, v2, L2, D2, B2, rfl, hx, hF2⟩
        have F2 := Lib.hid hF2
        have x1 := X0.out w2 hF2.lv.1
        clear hF2 HA x0
        rcases hx with ⟨hx, rfl⟩ | ⟨hx, rfl⟩
        · go_wp2_with (at_builtin; refine wpList_append_own_at _ rfl _ _ 22 rfl w.heap.size 9 iT _ 1 16 Try.underlying22 hiT ht1 ht2 ht3 rfl (by decide) (.slice A3 m c3) m (svs B) rfl (by have h := F2.out.row; rw [HM.out] at h; exact World.ownsRow.turn5 h ((Turn.refl (fun _ => False) w2).alloc _) (fun _ _ h => h)) ⟨w2.heap.size, 0, none⟩ 1 1 [.string T] rfl rfl (cell_one_new _ _ _) (by simp [Value.oneCell']) (by unfold maxLen; omega) (by omega) (by rw [World.size_alloc]; exact Nat.le_succ_of_le F2.out.lv.2.1) ?_; intro v5 w5 ho5 hg5 hn5 hv5; have G5 := Lib.hid hg5; have O5 := Lib.hid ho5; have V5 := Lib.hid hv5; clear ho5 hg5 hv5 hn5)
          obtain ⟨F5, A5, c5, rfl⟩ := F2.out.snoc HM.out G5.out O5.out V5.out
          go_roundw
          case rel => exact ⟨j + 1, S2, v2, L2, D2, B ++ [T], A5, c5, hlt, by simp, by rw [List.length_append, HM.out]; rfl, by rw [List.length_append, HM.out]; exact F5⟩
          case measure => simp [intOf]; omega
        · go_wp2_with fail
          go_roundw
          case rel => exact ⟨j + 1, S2, v2, L2, D2, B2, A3, c3, hlt, by simp, by rw [HM.out], by rw [HM.out]; exact F2.out⟩
          case measure => simp [intOf]; omega
    · have hi1 : ¬ (j : Int) < (n : Int) := by omega
      have HSY := Lib.hid FF.out.fg.sync
      go_wp2_with fail
      refine HSY.out.mono ?_
      rintro e w2 ⟨rfl, S2, D2, hf, hs⟩
      have F2 := Lib.hid (FF.out.step hs hf)
      clear hf hs HSY
      go_wp2_with (at_builtin; refine wpList_append_to_nil6 _ rfl _ _ rfl iT _ hiT ht1 ht2 ht3 rfl w.heap.size rfl (.slice A3 m c3) B rfl F2.out.row (by rw [HM.out]; omega) F2.out.lv.2.1 ?_; intro v4 w4 ho4 ht4 hv4; have O4 := Lib.hid ho4; have T4 := Lib.hid ht4; have V4 := Lib.hid hv4; clear ho4 ht4 hv4)
      have F4 := Lib.hid (F2.out.far (u := none) (T4.out.mono (fun k _ h => h.elim)) (fun k hk => by cases hk) O4.out (fun k hk => .inr (V4.out k hk)))
      obtain ⟨A4, c4, rfl⟩ : ∃ A c, v4 = .slice A m c := by
        have h := O4.out
        rw [HM.out] at h
        rcases h.2 with ⟨h1, h2⟩ | ⟨b, cc, cur, h1, _⟩
        · exact ⟨none, 0, by rw [h1, h2]⟩
        · exact ⟨_, _, h1⟩
      clear O4 T4 V4
      go_loopw [14, 16] (fun vs vi wr => ∃ (j : Nat) (S : Nat → Prop) (vR : Value) (L : List Rc) (D : Dsk) (X : List ByteArray) (A5 : Option Addr) (c5 : Nat), j ≤ nb ∧ vi = .int .i64 j ∧ vs = .slice A5 (B ++ X).length c5 ∧ Fj w S vR wr p d E L D (B ++ X) (tot B) (.slice A5 (B ++ X).length c5) (B ++ X)) (fun _ vi _ => nb - (intOf vi).toNat)
      case atStart => exact ⟨0, S2, vS, L, D2, [], A4, c4, Nat.zero_le _, rfl, by rw [List.append_nil, HM.out], by rw [List.append_nil, HM.out]; exact F4.out⟩
      case round =>
        obtain ⟨j2, S3, v3, L3, D3, X, A5, c5, hj2, rfl, rfl, hF⟩ := hrel
        have F3 := Lib.hid hF
        obtain ⟨m2, hm2⟩ : ∃ m, (B ++ X).length = m := ⟨_, rfl⟩
        have HM2 := Lib.hid hm2
        have hfew2 := Nat.le_trans (tot_len (B ++ X)) hF.fg.few
        have hvl := hF.lv.1
        rw [hm2] at F3 hfew2 ⊢
        clear hF hm2
        by_cases hlt2 : j2 < nb
        · obtain ⟨T, hT⟩ : ∃ T, Lb[j2]? = some T := ⟨_, List.getElem?_eq_getElem (by rw [HNB.out]; omega)⟩
          obtain ⟨⟨bl, ol, sl⟩, rfl, hsp, hbk, hcl⟩ := HRB.out (by rw [HNB.out]; omega)
          obtain rfl : sl = none := hsp
          have X0 : Hid (∀ X, Below w.heap.size w X → X.cell? ⟨bl, ol + j2, none⟩ = some (.string T)) := Lib.hid (fun X hX => by
            have h1 := (hX.cell (p := (⟨bl, ol, none⟩ : Addr).add j2) (by rw [block_add]; exact hbk)).trans (hcl j2 T hT)
            rw [Addr.add_mid] at h1
            exact h1)
          have x0 := X0.out wr hvl
          have hi3 : (j2 : Int) < (nb : Int) := by omega
          have hi2 : (0 : Int) ≤ (j2 : Int) := by omega
          have z3 := wrap_of ((j2 : Int) + 1) (by omega) (by omega)
          clear hcl hT hvl
          by_cases hbig : 20000 < T.size
          · have hb1 : (20000 : Int) < (T.size : Int) := by omega
            go_wp2_with fail
            refine (HLV.out _).mono ?_
            rintro e w2 ⟨rfl, hb⟩
            have BL := Lib.hid (F3.out.lv.1.trans (hb.mono F3.out.lv.2.1))
            clear hb
            go_wp2_with fail
            go_ret
            exact ⟨rfl, BL.out⟩
          · have hb1 : ¬ (20000 : Int) < (T.size : Int) := by omega
            have HA := Lib.hid (F3.out.append hE.1 T)
            go_wp2_with fail
            refine HA.out.mono ?_
            rintro e w6 ⟨x, S6, v6, L6, D6, B6, rfl, hx, hF2⟩
            have F6 := Lib.hid hF2
            have x1 := X0.out w6 hF2.lv.1
            clear hF2 HA x0
            rcases hx with ⟨hx, rfl⟩ | ⟨hx, rfl⟩
            · go_wp2_with (at_builtin; refine wpList_append_own_at _ rfl _ _ 22 rfl w.heap.size 9 iT _ 1 16 Try.underlying22 hiT ht1 ht2 ht3 rfl (by decide) (.slice A5 m2 c5) m2 (svs (B ++ X)) rfl (by have h := F6.out.row; rw [HM2.out] at h; exact World.ownsRow.turn5 h ((Turn.refl (fun _ => False) w6).alloc _) (fun _ _ h => h)) ⟨w6.heap.size, 0, none⟩ 1 1 [.string T] rfl rfl (cell_one_new _ _ _) (by simp [Value.oneCell']) (by unfold maxLen; omega) (by omega) (by rw [World.size_alloc]; exact Nat.le_succ_of_le F6.out.lv.2.1) ?_; intro v5 w5 ho5 hg5 hn5 hv5; have G5 := Lib.hid hg5; have O5 := Lib.hid ho5; have V5 := Lib.hid hv5; clear ho5 hg5 hv5 hn5)
              obtain ⟨F5, A7, c7, rfl⟩ := F6.out.snoc HM2.out G5.out O5.out V5.out
              rw [List.append_assoc] at F5
              go_roundw
              case rel => exact ⟨j2 + 1, S6, v6, L6, D6, X ++ [T], A7, c7, hlt2, by simp, by rw [← List.append_assoc, List.length_append, HM2.out]; rfl, by rw [← List.append_assoc, List.length_append, HM2.out, List.append_assoc]; exact F5⟩
              case measure => simp [intOf]; omega
            · go_wp2_with fail
              go_roundw
              case rel => exact ⟨j2 + 1, S6, v6, L6, D6, X, A5, c5, hlt2, by simp, by rw [HM2.out], by rw [HM2.out]; exact F6.out⟩
              case measure => simp [intOf]; omega
        · have hi3 : ¬ (j2 : Int) < (nb : Int) := by omega
          have hpd := F3.out.fg.fd.few
          rw [len_rows] at hpd
          have hfw := F3.out.fg.few
          have HIV := HIK.out wr F3.out.lv.1 F3.out.lv.2.1 S3 (fun k hk => F3.out.lv.2.2 k (.inl hk))
          have HCR := Lib.hid (crash_dq F3.out.fg.rd.disk (by omega) vk zs HIV.2 HIV.1)
          clear HIV
          have CR := F3.out.fg.fd.crash (by rw [len_rows]; exact hfw) (rows_right (B ++ X) E hE.1 hfw) zs
          obtain ⟨M, q1, q2, q3, q4⟩ := CR.found (B ++ X) E ep (by omega) (by omega) hE.1 hfw
          have rl1 := recs_len B X 0 M q1
          obtain ⟨rl2, rl3⟩ := recs_few (B ++ X) 0 M
          have CRL := Lib.hid CR.len
          have CRD := Lib.hid CR.dead
          have Q4 := Lib.hid q4
          clear CR q1 q2 q4 hpd
          generalize D3.crashed zs = DK at *
          generalize recs5 0 (B ++ X) M = R at *
          generalize want5 0 (B ++ X) M = WN at *
          rw [HM.out] at rl1
          rw [HM2.out] at rl2
          obtain ⟨k, hk⟩ : ∃ k, R.length = k := ⟨_, rfl⟩
          have HK := Lib.hid hk
          rw [hk] at rl1 rl2
          have RL3 := Lib.hid rl3
          have HSZ := Lib.hid (small6 hfw rl3)
          have hc5 : m2 ≤ c5 ∧ c5 ≤ maxLen := by
            have h := F3.out.row
            rw [HM2.out] at h
            exact own_cap6 h
          clear hk rl3 hfw
          go_wp2_with fail
          refine HCR.out.mono ?_
          rintro e w6 ⟨rfl, S6, hd, hs⟩
          have Q6 := Lib.hid hd
          have RW6 : Hid (w6.ownsRow w.heap.size 9 1 (.slice A5 m2 c5) m2 (svs (B ++ X))) := Lib.hid (by
            have h := World.ownsRow.turn5 F3.out.row hs.1 (fun k hk h => F3.out.ap k hk (.inl h))
            rw [HM2.out] at h
            exact h)
          have B6 : Hid (Below w.heap.size w w6 ∧ w.heap.size ≤ w6.heap.size) := Lib.hid ⟨F3.out.lv.1.trans (hs.1.below F3.out.lv.2.1 (fun k hk => F3.out.lv.2.2 k (.inl hk))), Nat.le_trans F3.out.lv.2.1 hs.1.size⟩
          clear hd hs HCR
          go_wp2_with fail
          refine (HOP.out S6 w6 d _ Q6.out CRD.out CRL.out (by omega)).mono ?_
          rintro e w7 ⟨px, vX, LX, nX, EX, rfl, hop, hr, hp, hv, ht⟩
          obtain ⟨rfl, r2, r3, r4⟩ := Q4.out _ _ _ hop
          have X7 := Lib.hid hr
          have T7 := Lib.hid ht
          clear hop hr hp hv ht
          have HREC : Hid (∀ (W : World) (vR : Value) (p n e : Nat), RD S6 vR W p d 3 36 0 n e LX DK → Calls Try.prog 12 #[.pointer (some ⟨p, 0, none⟩)] W fun r w' => ∃ A c, r = .returned (.slice A k c) ∧ w'.ownsRow W.heap.size 70 3 (.slice A k c) k (LX.flatMap rcells) ∧ Turn (fun _ => False) W w') := Lib.hid (fun W vR p n e h => (ringRecords h (by rw [HK.out]; omega) HSZ.out).mono (by
            rintro r w' ⟨v', rfl, ho, ht⟩
            rw [HK.out] at ho
            rcases ho.2 with ⟨h1, h2⟩ | ⟨b, cc, cur, h1, _⟩
            · subst h1 h2; exact ⟨none, 0, rfl, ho, ht⟩
            · subst h1; exact ⟨_, _, rfl, ho, ht⟩))
          have HSM : Hid (∀ (W : World) (A : Option Addr) (c B1 : Nat), W.ownsRow B1 70 3 (.slice A k c) k (LX.flatMap rcells) → W.ownsRow w.heap.size 9 1 (.slice A5 m2 c5) m2 (svs (B ++ X)) → Calls Try.prog 13 #[.slice A k c, .slice A5 k c5] W fun r w' => r = .returned (.bool true) ∧ Turn (fun _ => False) W w') := Lib.hid (fun W A c B1 h1 h2 =>
            same6 LX ((B ++ X).take k) (by rw [List.length_take, HM2.out, HK.out]; omega) (fun i x hx => by
              have hi := (List.getElem?_eq_some_iff.1 hx).1
              rw [HK.out] at hi
              rw [List.getElem?_take_of_lt hi]
              exact RL3.out i x hx) (by rw [HK.out]; omega) _ _ B1 W.heap.size W (by rw [HK.out]; exact h1) (strs_take h2 HM2.out rl2) (Nat.le_refl _))
          have c1 : decide (k < m) = false := decide_eq_false (by omega)
          have c2 : decide (m2 < k) = false := decide_eq_false (by omega)
          have c3_ : (k : Int) ≤ (c5 : Int) := by omega
          have c4_ : decide (EX ≤ ep) = false := decide_eq_false (by omega)
          have Q3 : Hid (top5 DK 3 36 0 ep < 2147483647) := Lib.hid (by omega)
          clear q3
          have R2 := Lib.hid r2
          have R3 := Lib.hid r3
          clear r2 r3 r4
          have c5_ : (0 : Int) ≤ (k : Int) := by omega
          have c6_ : k ≤ c5 := by omega
          go_wp2_with fail
          refine (HREC.out w7 vX px nX EX X7.out).mono ?_
          rintro e w8 ⟨A8, c8, rfl, ho8, ht8⟩
          have O8 := Lib.hid ho8
          have T8 := Lib.hid (T7.out.trans ht8)
          have X8 := Lib.hid (X7.out.quiet ht8)
          clear ho8 ht8
          go_wp2_with fail
          refine (HSM.out w8 A8 c8 _ O8.out (World.ownsRow.turn5 RW6.out T8.out (fun _ _ h => h))).mono ?_
          rintro e w9 ⟨rfl, ht9⟩
          have T9 := Lib.hid (T8.out.trans ht9)
          have X9 := Lib.hid (X8.out.quiet ht9)
          have O9 := Lib.hid (World.ownsRow.turn5 O8.out ht9 (fun _ _ h => h))
          clear ht9
          have HEP : Hid (∀ (W : World) (vR : Value) (p n e : Nat), RD S6 vR W p d 3 36 0 n e LX DK → Calls Try.prog 14 #[.pointer (some ⟨p, 0, none⟩)] W fun r w' => r = .returned (.int .i64 e) ∧ w' = W) := Lib.hid (fun W vR p n e h => ringEpoch p d (3 : Nat) (36 : Nat) (0 : Nat) n e vR W h.blk)
          have HNX : Hid (∀ (W : World) (vR : Value) (p n e : Nat), RD S6 vR W p d 3 36 0 n e LX DK → Calls Try.prog 15 #[.pointer (some ⟨p, 0, none⟩)] W fun r w' => r = .returned (.int .i64 n) ∧ w' = W) := Lib.hid (fun W vR p n e h => ringNext p d (3 : Nat) (36 : Nat) (0 : Nat) n e vR W h.blk)
          go_wp2_with fail
          refine (HEP.out w9 vX px nX EX X9.out).mono ?_
          rintro e w9b ⟨rfl, rfl⟩
          go_wp2_with fail
          refine (HOP.out S6 w9b d _ (Q6.out.still T9.out) CRD.out CRL.out Q3.out).mono ?_
          rintro e w10 ⟨py, vY, LY, nY, EY, rfl, hop, hr, hp, hv, ht⟩
          obtain ⟨rfl, r5_, r6, r7⟩ := Q4.out _ _ _ hop
          obtain rfl : nY = nX := by have h1 := R2.out; omega
          obtain rfl : EY = EX := by have h1 := R3.out; omega
          have Y10 := Lib.hid hr
          have X10 := Lib.hid (X9.out.quiet ht)
          have T10 := Lib.hid (T9.out.trans ht)
          clear hop hr hp hv ht R2 R3 r5_ r6 r7
          have B10 : Hid (∀ X, Turn (fun _ => False) w10 X → Below w.heap.size w X ∧ w.heap.size ≤ X.heap.size) := Lib.hid (fun X hX => ⟨B6.out.1.trans ((T10.out.trans hX).below B6.out.2 (fun _ h => h.elim)), Nat.le_trans B6.out.2 (Nat.le_trans T10.out.size hX.size)⟩)
          have RW10 : Hid (∀ X0, Turn (fun _ => False) w10 X0 → X0.ownsRow w.heap.size 9 1 (.slice A5 m2 c5) m2 (svs (B ++ X))) := Lib.hid (fun X0 hX => World.ownsRow.turn5 RW6.out (T10.out.trans hX) (fun _ _ h => h))
          go_wp2_with fail
          refine wp_region_noPanic ?_
          refine wp_region_held_drew (S := fun _ => True) (by kernel_rfl) True.intro (fun hHeld => ?_)
          -- region
          refine wpAnyH_take (i := 0) (v := ?_) rfl (by kernel_rfl) (by kernel_rfl) (by kernel_rfl) (fun _ _ _ h => h) (Or.inl ⟨by rfl, ?_⟩) (by assumption) ?_
          rotate_left 1
          · intro w' hSw
            go_simp
            all_goals first | with_reducible rfl | (rw [if_neg (by omega)]; done) | (rw [if_pos (by omega)]; done) | (rw [if_neg (by omega)]; with_reducible rfl) | (rw [if_pos (by omega)]; with_reducible rfl)
          try simp only [List.getElem_toArray, List.getElem_cons_zero, Act.put, List.setIfInBounds_toArray, List.set_cons_zero, List.set_cons_succ]
          refine wpAnyH_take (i := 1) (v := ?_) rfl (by kernel_rfl) (by kernel_rfl) (by kernel_rfl) (fun _ _ _ h => h) (Or.inl ⟨by rfl, ?_⟩) (by assumption) ?_
          rotate_left 1
          · intro w' hSw
            go_simp
            all_goals first | with_reducible rfl | (rw [if_neg (by omega)]; done) | (rw [if_pos (by omega)]; done) | (rw [if_neg (by omega)]; with_reducible rfl) | (rw [if_pos (by omega)]; with_reducible rfl)
          try simp only [List.getElem_toArray, List.getElem_cons_zero, List.getElem_cons_succ, Act.put, List.setIfInBounds_toArray, List.set_cons_zero, List.set_cons_succ]
          refine wpAnyH_take (i := 2) (v := ?_) rfl (by kernel_rfl) (by kernel_rfl) (by kernel_rfl) (fun _ _ _ h => h) (Or.inl ⟨by rfl, ?_⟩) (by assumption) ?_
          rotate_left 1
          · intro w' hSw
            go_simp
            all_goals first | with_reducible rfl | (rw [if_neg (by omega)]; done) | (rw [if_pos (by omega)]; done) | (rw [if_neg (by omega)]; with_reducible rfl) | (rw [if_pos (by omega)]; with_reducible rfl)
          try simp only [List.getElem_toArray, List.getElem_cons_zero, List.getElem_cons_succ, Act.put, List.setIfInBounds_toArray, List.set_cons_zero, List.set_cons_succ]
          refine wpAnyH_take (i := 3) (v := ?_) rfl (by kernel_rfl) (by kernel_rfl) (by kernel_rfl) (fun _ _ _ h => h) (Or.inl ⟨by rfl, ?_⟩) (by assumption) ?_
          rotate_left 1
          · intro w' hSw
            go_simp
            all_goals first | with_reducible rfl | (rw [if_neg (by omega)]; done) | (rw [if_pos (by omega)]; done) | (rw [if_neg (by omega)]; with_reducible rfl) | (rw [if_pos (by omega)]; with_reducible rfl)
          try simp only [List.getElem_toArray, List.getElem_cons_zero, List.getElem_cons_succ, Act.put, List.setIfInBounds_toArray, List.set_cons_zero, List.set_cons_succ]
          refine wpAnyH_take (i := 4) (v := ?_) rfl (by kernel_rfl) (by kernel_rfl) (by kernel_rfl) (fun _ _ _ h => h) (Or.inl ⟨by rfl, ?_⟩) (by assumption) ?_
          rotate_left 1
          · intro w' hSw
            go_simp
            all_goals first | with_reducible rfl | (rw [if_neg (by omega)]; done) | (rw [if_pos (by omega)]; done) | (rw [if_neg (by omega)]; with_reducible rfl) | (rw [if_pos (by omega)]; with_reducible rfl)
          try simp only [List.getElem_toArray, List.getElem_cons_zero, List.getElem_cons_succ, Act.put, List.setIfInBounds_toArray, List.set_cons_zero, List.set_cons_succ]
          refine wpAnyH_take (i := 5) (v := ?_) rfl (by kernel_rfl) (by kernel_rfl) (by kernel_rfl) (fun _ _ _ h => h) (Or.inl ⟨by rfl, ?_⟩) (by assumption) ?_
          rotate_left 1
          · intro w' hSw
            go_simp
            all_goals first | with_reducible rfl | (rw [if_neg (by omega)]; done) | (rw [if_pos (by omega)]; done) | (rw [if_neg (by omega)]; with_reducible rfl) | (rw [if_pos (by omega)]; with_reducible rfl)
          try simp only [List.getElem_toArray, List.getElem_cons_zero, List.getElem_cons_succ, Act.put, List.setIfInBounds_toArray, List.set_cons_zero, List.set_cons_succ]
          refine wpAnyH_take (i := 6) (v := ?_) rfl (by kernel_rfl) (by kernel_rfl) (by kernel_rfl) (fun _ _ _ h => h) (Or.inl ⟨by rfl, ?_⟩) (by assumption) ?_
          rotate_left 1
          · intro w' hSw
            go_simp
            all_goals first | with_reducible rfl | (rw [if_neg (by omega)]; done) | (rw [if_pos (by omega)]; done) | (rw [if_neg (by omega)]; with_reducible rfl) | (rw [if_pos (by omega)]; with_reducible rfl)
          try simp only [List.getElem_toArray, List.getElem_cons_zero, List.getElem_cons_succ, Act.put, List.setIfInBounds_toArray, List.set_cons_zero, List.set_cons_succ]
          refine wpAnyH_take (i := 7) (v := ?_) rfl (by kernel_rfl) (by kernel_rfl) (by kernel_rfl) (fun _ _ _ h => h) (Or.inl ⟨by rfl, ?_⟩) (by assumption) ?_
          rotate_left 1
          · intro w' hSw
            go_simp
            all_goals first | with_reducible rfl | (rw [if_neg (by omega)]; done) | (rw [if_pos (by omega)]; done) | (rw [if_neg (by omega)]; with_reducible rfl) | (rw [if_pos (by omega)]; with_reducible rfl)
          try simp only [List.getElem_toArray, List.getElem_cons_zero, List.getElem_cons_succ, Act.put, List.setIfInBounds_toArray, List.set_cons_zero, List.set_cons_succ]
          refine wpAnyH_take (i := 9) (v := ?_) rfl (by kernel_rfl) (by kernel_rfl) (by kernel_rfl) (fun _ _ _ h => h) (Or.inl ⟨by rfl, ?_⟩) (by assumption) ?_
          rotate_left 1
          · intro w' hSw
            go_simp
            all_goals first | with_reducible rfl | (rw [if_neg (by omega)]; done) | (rw [if_pos (by omega)]; done) | (rw [if_neg (by omega)]; with_reducible rfl) | (rw [if_pos (by omega)]; with_reducible rfl)
          try simp only [List.getElem_toArray, List.getElem_cons_zero, List.getElem_cons_succ, Act.put, List.setIfInBounds_toArray, List.set_cons_zero, List.set_cons_succ]
          refine wpAnyH_take (i := 10) (v := ?_) rfl (by kernel_rfl) (by kernel_rfl) (by kernel_rfl) (fun _ _ _ h => h) (Or.inl ⟨by rfl, ?_⟩) (by assumption) ?_
          rotate_left 1
          · intro w' hSw
            go_simp
            all_goals first | with_reducible rfl | (rw [if_neg (by omega)]; done) | (rw [if_pos (by omega)]; done) | (rw [if_neg (by omega)]; with_reducible rfl) | (rw [if_pos (by omega)]; with_reducible rfl)
          try simp only [List.getElem_toArray, List.getElem_cons_zero, List.getElem_cons_succ, Act.put, List.setIfInBounds_toArray, List.set_cons_zero, List.set_cons_succ]
          refine wpAnyH_take (i := 11) (v := ?_) rfl (by kernel_rfl) (by kernel_rfl) (by kernel_rfl) (fun _ _ _ h => h) (Or.inl ⟨by rfl, ?_⟩) (by assumption) ?_
          rotate_left 1
          · intro w' hSw
            go_simp
            all_goals first | with_reducible rfl | (rw [if_neg (by omega)]; done) | (rw [if_pos (by omega)]; done) | (rw [if_neg (by omega)]; with_reducible rfl) | (rw [if_pos (by omega)]; with_reducible rfl)
          try simp only [List.getElem_toArray, List.getElem_cons_zero, List.getElem_cons_succ, Act.put, List.setIfInBounds_toArray, List.set_cons_zero, List.set_cons_succ]
          refine wpAnyH_take (i := 12) (v := ?_) rfl (by kernel_rfl) (by kernel_rfl) (by kernel_rfl) (fun _ _ _ h => h) (Or.inl ⟨by rfl, ?_⟩) (by assumption) ?_
          rotate_left 1
          · intro w' hSw
            go_simp
            all_goals first | with_reducible rfl | (rw [if_neg (by omega)]; done) | (rw [if_pos (by omega)]; done) | (rw [if_neg (by omega)]; with_reducible rfl) | (rw [if_pos (by omega)]; with_reducible rfl)
          try simp only [List.getElem_toArray, List.getElem_cons_zero, List.getElem_cons_succ, Act.put, List.setIfInBounds_toArray, List.set_cons_zero, List.set_cons_succ]
          refine wpAnyH_ready (rs := [8]) (by kernel_rfl) (by simp) ?_
          refine AllReadyH.cons rfl (fun K hK => ?_) AllReadyH.nil
          refine step_call_on 12 Try.f12 _ _ rfl Try.func12 (by kernel_rfl) (by kernel_rfl) _ _ ((HREC.out _ vY py _ _ (Y10.out.quiet (Turn.refl _ _).drew)).mono (fun e w' h => (by obtain ⟨A, c, h1, h2, h3⟩ := h; exact ⟨_, h1, A, c, rfl, h2, h3⟩ : ∃ v, e = .returned v ∧ ∃ A c, v = .slice A k c ∧ w'.ownsRow w10.drew.heap.size 70 3 (.slice A k c) k (LY.flatMap rcells) ∧ Turn (fun _ => False) w10.drew w'))) (by go_simp) (by rfl) ?_
          rintro v11 w11 ⟨A11, c11, rfl, ho11, ht11⟩
          have O11 := Lib.hid ho11
          have T11 : Hid (Turn (fun _ => False) w10 w11) := Lib.hid ((Turn.refl _ w10).drew.trans ht11)
          clear ho11 ht11
          refine hK.out _ _ True.intro (fun hHeld => ?_)
          clear hK K
          try simp only [List.getElem_toArray, List.getElem_cons_zero, List.getElem_cons_succ, Act.put, List.setIfInBounds_toArray, List.set_cons_zero, List.set_cons_succ]
          refine wpAnyH_ready (rs := [13]) (by kernel_rfl) (by simp) ?_
          refine AllReadyH.cons rfl (fun K hK => ?_) AllReadyH.nil
          refine step_call_on 13 Try.f13 _ _ rfl Try.func13 (by kernel_rfl) (by kernel_rfl) _ _ ((HSM.out _ A11 c11 _ O11.out (RW10.out _ T11.out)).mono (fun e w' h => (⟨_, h.1, rfl, h.2⟩ : ∃ v, e = .returned v ∧ (v = .bool true ∧ Turn (fun _ => False) w11 w')))) (by go_simp) (by rfl) ?_
          rintro v12 w12 ⟨rfl, ht12⟩
          have T12 := Lib.hid (T11.out.trans ht12)
          clear ht12
          refine hK.out _ _ True.intro (fun hHeld => ?_)
          clear hK K
          try simp only [List.getElem_toArray, List.getElem_cons_zero, List.getElem_cons_succ, Act.put, List.setIfInBounds_toArray, List.set_cons_zero, List.set_cons_succ]
          refine wpAnyH_take (i := 14) (v := ?_) rfl (by kernel_rfl) (by kernel_rfl) (by kernel_rfl) (fun _ _ _ h => h) (Or.inl ⟨by rfl, ?_⟩) (by assumption) ?_
          rotate_left 1
          · intro w' hSw
            go_simp
            all_goals first | with_reducible rfl | (rw [if_neg (by omega)]; done) | (rw [if_pos (by omega)]; done) | (rw [if_neg (by omega)]; with_reducible rfl) | (rw [if_pos (by omega)]; with_reducible rfl)
          try simp only [List.getElem_toArray, List.getElem_cons_zero, List.getElem_cons_succ, Act.put, List.setIfInBounds_toArray, List.set_cons_zero, List.set_cons_succ]
          refine wpAnyH_take (i := 15) (v := ?_) rfl (by kernel_rfl) (by kernel_rfl) (by kernel_rfl) (fun _ _ _ h => h) (Or.inl ⟨by rfl, ?_⟩) (by assumption) ?_
          rotate_left 1
          · intro w' hSw
            go_simp
            all_goals first | with_reducible rfl | (rw [if_neg (by omega)]; done) | (rw [if_pos (by omega)]; done) | (rw [if_neg (by omega)]; with_reducible rfl) | (rw [if_pos (by omega)]; with_reducible rfl)
          try simp only [List.getElem_toArray, List.getElem_cons_zero, List.getElem_cons_succ, Act.put, List.setIfInBounds_toArray, List.set_cons_zero, List.set_cons_succ]
          refine wpAnyH_take (i := 16) (v := ?_) rfl (by kernel_rfl) (by kernel_rfl) (by kernel_rfl) (fun _ _ _ h => h) (Or.inl ⟨by rfl, ?_⟩) (by assumption) ?_
          rotate_left 1
          · intro w' hSw
            go_simp
            all_goals first | with_reducible rfl | (rw [if_neg (by omega)]; done) | (rw [if_pos (by omega)]; done) | (rw [if_neg (by omega)]; with_reducible rfl) | (rw [if_pos (by omega)]; with_reducible rfl)
          try simp only [List.getElem_toArray, List.getElem_cons_zero, List.getElem_cons_succ, Act.put, List.setIfInBounds_toArray, List.set_cons_zero, List.set_cons_succ]
          refine wpAnyH_take (i := 18) (v := ?_) rfl (by kernel_rfl) (by kernel_rfl) (by kernel_rfl) (fun _ _ _ h => h) (Or.inl ⟨by rfl, ?_⟩) (by assumption) ?_
          rotate_left 1
          · intro w' hSw
            go_simp
            all_goals first | with_reducible rfl | (rw [if_neg (by omega)]; done) | (rw [if_pos (by omega)]; done) | (rw [if_neg (by omega)]; with_reducible rfl) | (rw [if_pos (by omega)]; with_reducible rfl)
          try simp only [List.getElem_toArray, List.getElem_cons_zero, List.getElem_cons_succ, Act.put, List.setIfInBounds_toArray, List.set_cons_zero, List.set_cons_succ]
          refine wpAnyH_ready (rs := [17]) (by kernel_rfl) (by simp) ?_
          refine AllReadyH.cons rfl (fun K hK => ?_) AllReadyH.nil
          refine step_call_on 15 Try.f15 _ _ rfl Try.func15 (by kernel_rfl) (by kernel_rfl) _ _ ((HNX.out _ vY py _ _ (Y10.out.quiet T12.out)).mono (fun e w' h => (⟨_, h.1, rfl, h.2⟩ : ∃ v, e = .returned v ∧ (v = .int .i64 (nY : Nat) ∧ w' = w12)))) (by go_simp) (by rfl) ?_
          rintro v17 w17 ⟨rfl, rfl⟩
          refine hK.out _ _ True.intro (fun hHeld => ?_)
          clear hK K
          try simp only [List.getElem_toArray, List.getElem_cons_zero, List.getElem_cons_succ, Act.put, List.setIfInBounds_toArray, List.set_cons_zero, List.set_cons_succ]
          refine wpAnyH_ready (rs := [19]) (by kernel_rfl) (by simp) ?_
          refine AllReadyH.cons rfl (fun K hK => ?_) AllReadyH.nil
          refine step_call_on 15 Try.f15 _ _ rfl Try.func15 (by kernel_rfl) (by kernel_rfl) _ _ ((HNX.out _ vX px _ _ (X10.out.quiet T12.out)).mono (fun e w' h => (⟨_, h.1, rfl, h.2⟩ : ∃ v, e = .returned v ∧ (v = .int .i64 (nY : Nat) ∧ w' = w17)))) (by go_simp) (by rfl) ?_
          rintro v19 w19 ⟨rfl, rfl⟩
          refine hK.out _ _ True.intro (fun hHeld => ?_)
          clear hK K
          try simp only [List.getElem_toArray, List.getElem_cons_zero, List.getElem_cons_succ, Act.put, List.setIfInBounds_toArray, List.set_cons_zero, List.set_cons_succ]
          refine wpAnyH_take (i := 20) (v := ?_) rfl (by kernel_rfl) (by kernel_rfl) (by kernel_rfl) (fun _ _ _ h => h) (Or.inl ⟨by rfl, ?_⟩) (by assumption) ?_
          rotate_left 1
          · intro w' hSw
            go_simp
            all_goals first | with_reducible rfl | (rw [if_neg (by omega)]; done) | (rw [if_pos (by omega)]; done) | (rw [if_neg (by omega)]; with_reducible rfl) | (rw [if_pos (by omega)]; with_reducible rfl)
          try simp only [List.getElem_toArray, List.getElem_cons_zero, List.getElem_cons_succ, Act.put, List.setIfInBounds_toArray, List.set_cons_zero, List.set_cons_succ]
          refine wpAnyH_take (i := 21) (v := ?_) rfl (by kernel_rfl) (by kernel_rfl) (by kernel_rfl) (fun _ _ _ h => h) (Or.inl ⟨by rfl, ?_⟩) (by assumption) ?_
          rotate_left 1
          · intro w' hSw
            go_simp
            all_goals first | with_reducible rfl | (rw [if_neg (by omega)]; done) | (rw [if_pos (by omega)]; done) | (rw [if_neg (by omega)]; with_reducible rfl) | (rw [if_pos (by omega)]; with_reducible rfl)
          try simp only [List.getElem_toArray, List.getElem_cons_zero, List.getElem_cons_succ, Act.put, List.setIfInBounds_toArray, List.set_cons_zero, List.set_cons_succ]
          refine wpAnyH_take (i := 22) (v := ?_) rfl (by kernel_rfl) (by kernel_rfl) (by kernel_rfl) (fun _ _ _ h => h) (Or.inl ⟨by rfl, ?_⟩) (by assumption) ?_
          rotate_left 1
          · intro w' hSw
            go_simp
            all_goals first | with_reducible rfl | (rw [if_neg (by omega)]; done) | (rw [if_pos (by omega)]; done) | (rw [if_neg (by omega)]; with_reducible rfl) | (rw [if_pos (by omega)]; with_reducible rfl)
          try simp only [List.getElem_toArray, List.getElem_cons_zero, List.getElem_cons_succ, Act.put, List.setIfInBounds_toArray, List.set_cons_zero, List.set_cons_succ]
          refine wpAnyH_take (i := 23) (v := ?_) rfl (by kernel_rfl) (by kernel_rfl) (by kernel_rfl) (fun _ _ _ h => h) (Or.inl ⟨by rfl, ?_⟩) (by assumption) ?_
          rotate_left 1
          · intro w' hSw
            go_simp
            all_goals first | with_reducible rfl | (rw [if_neg (by omega)]; done) | (rw [if_pos (by omega)]; done) | (rw [if_neg (by omega)]; with_reducible rfl) | (rw [if_pos (by omega)]; with_reducible rfl)
          try simp only [List.getElem_toArray, List.getElem_cons_zero, List.getElem_cons_succ, Act.put, List.setIfInBounds_toArray, List.set_cons_zero, List.set_cons_succ]
          refine wpAnyH_take (i := 25) (v := ?_) rfl (by kernel_rfl) (by kernel_rfl) (by kernel_rfl) (fun _ _ _ h => h) (Or.inl ⟨by rfl, ?_⟩) (by assumption) ?_
          rotate_left 1
          · intro w' hSw
            go_simp
            all_goals first | with_reducible rfl | (rw [if_neg (by omega)]; done) | (rw [if_pos (by omega)]; done) | (rw [if_neg (by omega)]; with_reducible rfl) | (rw [if_pos (by omega)]; with_reducible rfl)
          try simp only [List.getElem_toArray, List.getElem_cons_zero, List.getElem_cons_succ, Act.put, List.setIfInBounds_toArray, List.set_cons_zero, List.set_cons_succ]
          refine wpAnyH_ready (rs := [24]) (by kernel_rfl) (by simp) ?_
          refine AllReadyH.cons rfl (fun K hK => ?_) AllReadyH.nil
          refine step_call_on 14 Try.f14 _ _ rfl Try.func14 (by kernel_rfl) (by kernel_rfl) _ _ ((HEP.out _ vY py _ _ (Y10.out.quiet T12.out)).mono (fun e w' h => (⟨_, h.1, rfl, h.2⟩ : ∃ v, e = .returned v ∧ (v = .int .i64 (EY : Nat) ∧ w' = w19)))) (by go_simp) (by rfl) ?_
          rintro v24 w24 ⟨rfl, rfl⟩
          refine hK.out _ _ True.intro (fun hHeld => ?_)
          clear hK K
          try simp only [List.getElem_toArray, List.getElem_cons_zero, List.getElem_cons_succ, Act.put, List.setIfInBounds_toArray, List.set_cons_zero, List.set_cons_succ]
          refine wpAnyH_ready (rs := [26]) (by kernel_rfl) (by simp) ?_
          refine AllReadyH.cons rfl (fun K hK => ?_) AllReadyH.nil
          refine step_call_on 14 Try.f14 _ _ rfl Try.func14 (by kernel_rfl) (by kernel_rfl) _ _ ((HEP.out _ vX px _ _ (X10.out.quiet T12.out)).mono (fun e w' h => (⟨_, h.1, rfl, h.2⟩ : ∃ v, e = .returned v ∧ (v = .int .i64 (EY : Nat) ∧ w' = w24)))) (by go_simp) (by rfl) ?_
          rintro v26 w26 ⟨rfl, rfl⟩
          refine hK.out _ _ True.intro (fun hHeld => ?_)
          clear hK K
          try simp only [List.getElem_toArray, List.getElem_cons_zero, List.getElem_cons_succ, Act.put, List.setIfInBounds_toArray, List.set_cons_zero, List.set_cons_succ]
          refine wpAnyH_take (i := 27) (v := ?_) rfl (by kernel_rfl) (by kernel_rfl) (by kernel_rfl) (fun _ _ _ h => h) (Or.inl ⟨by rfl, ?_⟩) (by assumption) ?_
          rotate_left 1
          · intro w' hSw
            go_simp
            all_goals first | with_reducible rfl | (rw [if_neg (by omega)]; done) | (rw [if_pos (by omega)]; done) | (rw [if_neg (by omega)]; with_reducible rfl) | (rw [if_pos (by omega)]; with_reducible rfl)
          try simp only [List.getElem_toArray, List.getElem_cons_zero, List.getElem_cons_succ, Act.put, List.setIfInBounds_toArray, List.set_cons_zero, List.set_cons_succ]
          refine wpAnyH_take (i := 28) (v := ?_) rfl (by kernel_rfl) (by kernel_rfl) (by kernel_rfl) (fun _ _ _ h => h) (Or.inl ⟨by rfl, ?_⟩) (by assumption) ?_
          rotate_left 1
          · intro w' hSw
            go_simp
            all_goals first | with_reducible rfl | (rw [if_neg (by omega)]; done) | (rw [if_pos (by omega)]; done) | (rw [if_neg (by omega)]; with_reducible rfl) | (rw [if_pos (by omega)]; with_reducible rfl)
          try simp only [List.getElem_toArray, List.getElem_cons_zero, List.getElem_cons_succ, Act.put, List.setIfInBounds_toArray, List.set_cons_zero, List.set_cons_succ]
          refine wpAnyH_take (i := 29) (v := ?_) rfl (by kernel_rfl) (by kernel_rfl) (by kernel_rfl) (fun _ _ _ h => h) (Or.inl ⟨by rfl, ?_⟩) (by assumption) ?_
          rotate_left 1
          · intro w' hSw
            go_simp
            all_goals first | with_reducible rfl | (rw [if_neg (by omega)]; done) | (rw [if_pos (by omega)]; done) | (rw [if_neg (by omega)]; with_reducible rfl) | (rw [if_pos (by omega)]; with_reducible rfl)
          try simp only [List.getElem_toArray, List.getElem_cons_zero, List.getElem_cons_succ, Act.put, List.setIfInBounds_toArray, List.set_cons_zero, List.set_cons_succ]
          refine wpAnyH_ready (rs := [30]) (by kernel_rfl) (by simp) ?_
          refine AllReadyH.cons rfl (fun K hK => ?_) AllReadyH.nil
          refine step_call_on 7 Try.f7 _ _ rfl Try.func7 (by kernel_rfl) (by kernel_rfl) _ _ ((HLV.out _).mono (fun e w' h => (⟨_, h.1, rfl, h.2⟩ : ∃ v, e = .returned v ∧ (v = .bool true ∧ Below w26.heap.size w26 w')))) (by go_simp) (by rfl) ?_
          rintro v30 w30 ⟨rfl, hb30⟩
          have BL := Lib.hid ((B10.out _ T12.out).1.trans (hb30.mono (B10.out _ T12.out).2))
          clear hb30
          refine hK.out _ _ True.intro (fun hHeld => ?_)
          clear hK K
          try simp only [List.getElem_toArray, List.getElem_cons_zero, List.getElem_cons_succ, Act.put, List.setIfInBounds_toArray, List.set_cons_zero, List.set_cons_succ]
          refine wpAnyH_take (i := 31) (v := ?_) rfl (by kernel_rfl) (by kernel_rfl) (by kernel_rfl) (fun _ _ _ h => h) (Or.inl ⟨by rfl, ?_⟩) (by assumption) ?_
          rotate_left 1
          · intro w' hSw
            go_simp
            all_goals first | with_reducible rfl | (rw [if_neg (by omega)]; done) | (rw [if_pos (by omega)]; done) | (rw [if_neg (by omega)]; with_reducible rfl) | (rw [if_pos (by omega)]; with_reducible rfl)
          try simp only [List.getElem_toArray, List.getElem_cons_zero, List.getElem_cons_succ, Act.put, List.setIfInBounds_toArray, List.set_cons_zero, List.set_cons_succ]
          refine wpAnyH_take (i := 32) (v := ?_) rfl (by kernel_rfl) (by kernel_rfl) (by kernel_rfl) (fun _ _ _ h => h) (Or.inl ⟨by rfl, ?_⟩) (by assumption) ?_
          rotate_left 1
          · intro w' hSw
            go_simp
            all_goals first | with_reducible rfl | (rw [if_neg (by omega)]; done) | (rw [if_pos (by omega)]; done) | (rw [if_neg (by omega)]; with_reducible rfl) | (rw [if_pos (by omega)]; with_reducible rfl)
          try simp only [List.getElem_toArray, List.getElem_cons_zero, List.getElem_cons_succ, Act.put, List.setIfInBounds_toArray, List.set_cons_zero, List.set_cons_succ]
          refine wpAnyH_done (by kernel_rfl) ?_ _
          refine NoPanic.normal ?_
          -- region end
          go_wp2_with fail
          go_ret
          exact ⟨rfl, BL.out⟩
theorem ringFound_out (A Ab : Option Addr) (n cap nb capb : Nat) (vk : Value) (x : Int) (w : World) (h : 60 < n ∨ 60 < nb ∨ x < 0 ∨ 1000000 < x) :
    Calls Try.prog 3 #[.slice A n cap, .slice Ab nb capb, vk, .int .i64 x] w fun e w' => e = .returned (.bool true) ∧ Below w.heap.size w w' := by
  have HLV := Lib.hid lives6_any
  have HNW := Lib.hid (fun w => new_dq 40 (by decide) (by decide) w)
  have hc : (60 : Int) < (n : Int) ∨ (decide ((60 : Int) < (n : Int)) = false ∧ (60 : Int) < (nb : Int)) ∨ (decide ((60 : Int) < (n : Int)) = false ∧ decide ((60 : Int) < (nb : Int)) = false ∧ x < 0) ∨ (decide ((60 : Int) < (n : Int)) = false ∧ decide ((60 : Int) < (nb : Int)) = false ∧ decide (x < 0) = false ∧ 1000000 < x) := by
    by_cases h1 : (60 : Int) < (n : Int)
    · exact .inl h1
    · by_cases h2 : (60 : Int) < (nb : Int)
      · exact .inr (.inl ⟨decide_eq_false h1, h2⟩)
      · by_cases h3 : x < 0
        · exact .inr (.inr (.inl ⟨decide_eq_false h1, decide_eq_false h2, h3⟩))
        · exact .inr (.inr (.inr ⟨decide_eq_false h1, decide_eq_false h2, decide_eq_false h3, by omega⟩))
  clear h
  rcases hc with hc | ⟨g1, hc⟩ | ⟨g1, g2, hc⟩ | ⟨g1, g2, g3, hc⟩
  all_goals
    go_enter Try.func3, Try.ntmps3
    go_wp2_with fail
    refine (HNW.out _).mono ?_
    rintro e w0 ⟨d, S0, rfl, hd, hS, ht⟩
    have V0 : Hid (Lv w.heap.size w S0 w0) := Lib.hid ⟨ht.below (Nat.le_refl _) (fun _ h => h.elim), ht.size, hS⟩
    clear hd hS ht
    go_wp2_with fail
    refine (HLV.out _).mono ?_
    rintro e w2 ⟨rfl, hb⟩
    have BL := Lib.hid (V0.out.1.trans (hb.mono V0.out.2.1))
    clear hb
    go_wp2_with fail
    go_ret
    exact ⟨rfl, BL.out⟩
theorem out_key (a b : Nat) (x : Int) (h : ¬ (a ≤ 60 ∧ b ≤ 60 ∧ 0 ≤ x ∧ x ≤ 1000000)) : 60 < a ∨ 60 < b ∨ x < 0 ∨ 1000000 < x := by
  by_cases h1 : 60 < a
  · exact .inl h1
  · by_cases h2 : 60 < b
    · exact .inr (.inl h2)
    · by_cases h3 : x < 0
      · exact .inr (.inr (.inl h3))
      · by_cases h4 : 1000000 < x
        · exact .inr (.inr (.inr h4))
        · exact absurd ⟨Nat.le_of_not_lt h1, Nat.le_of_not_lt h2, Int.not_lt.1 h3, Int.not_lt.1 h4⟩ h
theorem ringFound_walk (va : Value) (La : List ByteArray) (vb : Value) (Lb : List ByteArray) (vk : Value) (zs : List Int) (x : Int) (w : World) (ha : Strs w w.heap.size va La) (hb : Strs w w.heap.size vb Lb) (hk : Ints .i64 w w.heap.size vk zs) :
    Calls Try.prog 3 #[va, vb, vk, .int .i64 x] w fun e w' => e = .returned (.bool true) ∧ Below w.heap.size w w' := by
  by_cases hn : La.length ≤ 60 ∧ Lb.length ≤ 60 ∧ 0 ≤ x ∧ x ≤ 1000000
  · obtain ⟨h1, h2, h3, h4⟩ := hn
    obtain ⟨ep, rfl⟩ : ∃ ep : Nat, x = (ep : Int) := ⟨x.toNat, by omega⟩
    exact ringFound_in va vb vk La Lb zs ep w ha hb hk h1 h2 (by omega)
  · obtain ⟨A, cap, rfl, _⟩ := ha
    obtain ⟨Ab, capb, rfl, _⟩ := hb
    exact ringFound_out A Ab La.length cap Lb.length capb vk x w (out_key _ _ _ hn)
end Go.Proofs.Ythhmodbggngelaa
