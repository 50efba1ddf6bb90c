/- Layer 15, plain: the changes by which two rows differ. -/
import Derived.Test.YtobddfpdijmgiaaBtJ
namespace Go.Proofs.Ytobddfpdijmgiaa
open Go.RowKit Go.Shelf
set_option linter.unusedVariables false
set_option linter.unusedSimpArgs false

theorem delC_k (x : Pq2) : (delC x).k = x.k := rfl
theorem putC_k (x : Pq2) : (putC x).k = x.k := rfl
/-- Of each change: what it does, and why. -/
theorem dif_mem : ∀ (n : Nat) (a b : List Pq2), a.length + b.length ≤ n → RisP a → RisP b → ∀ c ∈ dif a b, (∃ x ∈ a, c = delC x ∧ ∀ y ∈ b, (y.k.toList == x.k.toList) = false) ∨ (∃ y ∈ b, c = putC y ∧ ∀ x ∈ a, (x.k.toList == y.k.toList) = true → (x.v.toList == y.v.toList) = false) := by
  intro n
  induction n with
  | zero =>
    intro a b h _ _ c hc
    have ha : a = [] := List.eq_nil_of_length_eq_zero (by omega)
    have hb : b = [] := List.eq_nil_of_length_eq_zero (by omega)
    subst ha hb
    rw [dif_nil] at hc
    simp at hc
  | succ n ih =>
    intro a b h ha hb c hc
    cases a with
    | nil =>
      rw [dif_nil] at hc
      obtain ⟨y, hy, rfl⟩ := List.mem_map.1 hc
      exact .inr ⟨y, hy, rfl, fun x hx => by cases hx⟩
    | cons x a =>
      cases b with
      | nil =>
        rw [dif_nil2] at hc
        obtain ⟨z, hz, rfl⟩ := List.mem_map.1 hc
        exact .inl ⟨z, hz, rfl, fun y hy => by cases hy⟩
      | cons y b =>
        simp only [List.length_cons] at h
        have ha2 := List.pairwise_cons.1 ha
        have hb2 := List.pairwise_cons.1 hb
        rw [dif_cons] at hc
        cases h1 : lt14 x.k y.k with
        | true =>
          rw [h1, if_pos rfl] at hc
          rcases List.mem_cons.1 hc with rfl | hc
          · refine .inl ⟨x, by simp, rfl, fun z hz => ?_⟩
            rcases List.mem_cons.1 hz with rfl | hz
            · exact neqP h1
            · exact neqP (lt14_trans h1 (hb2.1 z hz))
          · rcases ih a (y :: b) (by simp only [List.length_cons]; omega) ha2.2 hb c hc with ⟨z, hz, e, hn⟩ | ⟨z, hz, e, hn⟩
            · exact .inl ⟨z, by simp [hz], e, hn⟩
            · refine .inr ⟨z, hz, e, fun q hq hk => ?_⟩
              rcases List.mem_cons.1 hq with rfl | hq
              · exfalso
                have : lt14 q.k z.k = true := by
                  rcases List.mem_cons.1 hz with rfl | hz
                  · exact h1
                  · exact lt14_trans h1 (hb2.1 z hz)
                rw [lt14_neq this] at hk
                cases hk
              · exact hn q hq hk
        | false =>
          rw [h1] at hc
          simp only [Bool.false_eq_true, if_false] at hc
          cases h2 : lt14 y.k x.k with
          | true =>
            rw [h2, if_pos rfl] at hc
            have hgt : ∀ z ∈ (x :: a), lt14 y.k z.k = true := fun z hz => by
              rcases List.mem_cons.1 hz with rfl | hz
              · exact h2
              · exact lt14_trans h2 (ha2.1 z hz)
            rcases List.mem_cons.1 hc with rfl | hc
            · refine .inr ⟨y, by simp, rfl, fun z hz hk => ?_⟩
              rw [neqP (hgt z hz)] at hk
              cases hk
            · rcases ih (x :: a) b (by simp only [List.length_cons]; omega) ha hb2.2 c hc with ⟨z, hz, e, hn⟩ | ⟨z, hz, e, hn⟩
              · refine .inl ⟨z, hz, e, fun q hq => ?_⟩
                rcases List.mem_cons.1 hq with rfl | hq
                · exact lt14_neq (hgt z hz)
                · exact hn q hq
              · exact .inr ⟨z, by simp [hz], e, hn⟩
          | false =>
            rw [h2] at hc
            simp only [Bool.false_eq_true, if_false] at hc
            have ek : x.k = y.k := lt14_eq h1 h2
            rcases List.mem_append.1 hc with hc | hc
            · cases hv : (x.v.toList == y.v.toList) with
              | true => rw [hv] at hc; simp at hc
              | false =>
                rw [hv] at hc
                simp at hc
                subst hc
                refine .inr ⟨y, by simp, rfl, fun z hz hk => ?_⟩
                rcases List.mem_cons.1 hz with rfl | hz
                · exact hv
                · have := ha2.1 z hz
                  rw [ek] at this
                  rw [neqP this] at hk
                  cases hk
            · rcases ih a b (by omega) ha2.2 hb2.2 c hc with ⟨z, hz, e, hn⟩ | ⟨z, hz, e, hn⟩
              · refine .inl ⟨z, by simp [hz], e, fun q hq => ?_⟩
                rcases List.mem_cons.1 hq with rfl | hq
                · have := ha2.1 z hz
                  rw [ek] at this
                  exact lt14_neq this
                · exact hn q hq
              · refine .inr ⟨z, by simp [hz], e, fun q hq hk => ?_⟩
                rcases List.mem_cons.1 hq with rfl | hq
                · have := hb2.1 z hz
                  rw [← ek] at this
                  rw [lt14_neq this] at hk
                  cases hk
                · exact hn q hq hk
theorem dif_key {a b : List Pq2} (ha : RisP a) (hb : RisP b) {c : Cg} (hc : c ∈ dif a b) : (∃ x ∈ a, c.k = x.k) ∨ ∃ y ∈ b, c.k = y.k := by
  rcases dif_mem _ a b (Nat.le_refl _) ha hb c hc with ⟨x, hx, rfl, _⟩ | ⟨y, hy, rfl, _⟩
  · exact .inl ⟨x, hx, rfl⟩
  · exact .inr ⟨y, hy, rfl⟩
def RisC (L : List Cg) : Prop := L.Pairwise (fun a b => lt14 a.k b.k = true)
theorem dif_ris : ∀ (n : Nat) (a b : List Pq2), a.length + b.length ≤ n → RisP a → RisP b → RisC (dif a b) := by
  intro n
  induction n with
  | zero =>
    intro a b h _ _
    have ha : a = [] := List.eq_nil_of_length_eq_zero (by omega)
    have hb : b = [] := List.eq_nil_of_length_eq_zero (by omega)
    subst ha hb
    rw [dif_nil]
    exact List.Pairwise.nil
  | succ n ih =>
    intro a b h ha hb
    cases a with
    | nil => rw [dif_nil]; exact List.pairwise_map.2 hb
    | cons x a =>
      cases b with
      | nil => rw [dif_nil2]; exact List.pairwise_map.2 ha
      | cons y b =>
        simp only [List.length_cons] at h
        have ha2 := List.pairwise_cons.1 ha
        have hb2 := List.pairwise_cons.1 hb
        rw [dif_cons]
        cases h1 : lt14 x.k y.k with
        | true =>
          rw [if_pos rfl]
          refine List.pairwise_cons.2 ⟨fun c hc => ?_, ih a (y :: b) (by simp only [List.length_cons]; omega) ha2.2 hb⟩
          rcases dif_key ha2.2 hb hc with ⟨z, hz, e⟩ | ⟨z, hz, e⟩
          · rw [e]; exact ha2.1 z hz
          · rw [e]
            rcases List.mem_cons.1 hz with rfl | hz
            · exact h1
            · exact lt14_trans h1 (hb2.1 z hz)
        | false =>
          simp only [Bool.false_eq_true, if_false]
          cases h2 : lt14 y.k x.k with
          | true =>
            rw [if_pos rfl]
            refine List.pairwise_cons.2 ⟨fun c hc => ?_, ih (x :: a) b (by simp only [List.length_cons]; omega) ha hb2.2⟩
            rcases dif_key ha hb2.2 hc with ⟨z, hz, e⟩ | ⟨z, hz, e⟩
            · rw [e]
              rcases List.mem_cons.1 hz with rfl | hz
              · exact h2
              · exact lt14_trans h2 (ha2.1 z hz)
            · rw [e]; exact hb2.1 z hz
          | false =>
            simp only [Bool.false_eq_true, if_false]
            have ek : x.k = y.k := lt14_eq h1 h2
            have hr := ih a b (by omega) ha2.2 hb2.2
            cases hv : (x.v.toList == y.v.toList) with
            | true => simpa using hr
            | false =>
              simp only [Bool.false_eq_true, if_false, List.singleton_append]
              refine List.pairwise_cons.2 ⟨fun c hc => ?_, hr⟩
              rcases dif_key ha2.2 hb2.2 hc with ⟨z, hz, e⟩ | ⟨z, hz, e⟩
              · rw [e]
                have := ha2.1 z hz
                rw [ek] at this
                exact this
              · rw [e]; exact hb2.1 z hz
theorem dif_self : ∀ (a : List Pq2), dif a a = []
  | [] => by rw [dif_nil]; rfl
  | x :: a => by rw [dif_same rfl rfl, dif_self a]
theorem ins_mid {z : Pq2} : ∀ {P Q : List Pq2}, (∀ x ∈ P, lt14 x.k z.k = true) → insP z (P ++ Q) = P ++ insP z Q
  | [], Q, _ => rfl
  | x :: P, Q, h => by
    rw [List.cons_append, insP, h x (by simp), if_pos rfl, ins_mid (fun y hy => h y (by simp [hy]))]
    rfl
theorem drp_mid {k : ByteArray} {P Q : List Pq2} {x : Pq2} (hk : x.k = k) (hP : ∀ y ∈ P, lt14 y.k k = true) (hQ : ∀ y ∈ Q, lt14 k y.k = true) : drpP (P ++ x :: Q) k = P ++ Q := by
  unfold drpP
  rw [List.filter_append, List.filter_cons]
  rw [List.filter_eq_self.2 (fun y hy => by rw [lt14_neq (hP y hy)]; rfl), List.filter_eq_self.2 (fun y hy => by rw [neqP (hQ y hy)]; rfl)]
  rw [hk]
  simp
theorem dif_does : ∀ (n : Nat) (P a b : List Pq2), a.length + b.length ≤ n → RisP (P ++ a) → RisP (P ++ b) → (dif a b).foldl chgP (P ++ a) = P ++ b := by
  intro n
  induction n with
  | zero =>
    intro P a b h _ _
    have ha : a = [] := List.eq_nil_of_length_eq_zero (by omega)
    have hb : b = [] := List.eq_nil_of_length_eq_zero (by omega)
    subst ha hb
    rw [dif_nil]
    rfl
  | succ n ih =>
    intro P a b h ha hb
    have pa := List.pairwise_append.1 ha
    have pb := List.pairwise_append.1 hb
    have next : ∀ (y : Pq2) (c d : List Pq2), c.length + d.length ≤ n → RisP (P ++ y :: c) → RisP (P ++ y :: d) → (dif c d).foldl chgP (P ++ y :: c) = P ++ y :: d := fun y c d hl h1 h2 => by
      have := ih (P ++ [y]) c d hl (by rw [List.append_assoc]; exact h1) (by rw [List.append_assoc]; exact h2)
      rw [List.append_assoc, List.append_assoc] at this
      exact this
    cases a with
    | nil =>
      cases b with
      | nil => rw [dif_nil]; rfl
      | cons y b =>
        simp only [List.length_cons, List.length_nil] at h
        rw [dif_nil, List.map_cons, List.foldl_cons]
        have e : chgP (P ++ []) (putC y) = P ++ [y] := by
          unfold chgP
          simp only [putC, Bool.false_eq_true, if_false]
          rw [put_ins ha, ins_mid (fun x hx => pb.2.2 x hx y (by simp))]
          rfl
        rw [e, ← dif_nil]
        exact next y [] b (by simp; omega) (List.pairwise_append.2 ⟨pa.1, by simp, fun x hx z hz => by simp at hz; subst hz; exact pb.2.2 x hx z (by simp)⟩) hb
    | cons x a =>
      have pa2 := List.pairwise_cons.1 pa.2.1
      have hPx : ∀ z ∈ P, lt14 z.k x.k = true := fun z hz => pa.2.2 z hz x (by simp)
      have hPa : RisP (P ++ a) := List.pairwise_append.2 ⟨pa.1, pa2.2, fun z hz q hq => pa.2.2 z hz q (by simp [hq])⟩
      have edel : chgP (P ++ x :: a) (delC x) = P ++ a := by
        unfold chgP
        simp only [delC, if_true]
        exact drp_mid rfl hPx pa2.1
      cases b with
      | nil =>
        simp only [List.length_cons, List.length_nil] at h
        rw [dif_nil2, List.map_cons, List.foldl_cons, edel, ← dif_nil2]
        exact ih P a [] (by simp; omega) hPa hb
      | cons y b =>
        simp only [List.length_cons] at h
        have pb2 := List.pairwise_cons.1 pb.2.1
        have hPy : ∀ z ∈ P, lt14 z.k y.k = true := fun z hz => pb.2.2 z hz y (by simp)
        rw [dif_cons]
        cases h1 : lt14 x.k y.k with
        | true =>
          rw [if_pos rfl, List.foldl_cons, edel]
          exact ih P a (y :: b) (by simp only [List.length_cons]; omega) hPa hb
        | false =>
          simp only [Bool.false_eq_true, if_false]
          cases h2 : lt14 y.k x.k with
          | true =>
            rw [if_pos rfl, List.foldl_cons]
            have e : chgP (P ++ x :: a) (putC y) = P ++ y :: (x :: a) := by
              unfold chgP
              simp only [putC, Bool.false_eq_true, if_false]
              rw [put_ins ha, ins_mid hPy, insP]
              try simp only
              rw [h1, neqP h2]
              rfl
            rw [e]
            refine next y (x :: a) b (by simp only [List.length_cons]; omega) (List.pairwise_append.2 ⟨pa.1, List.pairwise_cons.2 ⟨fun z hz => ?_, pa.2.1⟩, fun z hz q hq => ?_⟩) hb
            · rcases List.mem_cons.1 hz with rfl | hz
              · exact h2
              · exact lt14_trans h2 (pa2.1 z hz)
            · rcases List.mem_cons.1 hq with rfl | hq
              · exact hPy z hz
              · exact pa.2.2 z hz q hq
          | false =>
            simp only [Bool.false_eq_true, if_false]
            have ek : x.k = y.k := lt14_eq h1 h2
            have hya : RisP (P ++ y :: a) := List.pairwise_append.2 ⟨pa.1, List.pairwise_cons.2 ⟨fun z hz => by rw [← ek]; exact pa2.1 z hz, pa2.2⟩, fun z hz q hq => by
              rcases List.mem_cons.1 hq with rfl | hq
              · exact hPy z hz
              · exact pa.2.2 z hz q (by simp [hq])⟩
            cases hv : (x.v.toList == y.v.toList) with
            | true =>
              simp only [if_true, List.nil_append]
              have e : x = y := by
                obtain ⟨xk, xv⟩ := x
                obtain ⟨yk, yv⟩ := y
                simp only at ek hv
                rw [ek, key_eq15 hv]
              subst e
              exact next x a b (by omega) ha hb
            | false =>
              simp only [Bool.false_eq_true, if_false, List.singleton_append, List.foldl_cons]
              have e : chgP (P ++ x :: a) (putC y) = P ++ y :: a := by
                unfold chgP
                simp only [putC, Bool.false_eq_true, if_false]
                rw [put_ins ha, ins_mid hPy, insP]
                try simp only
                rw [h1, ek]
                simp
              rw [e]
              exact next y a b (by omega) hya hb
theorem getP_ris {L : List Pq2} (hr : RisP L) {x : Pq2} (hx : x ∈ L) {k : ByteArray} (hk : (x.k.toList == k.toList) = true) : getP L k = (x.v, 0) := by
  obtain ⟨i, hi⟩ := List.getElem?_of_mem hx
  refine getP_at hi hk (fun j z hj hz => ?_)
  have h1 := (List.getElem?_eq_some_iff.1 hi).1
  have h2 := (List.getElem?_eq_some_iff.1 hz).1
  have := List.pairwise_iff_getElem.1 hr j i h2 h1 hj
  rw [(List.getElem?_eq_some_iff.1 hz).2, (List.getElem?_eq_some_iff.1 hi).2, key_eq15 hk] at this
  exact lt14_neq this
theorem getP_cases (L : List Pq2) (k : ByteArray) : ((getP L k) = (ByteArray.empty, 7) ∧ ∀ x ∈ L, (x.k.toList == k.toList) = false) ∨ ∃ x ∈ L, (x.k.toList == k.toList) = true ∧ getP L k = (x.v, 0) := by
  unfold getP
  cases h : L.find? (fun p => p.k.toList == k.toList) with
  | none => exact .inl ⟨rfl, fun x hx => by simpa using List.find?_eq_none.1 h x hx⟩
  | some p => exact .inr ⟨p, List.mem_of_find?_eq_some h, by simpa using List.find?_some h, rfl⟩
/-- What the statement asks of each change. -/
theorem dif_asks {a b : List Pq2} (ha : RisP a) (hb : RisP b) {c : Cg} (hc : c ∈ dif a b) :
    (c.d = true ∧ (getP a c.k).2 = 0 ∧ (getP b c.k).2 = 7) ∨ (c.d = false ∧ getP b c.k = (c.v, 0) ∧ (getP a c.k).2 = 7) ∨ (c.d = false ∧ getP b c.k = (c.v, 0) ∧ (getP a c.k).2 = 0 ∧ ((getP a c.k).1.toList == c.v.toList) = false) := by
  rcases dif_mem _ a b (Nat.le_refl _) ha hb c hc with ⟨x, hx, rfl, hn⟩ | ⟨y, hy, rfl, hn⟩
  · refine .inl ⟨rfl, ?_, ?_⟩
    · rw [getP_ris ha hx (k := (delC x).k) (by simp [delC])]
    · show (getP b x.k).2 = 7
      rw [getP_no (fun j z hz => hn z (List.mem_of_getElem? hz))]
  · have hy2 : getP b (putC y).k = ((putC y).v, 0) := getP_ris hb hy (k := (putC y).k) (by simp [putC])
    rcases getP_cases a (putC y).k with ⟨e, _⟩ | ⟨x, hx, hk, e⟩
    · exact .inr (.inl ⟨rfl, hy2, by rw [e]⟩)
    · exact .inr (.inr ⟨rfl, hy2, by rw [e], by rw [e]; exact hn x hx hk⟩)
/-- Pairs that fit. -/
def FitP (L : List Pq2) : Prop := ∀ x ∈ L, x.k.size ≤ 128 ∧ x.v.size ≤ 200
theorem dif_fit {a b : List Pq2} (ha : RisP a) (hb : RisP b) (fa : FitP a) (fb : FitP b) : ∀ c ∈ dif a b, c.k.size ≤ 128 ∧ c.v.size ≤ 200 := fun c hc => by
  rcases dif_mem _ a b (Nat.le_refl _) ha hb c hc with ⟨x, hx, rfl, _⟩ | ⟨y, hy, rfl, _⟩
  · exact ⟨(fa x hx).1, by simp [delC, ByteArray.size]⟩
  · exact fb y hy
/-- Put one behind the other; what is too long, not. -/
def srt15 (L : List Pq2) : List Pq2 := L.foldl (fun S x => if x.k.size ≤ 128 ∧ x.v.size ≤ 200 then putP S x else S) []
theorem srt_all : ∀ (L S : List Pq2), RisP S → FitP S → RisP (L.foldl (fun S x => if x.k.size ≤ 128 ∧ x.v.size ≤ 200 then putP S x else S) S) ∧ FitP (L.foldl (fun S x => if x.k.size ≤ 128 ∧ x.v.size ≤ 200 then putP S x else S) S) ∧ (L.foldl (fun S x => if x.k.size ≤ 128 ∧ x.v.size ≤ 200 then putP S x else S) S).length ≤ S.length + L.length
  | [], S, h1, h2 => ⟨h1, h2, Nat.le_refl _⟩
  | x :: L, S, h1, h2 => by
    rw [List.foldl_cons, List.length_cons]
    by_cases h : x.k.size ≤ 128 ∧ x.v.size ≤ 200
    · rw [if_pos h]
      have hl := put_len S x
      obtain ⟨g1, g2, g3⟩ := srt_all L (putP S x) (by rw [put_ins h1]; exact insP_ris h1) (fun p hp => by
        rcases put_mem hp with rfl | hp
        · exact h
        · exact h2 p hp)
      exact ⟨g1, g2, by omega⟩
    · rw [if_neg h]
      obtain ⟨g1, g2, g3⟩ := srt_all L S h1 h2
      exact ⟨g1, g2, by omega⟩
end Go.Proofs.Ytobddfpdijmgiaa
