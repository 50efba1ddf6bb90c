/- Layer 14, plain: what is told of a time stays. -/
import Derived.Test.YtobddfpdijmgiaaSpBb
namespace Go.Proofs.Ytobddfpdijmgiaa
open Go.RowKit Go.Shelf
set_option linter.unusedVariables false
set_option linter.unusedSimpArgs false

def ct14 (t : Int) (x : Itm) : List Pq2 := if (at13 x.vs t).2 then [⟨x.k, (at13 x.vs t).1⟩] else []
/-- The pairs that items have at a time. -/
def row14 (I : List Itm) (t : Int) : List Pq2 := I.flatMap (ct14 t)
theorem at13_nil (t : Int) : at13 [] t = (ByteArray.empty, false) := rfl
theorem ct_nil {t : Int} {x : Itm} (h : at13 x.vs t = (ByteArray.empty, false)) : ct14 t x = [] := by unfold ct14; rw [h]; rfl
theorem fndI_cons (x : Itm) (l : List Itm) (k : ByteArray) : fndI (x :: l) k = if x.k.toList == k.toList then x.vs else fndI l k := by
  unfold fndI
  rw [List.find?_cons]
  cases h : (x.k.toList == k.toList) <;> simp
theorem fndI_none : ∀ {l : List Itm} {k : ByteArray}, (∀ y ∈ l, (y.k.toList == k.toList) = false) → fndI l k = []
  | [], k, _ => rfl
  | x :: l, k, h => by
    rw [fndI_cons, h x (by simp)]
    exact fndI_none (fun y hy => h y (by simp [hy]))
theorem key_eq14 {a b : ByteArray} (h : (a.toList == b.toList) = true) : a = b := by
  have e := eq_of_beq h
  rw [ByteArray.toList_eq, ByteArray.toList_eq] at e
  exact ba_ext e
theorem lt14_neq' {a b : ByteArray} (h : lt14 a b = true) : (b.toList == a.toList) = false := by
  rw [beq_eq_false_iff_ne]
  exact fun e => lt14_ne h e.symm
theorem row_insR {z : Itm} {t : Int} : ∀ (I : List Itm), risK (I.map (·.k)) → at13 z.vs t = at13 (fndI I z.k) t → row14 (insR z I) t = row14 I t
  | [], _, h => by
    have : ct14 t z = [] := ct_nil (h.trans (at13_nil t))
    simp [insR, row14, this]
  | x :: l, hr, h => by
    have hr2 := List.pairwise_cons.1 (show List.Pairwise (fun a b => lt14 a b = true) (x.k :: l.map (·.k)) from hr)
    rw [insR]
    cases h1 : lt14 x.k z.k with
    | true =>
      rw [if_pos rfl]
      rw [fndI_cons, lt14_neq h1] at h
      have ih := row_insR l hr2.2 h
      unfold row14 at ih ⊢
      rw [List.flatMap_cons, List.flatMap_cons, ih]
    | false =>
      simp only [Bool.false_eq_true, if_false]
      cases h2 : (x.k.toList == z.k.toList) with
      | true =>
        rw [if_pos rfl]
        rw [fndI_cons, h2] at h
        simp only [if_true] at h
        have e : ct14 t z = ct14 t x := by
          unfold ct14
          rw [h, key_eq14 h2]
        unfold row14
        rw [List.flatMap_cons, List.flatMap_cons, e]
      | false =>
        simp only [Bool.false_eq_true, if_false]
        have h3 : lt14 z.k x.k = true := by
          cases h4 : lt14 z.k x.k with
          | true => rfl
          | false =>
            have e := lt14_eq h1 h4
            rw [e] at h2
            simp at h2
        have h5 : fndI (x :: l) z.k = [] := fndI_none (fun y hy => by
          rcases List.mem_cons.1 hy with rfl | hy
          · exact h2
          · exact lt14_neq' (lt14_trans h3 (hr2.1 _ (List.mem_map.2 ⟨y, hy, rfl⟩))))
        rw [h5] at h
        have : ct14 t z = [] := ct_nil (h.trans (at13_nil t))
        unfold row14
        rw [List.flatMap_cons, this, List.nil_append]
/-- The same told of a time. -/
def Sm14 (I' I : List Itm) (t : Int) : Prop := row14 I' t = row14 I t ∧ ∀ k, at13 (fndI I' k) t = at13 (fndI I k) t
theorem Sm14.refl (I : List Itm) (t : Int) : Sm14 I I t := ⟨rfl, fun _ => rfl⟩
theorem Sm14.trans {A B C : List Itm} {t : Int} (h : Sm14 A B t) (k : Sm14 B C t) : Sm14 A C t := ⟨h.1.trans k.1, fun x => (h.2 x).trans (k.2 x)⟩
theorem sm_aplR {I0 : List Itm} {last t s : Int} (h : Wf I0 last) (h0 : 0 ≤ last) (h1 : last < t) (h2 : t ≤ 1152921504606846976) (hs : s ≤ last) : ∀ (n : Nat) (C : List Cg), C.length = n → (∀ x ∈ C, ok1 x = true) → Sm14 (aplR I0 t C) I0 s
  | 0, C, hn, _ => by
    obtain rfl := List.eq_nil_of_length_eq_zero hn
    exact Sm14.refl _ _
  | n + 1, C, hn, hC => by
    obtain ⟨C', x, rfl⟩ : ∃ C' x, C = C' ++ [x] := by
      have hne : C ≠ [] := fun e => by rw [e] at hn; simp at hn
      exact ⟨C.dropLast, C.getLast hne, (List.dropLast_concat_getLast hne).symm⟩
    rw [List.length_append, List.length_singleton] at hn
    have hC' : ∀ y ∈ C', ok1 y = true := fun y hy => hC y (by simp [hy])
    have ih := sm_aplR h h0 h1 h2 hs n C' (by omega) hC'
    have hw := (aplR_wf h h0 h1 h2 n C' (by omega) hC').1
    have hx := hC x (by simp)
    rw [aplR_snoc, add_ok h h0 h1 h2 hx]
    obtain ⟨g1, g2⟩ := fnd_wf h x.k
    have hd : Dn (⟨t, x.v, x.d⟩ :: fndI I0 x.k) := (chn_iff _).1 ((chn_cons _ _).2 ⟨ok1_rt hx (by omega) h2, fun y hy => by have := g2 y hy; show y.t < t; omega, g1⟩)
    have key : at13 (⟨t, x.v, x.d⟩ :: fndI I0 x.k) s = at13 (fndI I0 x.k) s := by
      rw [at13_of hd, at13_of ((chn_iff _).1 g1), fnd_cons, if_neg (by show ¬ t ≤ s; omega)]
    refine ⟨(row_insR _ hw.1 (key.trans (ih.2 _).symm)).trans ih.1, fun k => ?_⟩
    rw [fnd_insR]
    cases hk : (x.k.toList == k.toList) with
    | true =>
      rw [if_pos rfl]
      rw [← key_eq14 hk]
      exact key
    | false =>
      simp only [Bool.false_eq_true, if_false]
      exact ih.2 k
theorem at_vac {L : List Vn} (h : chn L = true) {m t : Int} (hm : m ≤ t) : at13 (vac13 L m) t = at13 L t := by
  have hd := (chn_iff L).1 h
  unfold vac13
  rw [if_pos h, at13_of (hd.sub (vacf_sub _ _)), at13_of hd, fnd_vac m t hd hm]
theorem vcm_cons (x : Itm) (l : List Itm) (m : Int) : vcm (x :: l) m = (if (vac13 x.vs m).isEmpty then [] else [⟨x.k, vac13 x.vs m⟩]) ++ vcm l m := by
  unfold vcm
  rw [List.map_cons, List.filter_cons]
  cases h : (vac13 x.vs m).isEmpty <;> simp [h]
theorem sm_vcm {m t : Int} (hm : m ≤ t) : ∀ (I : List Itm), risK (I.map (·.k)) → (∀ x ∈ I, chn x.vs = true) → Sm14 (vcm I m) I t
  | [], _, _ => Sm14.refl _ _
  | x :: l, hr, hc => by
    have hr2 := List.pairwise_cons.1 (show List.Pairwise (fun a b => lt14 a b = true) (x.k :: l.map (·.k)) from hr)
    have ih := sm_vcm hm l hr2.2 (fun y hy => hc y (by simp [hy]))
    have ha := at_vac (hc x (by simp)) hm
    rw [vcm_cons]
    cases he : (vac13 x.vs m).isEmpty with
    | true =>
      have e0 : vac13 x.vs m = [] := List.isEmpty_iff.1 he
      rw [e0, at13_nil] at ha
      simp only [if_true, List.nil_append]
      refine ⟨?_, fun k => ?_⟩
      · have := ct_nil ha.symm
        unfold row14
        rw [List.flatMap_cons, this, List.nil_append]
        exact ih.1
      · rw [fndI_cons]
        cases hk : (x.k.toList == k.toList) with
        | true =>
          rw [if_pos rfl, ← ha, ih.2 k]
          have : fndI l k = [] := fndI_none (fun y hy => by
            rw [← key_eq14 hk]
            exact lt14_neq' (hr2.1 _ (List.mem_map.2 ⟨y, hy, rfl⟩)))
          rw [this]
          rfl
        | false =>
          simp only [Bool.false_eq_true, if_false]
          exact ih.2 k
    | false =>
      simp only [Bool.false_eq_true, if_false, List.singleton_append]
      refine ⟨?_, fun k => ?_⟩
      · have e : ct14 t ⟨x.k, vac13 x.vs m⟩ = ct14 t x := by unfold ct14; rw [ha]
        have i1 := ih.1
        unfold row14 at i1 ⊢
        rw [List.flatMap_cons, List.flatMap_cons, e, i1]
      · rw [fndI_cons, fndI_cons]
        cases hk : (x.k.toList == k.toList) with
        | true => simp only [if_true]; exact ha
        | false => simp only [Bool.false_eq_true, if_false]; exact ih.2 k
theorem scl_row {M : List (Itm × Value)} (a b : ByteArray) (t : Int) : scl M a b t (-1) = (row14 (M.map (fun p : Itm × Value => p.1)) t).filter (fun p => win p.k a b) := by
  rw [scl_map14]
  have key : ∀ (I : List Itm) (acc : List Pq2), I.foldl (scsI a b t (-1)) acc = acc ++ (row14 I t).filter (fun p => win p.k a b) := by
    intro I
    induction I with
    | nil => intro acc; simp [row14]
    | cons x l ih =>
      intro acc
      rw [List.foldl_cons, ih]
      have : scsI a b t (-1) acc x = acc ++ (ct14 t x).filter (fun p => win p.k a b) := by
        unfold scsI ct14
        cases h1 : (at13 x.vs t).2 <;> cases h2 : win x.k a b <;> simp [h2]
      rw [this, List.append_assoc]
      unfold row14
      rw [List.flatMap_cons, List.filter_append]
  exact key _ []
end Go.Proofs.Ytobddfpdijmgiaa
