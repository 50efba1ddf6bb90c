/- Layer 14, plain: items behind changes. -/
import Derived.Test.YtjkfgbmlhglnfaaSpAb
import Derived.Test.YtjkfgbmlhglnfaaVcP
namespace Go.Proofs.Ytjkfgbmlhglnfaa
open Go.RowKit
set_option linter.unusedVariables false
set_option linter.unusedSimpArgs false

def insR (z : Itm) : List Itm → List Itm
  | [] => [z]
  | x :: l => if lt14 x.k z.k then x :: insR z l else if x.k.toList == z.k.toList then z :: l else z :: x :: l
theorem insI_cons_lt {α : Type} {x : Itm × α} {M : List (Itm × α)} {z : Itm × α} (h : lt14 x.1.k z.1.k = true) : insI (x :: M) z = x :: insI M z := by
  have hp : plK ((x :: M).map (fun p => p.1.k)) z.1.k = plK (M.map (fun p => p.1.k)) z.1.k + 1 := by
    unfold plK
    rw [List.map_cons, List.takeWhile_cons_of_pos (p := fun k => lt14 k z.1.k) h, List.length_cons]
  have hh : hasK ((x :: M).map (fun p => p.1.k)) z.1.k = hasK (M.map (fun p => p.1.k)) z.1.k := by
    unfold hasK
    rw [hp, List.map_cons, List.getElem?_cons_succ]
  unfold insI
  rw [hh, hp]
  split <;> simp
theorem insI_cons_ge {α : Type} {x : Itm × α} {M : List (Itm × α)} {z : Itm × α} (h : lt14 x.1.k z.1.k = false) : insI (x :: M) z = if x.1.k.toList == z.1.k.toList then z :: M else z :: x :: M := by
  have hp : plK ((x :: M).map (fun p => p.1.k)) z.1.k = 0 := by
    unfold plK
    rw [List.map_cons, List.takeWhile_cons_of_neg (by simp [h])]
    rfl
  have hh : hasK ((x :: M).map (fun p => p.1.k)) z.1.k = (x.1.k.toList == z.1.k.toList) := by
    unfold hasK
    rw [hp, List.map_cons, List.getElem?_cons_zero, Bool.eq_iff_iff]
    simp only [decide_eq_true_eq, beq_iff_eq, Option.some.injEq]
    exact ⟨fun e => by rw [e], fun e => by rw [ByteArray.toList_eq, ByteArray.toList_eq] at e; exact ba_ext e⟩
  unfold insI
  rw [hh, hp]
  simp
theorem insI_map (z : Itm × Value) : ∀ M : List (Itm × Value), (insI M z).map (fun p => p.1) = insR z.1 (M.map (fun p => p.1))
  | [] => rfl
  | x :: M => by
    rw [List.map_cons, insR]
    cases h : lt14 x.1.k z.1.k with
    | true => rw [insI_cons_lt h, List.map_cons, insI_map z M, if_pos rfl]
    | false =>
      rw [insI_cons_ge h]
      simp only [Bool.false_eq_true, if_false]
      cases (x.1.k.toList == z.1.k.toList) <;> rfl
theorem fold_laid (z : Itm) : ∀ (L : List Itm) (acc : List Itm), (∀ x ∈ L, (x.k.toList == z.k.toList) = false) → L.foldl (wstI z) (acc, true) = (acc ++ L, true)
  | [], acc, _ => by simp
  | x :: L, acc, h => by
    rw [List.foldl_cons]
    have h1 : wstI z (acc, true) x = (acc ++ [x], true) := by
      unfold wstI
      rw [h x (by simp)]
      simp
    rw [h1, fold_laid z L _ (fun y hy => h y (by simp [hy]))]
    simp
theorem lt14_neq {a b : ByteArray} (h : lt14 a b = true) : (a.toList == b.toList) = false := by
  rw [beq_eq_false_iff_ne]
  exact lt14_ne h
theorem fold_wst (z : Itm) : ∀ (L : List Itm) (acc : List Itm), risK (L.map (·.k)) → (if (L.foldl (wstI z) (acc, false)).2 then (L.foldl (wstI z) (acc, false)).1 else (L.foldl (wstI z) (acc, false)).1 ++ [z]) = acc ++ insR z L
  | [], acc, _ => rfl
  | x :: L, acc, hr => by
    obtain ⟨h1, h2⟩ := List.pairwise_cons.1 (show List.Pairwise (fun a b => lt14 a b = true) (x.k :: L.map (·.k)) from hr)
    rw [List.foldl_cons, insR]
    cases h : lt14 x.k z.k with
    | true =>
      have e : wstI z (acc, false) x = (acc ++ [x], false) := by
        unfold wstI
        rw [lt14_neq h, h]
        simp
      rw [e, fold_wst z L _ h2, if_pos rfl]
      simp
    | false =>
      cases hk : (x.k.toList == z.k.toList) with
      | true =>
        have e : wstI z (acc, false) x = (acc ++ [z], true) := by
          unfold wstI
          rw [hk, h]
          simp
        rw [e, fold_laid z L _ (fun y hy => ?_)]
        · simp
        · have hlt := h1 y.k (List.mem_map.2 ⟨y, hy, rfl⟩)
          have hkk : x.k = z.k := by
            have := eq_of_beq hk
            rw [ByteArray.toList_eq, ByteArray.toList_eq] at this
            exact ba_ext this
          rw [hkk] at hlt
          have := lt14_ne hlt
          rw [beq_eq_false_iff_ne]
          exact fun e => this e.symm
      | false =>
        have e : wstI z (acc, false) x = (acc ++ [z] ++ [x], true) := by
          unfold wstI
          rw [hk, h]
          simp
        rw [e, fold_laid z L _ (fun y hy => ?_)]
        · simp
        · have hlt := h1 y.k (List.mem_map.2 ⟨y, hy, rfl⟩)
          rw [beq_eq_false_iff_ne]
          intro e
          have hyz : y.k = z.k := by rw [ByteArray.toList_eq, ByteArray.toList_eq] at e; exact ba_ext e
          rw [hyz, h] at hlt
          cases hlt
theorem wth_ins {L : List Itm} (hr : risK (L.map (·.k))) {z : Itm} (hz : z.vs ≠ []) : wthI L z = insR z L := by
  unfold wthI
  have : z.vs.isEmpty = false := by
    cases h : z.vs with
    | nil => exact absurd h hz
    | cons a l => rfl
  rw [this]
  exact fold_wst z L [] hr
theorem ris_insR {L : List Itm} (hr : risK (L.map (·.k))) (z : Itm) : risK ((insR z L).map (·.k)) := by
  have hL : (L.map (fun x => ((x, Value.bool false) : Itm × Value))).map (fun p => p.1) = L := by
    rw [List.map_map]
    exact List.map_id L
  have h := ris_insI (M := L.map (fun x => ((x, Value.bool false) : Itm × Value))) (by unfold keysM; rw [List.map_map]; exact hr) (z, Value.bool false)
  have e : keysM (insI (L.map (fun x => ((x, Value.bool false) : Itm × Value))) (z, Value.bool false)) = (insR z L).map (·.k) := by
    have := congrArg (List.map (·.k)) (insI_map (z, Value.bool false) (L.map (fun x => ((x, Value.bool false) : Itm × Value))))
    rw [hL, List.map_map] at this
    exact this
  rw [e] at h
  exact h
theorem fnd_insR (z : Itm) (k : ByteArray) : ∀ L : List Itm, fndI (insR z L) k = if z.k.toList == k.toList then z.vs else fndI L k
  | [] => by
    unfold insR fndI
    rw [List.find?_cons]
    cases h : (z.k.toList == k.toList) <;> simp
  | x :: L => by
    have ih := fnd_insR z k L
    rw [insR]
    cases h : lt14 x.k z.k with
    | true =>
      rw [if_pos rfl]
      unfold fndI at ih ⊢
      rw [List.find?_cons, List.find?_cons]
      cases hx : (x.k.toList == k.toList) with
      | true =>
        have : (z.k.toList == k.toList) = false := by
          rw [beq_eq_false_iff_ne]
          intro e
          have := lt14_ne h
          rw [e] at this
          exact this (eq_of_beq hx)
        rw [this]
        rfl
      | false => exact ih
    | false =>
      rw [if_neg (by decide)]
      cases hk : (x.k.toList == z.k.toList) with
      | true =>
        rw [if_pos rfl]
        unfold fndI
        rw [List.find?_cons, List.find?_cons]
        have e : (x.k.toList == k.toList) = (z.k.toList == k.toList) := by rw [eq_of_beq hk]
        rw [e]
        cases (z.k.toList == k.toList) <;> rfl
      | false =>
        rw [if_neg (by decide)]
        unfold fndI
        rw [List.find?_cons]
        cases (z.k.toList == k.toList) <;> rfl
theorem mem_insR {z p : Itm} : ∀ {L : List Itm}, p ∈ insR z L → p = z ∨ p ∈ L
  | [], h => by simp [insR] at h; exact .inl h
  | x :: L, h => by
    rw [insR] at h
    split at h
    · rcases List.mem_cons.1 h with rfl | h
      · exact .inr (by simp)
      · rcases mem_insR h with h | h
        · exact .inl h
        · exact .inr (by simp [h])
    · split at h
      · rcases List.mem_cons.1 h with h | h
        · exact .inl h
        · exact .inr (by simp [h])
      · rcases List.mem_cons.1 h with h | h
        · exact .inl h
        · exact .inr h
/-- Items as a space has them. -/
def Wf (I : List Itm) (last : Int) : Prop := risK (I.map (·.k)) ∧ ∀ x ∈ I, fit14 x last = true
theorem fit_iff (x : Itm) (last : Int) : fit14 x last = true ↔ x.k.size ≤ 128 ∧ x.vs ≠ [] ∧ chn x.vs = true ∧ ∀ y, x.vs[0]? = some y → y.t ≤ last := by
  unfold fit14
  simp only [Bool.and_eq_true, decide_eq_true_eq, Bool.not_eq_true']
  constructor
  · rintro ⟨h1, h2, h3, h4⟩
    refine ⟨h1, fun e => by rw [e] at h2; simp at h2, h3, fun y hy => ?_⟩
    unfold snc at h4
    rw [h3, hy] at h4
    simp at h4
    exact h4
  · rintro ⟨h1, h2, h3, h4⟩
    refine ⟨h1, List.length_pos_iff.2 h2, h3, ?_⟩
    unfold snc
    rw [h3]
    cases hv : x.vs[0]? with
    | none => rfl
    | some y =>
      have := h4 y hv
      simp
      omega
theorem fit_mono {x : Itm} {a b : Int} (h : fit14 x a = true) (hab : a ≤ b) : fit14 x b = true := by
  rw [fit_iff] at h ⊢
  exact ⟨h.1, h.2.1, h.2.2.1, fun y hy => Int.le_trans (h.2.2.2 y hy) hab⟩
theorem fnd_wf {I : List Itm} {last : Int} (h : Wf I last) (k : ByteArray) : chn (fndI I k) = true ∧ ∀ y, (fndI I k)[0]? = some y → y.t ≤ last := by
  unfold fndI
  cases hf : I.find? (fun p => p.k.toList == k.toList) with
  | none => exact ⟨rfl, fun y hy => by simp at hy⟩
  | some p =>
    have := (fit_iff p last).1 (h.2 p (List.mem_of_find?_eq_some hf))
    exact ⟨this.2.2.1, this.2.2.2⟩
theorem ok1_rt {x : Cg} (h : ok1 x = true) {t : Int} (h1 : 1 ≤ t) (h2 : t ≤ 1152921504606846976) : rt ⟨t, x.v, x.d⟩ = true := by
  unfold ok1 at h
  unfold rt
  simp only [Bool.and_eq_true, decide_eq_true_eq, Bool.or_eq_true, Bool.not_eq_true'] at h ⊢
  refine ⟨⟨h1, h2⟩, h.2.1, fun hd => ?_⟩
  rcases h.2.2 with h3 | h3
  · rw [hd] at h3; cases h3
  · exact (nil_size _).1 (List.isEmpty_iff.1 h3)
theorem add_ok {I : List Itm} {last t : Int} (h : Wf I last) (h0 : 0 ≤ last) (h1 : last < t) (h2 : t ≤ 1152921504606846976) {x : Cg} (hx : ok1 x = true) : add13 (fndI I x.k) ⟨t, x.v, x.d⟩ = (⟨t, x.v, x.d⟩ :: fndI I x.k, 0) := by
  obtain ⟨g1, g2⟩ := fnd_wf h x.k
  unfold add13
  rw [g1, ok1_rt hx (by omega) h2]
  simp only [if_true]
  cases hv : fndI I x.k with
  | nil => rfl
  | cons y l =>
    have := g2 y (by rw [hv]; rfl)
    simp only
    rw [if_neg (by omega)]
theorem add_fit {I : List Itm} {last t : Int} (h : Wf I last) (h0 : 0 ≤ last) (h1 : last < t) (h2 : t ≤ 1152921504606846976) {x : Cg} (hx : ok1 x = true) : fit14 ⟨x.k, (add13 (fndI I x.k) ⟨t, x.v, x.d⟩).1⟩ t = true := by
  rw [add_ok h h0 h1 h2 hx, fit_iff]
  obtain ⟨g1, g2⟩ := fnd_wf h x.k
  refine ⟨?_, by simp, (chn_cons _ _).2 ⟨ok1_rt hx (by omega) h2, fun y hy => ?_, g1⟩, fun y hy => ?_⟩
  · unfold ok1 at hx
    simp only [Bool.and_eq_true, decide_eq_true_eq] at hx
    exact hx.1
  · have := g2 y hy
    show y.t < t
    omega
  · simp at hy
    subst hy
    exact Int.le_refl _
/-- Items behind changes. -/
def aplR (I0 : List Itm) (t : Int) (C : List Cg) : List Itm := C.foldl (fun I x => insR ⟨x.k, (add13 (fndI I0 x.k) ⟨t, x.v, x.d⟩).1⟩ I) I0
theorem aplR_snoc (I0 : List Itm) (t : Int) (C : List Cg) (x : Cg) : aplR I0 t (C ++ [x]) = insR ⟨x.k, (add13 (fndI I0 x.k) ⟨t, x.v, x.d⟩).1⟩ (aplR I0 t C) := by
  unfold aplR
  rw [List.foldl_append]
  rfl
theorem apl_snoc (I0 : List Itm) (t : Int) (C : List Cg) (x : Cg) : apl I0 t (C ++ [x]) = wthI (apl I0 t C) ⟨x.k, (add13 (fndI I0 x.k) ⟨t, x.v, x.d⟩).1⟩ := by
  unfold apl
  rw [List.foldl_append]
  rfl
theorem aplR_wf {I0 : List Itm} {last t : Int} (h : Wf I0 last) (h0 : 0 ≤ last) (h1 : last < t) (h2 : t ≤ 1152921504606846976) : ∀ (n : Nat) (C : List Cg), C.length = n → (∀ x ∈ C, ok1 x = true) → Wf (aplR I0 t C) t ∧ apl I0 t C = aplR I0 t C
  | 0, C, hn, _ => by
    obtain rfl := List.eq_nil_of_length_eq_zero hn
    exact ⟨⟨h.1, fun x hx => fit_mono (h.2 x hx) (by omega)⟩, rfl⟩
  | n + 1, C, hn, hC => by
    obtain ⟨C', x, rfl⟩ : ∃ C' x, C = C' ++ [x] := by
      have hne : C ≠ [] := fun e => by rw [e] at hn; simp at hn
      exact ⟨C.dropLast, C.getLast hne, (List.dropLast_concat_getLast hne).symm⟩
    rw [List.length_append, List.length_singleton] at hn
    obtain ⟨g1, g2⟩ := aplR_wf h h0 h1 h2 n C' (by omega) (fun y hy => hC y (by simp [hy]))
    have hx := hC x (by simp)
    have hf := add_fit h h0 h1 h2 hx
    refine ⟨⟨by rw [aplR_snoc]; exact ris_insR g1.1 _, fun y hy => ?_⟩, ?_⟩
    · rw [aplR_snoc] at hy
      rcases mem_insR hy with rfl | hy
      · exact hf
      · exact g1.2 y hy
    · rw [aplR_snoc, apl_snoc, g2]
      exact wth_ins g1.1 ((fit_iff _ _).1 hf).2.1
theorem fnd_aplR (I0 : List Itm) (t : Int) (k : ByteArray) : ∀ (n : Nat) (C : List Cg), C.length = n → C.any (fun y => y.k.toList == k.toList) = false → fndI (aplR I0 t C) k = fndI I0 k
  | 0, C, hn, _ => by
    obtain rfl := List.eq_nil_of_length_eq_zero hn
    rfl
  | n + 1, C, hn, hC => by
    obtain ⟨C', x, rfl⟩ : ∃ C' x, C = C' ++ [x] := by
      have hne : C ≠ [] := fun e => by rw [e] at hn; simp at hn
      exact ⟨C.dropLast, C.getLast hne, (List.dropLast_concat_getLast hne).symm⟩
    rw [List.length_append, List.length_singleton] at hn
    rw [List.any_append, Bool.or_eq_false_iff] at hC
    rw [aplR_snoc, fnd_insR, fnd_aplR I0 t k n C' (by omega) hC.1]
    have : (x.k.toList == k.toList) = false := by simpa using hC.2
    rw [this]
    rfl
end Go.Proofs.Ytjkfgbmlhglnfaa
