/- Layer 14, plain: what is told of a time is what the changes make. -/
import Derived.Test.YtobddfpdijmgiaaTrC
import Derived.Test.YtobddfpdijmgiaaSpBj
import Derived.Test.YtobddfpdijmgiaaSpBc
import Derived.Test.YtobddfpdijmgiaaSpBi
namespace Go.Proofs.Ytobddfpdijmgiaa
open Go.RowKit Go.Shelf
set_option linter.unusedVariables false
set_option linter.unusedSimpArgs false

theorem ct_key {t : Int} {x : Itm} {p : Pq2} (h : p ∈ ct14 t x) : p.k = x.k := by
  unfold ct14 at h
  split at h
  · simp at h; rw [h]
  · simp at h
theorem row_mem {t : Int} {I : List Itm} {p : Pq2} (h : p ∈ row14 I t) : ∃ x ∈ I, p.k = x.k := by
  unfold row14 at h
  obtain ⟨x, hx, h⟩ := List.mem_flatMap.1 h
  exact ⟨x, hx, ct_key h⟩
theorem row_cons (x : Itm) (l : List Itm) (t : Int) : row14 (x :: l) t = ct14 t x ++ row14 l t := by
  unfold row14
  rw [List.flatMap_cons]
theorem row_ris {t : Int} : ∀ {I : List Itm}, risK (I.map (·.k)) → RisP (row14 I t)
  | [], _ => List.Pairwise.nil
  | x :: l, hr => by
    have hr2 := List.pairwise_cons.1 (show List.Pairwise (fun a b => lt14 a b = true) (x.k :: l.map (·.k)) from hr)
    rw [row_cons]
    refine List.pairwise_append.2 ⟨?_, row_ris hr2.2, fun a ha b hb => ?_⟩
    · unfold ct14
      split <;> simp
    · rw [ct_key ha]
      obtain ⟨y, hy, e⟩ := row_mem hb
      rw [e]
      exact hr2.1 _ (List.mem_map.2 ⟨y, hy, rfl⟩)
theorem row_len {t : Int} : ∀ (I : List Itm), (row14 I t).length ≤ I.length
  | [] => Nat.le_refl _
  | x :: l => by
    rw [row_cons, List.length_append, List.length_cons]
    have h1 : (ct14 t x).length ≤ 1 := by unfold ct14; split <;> simp
    have := row_len (t := t) l
    omega
theorem drp_none {L : List Pq2} {k : ByteArray} (h : ∀ p ∈ L, (p.k.toList == k.toList) = false) : drpP L k = L := by
  unfold drpP
  rw [List.filter_eq_self]
  intro p hp
  simp [h p hp]
theorem drp_app (A B : List Pq2) (k : ByteArray) : drpP (A ++ B) k = drpP A k ++ drpP B k := List.filter_append ..
/-- A version ahead of all of a key's: what it has then. -/
theorem row_ins {z : Itm} {v : ByteArray} {d : Bool} {t : Int} (hz : at13 z.vs t = (v, !d)) : ∀ (I : List Itm), risK (I.map (·.k)) → row14 (insR z I) t = if d then drpP (row14 I t) z.k else insP ⟨z.k, v⟩ (row14 I t)
  | [], _ => by
    rw [insR, row_cons]
    unfold ct14
    rw [hz]
    cases d <;> simp [row14, drpP, insP]
  | x :: l, hr => by
    have hr2 := List.pairwise_cons.1 (show List.Pairwise (fun a b => lt14 a b = true) (x.k :: l.map (·.k)) from hr)
    have hct : ct14 t z = if d then [] else [⟨z.k, v⟩] := by unfold ct14; rw [hz]; cases d <;> simp
    rw [insR]
    cases h1 : lt14 x.k z.k with
    | true =>
      rw [if_pos rfl, row_cons, row_ins hz l hr2.2, row_cons]
      cases d with
      | true =>
        simp only [if_true]
        rw [drp_app, drp_none (L := ct14 t x) (fun p hp => by rw [ct_key hp]; exact lt14_neq h1)]
      | false =>
        simp only [Bool.false_eq_true, if_false]
        unfold ct14
        split
        · rw [List.singleton_append, List.singleton_append, insP]
          simp only
          rw [h1, if_pos rfl]
        · rfl
    | false =>
      simp only [Bool.false_eq_true, if_false]
      have hgt : lt14 z.k x.k = true ∨ x.k = z.k := by
        cases h4 : lt14 z.k x.k with
        | true => exact .inl rfl
        | false => exact .inr (lt14_eq h1 h4)
      have hl : ∀ p ∈ row14 l t, lt14 z.k p.k = true := fun p hp => by
        obtain ⟨y, hy, e⟩ := row_mem hp
        rw [e]
        have h5 := hr2.1 _ (List.mem_map.2 ⟨y, hy, rfl⟩)
        rcases hgt with h | h
        · exact lt14_trans h h5
        · rw [← h]; exact h5
      cases h2 : (x.k.toList == z.k.toList) with
      | true =>
        rw [if_pos rfl, row_cons, row_cons, hct]
        have e := key_eq14 h2
        cases d with
        | true =>
          simp only [if_true, List.nil_append]
          rw [drp_app, drp_none (L := row14 l t) (fun p hp => lt14_neq' (hl p hp))]
          have : drpP (ct14 t x) z.k = [] := by
            unfold drpP
            rw [List.filter_eq_nil_iff]
            intro p hp
            rw [ct_key hp, h2]
            decide
          rw [this, List.nil_append]
        | false =>
          simp only [Bool.false_eq_true, if_false]
          unfold ct14
          split
          · rw [List.singleton_append, List.singleton_append, insP]
            simp only
            rw [h1, h2]
            rfl
          · rw [List.nil_append, insP_head hl]
            rfl
      | false =>
        simp only [Bool.false_eq_true, if_false]
        have h3 : lt14 z.k x.k = true := by
          rcases hgt with h | h
          · exact h
          · rw [h] at h2; simp at h2
        have hl2 : ∀ p ∈ ct14 t x ++ row14 l t, lt14 z.k p.k = true := fun p hp => by
          rcases List.mem_append.1 hp with hp | hp
          · rw [ct_key hp]; exact h3
          · exact hl p hp
        rw [row_cons, row_cons, hct]
        cases d with
        | true =>
          simp only [if_true, List.nil_append]
          exact (drp_none (fun p hp => lt14_neq' (hl2 p hp))).symm
        | false =>
          simp only [Bool.false_eq_true, if_false]
          rw [insP_head hl2]
          rfl
/-- Behind a batch there is what its changes make of what there was. -/
theorem row_apl {I0 : List Itm} {last t s : Int} (h : Wf I0 last) (h0 : 0 ≤ last) (h1 : last < t) (h2 : t ≤ 1152921504606846976) (hs : t ≤ s) : ∀ (n : Nat) (C : List Cg), C.length = n → (∀ x ∈ C, ok1 x = true) → row14 (aplR I0 t C) s = C.foldl chgP (row14 I0 s)
  | 0, C, hn, _ => by
    obtain rfl := List.eq_nil_of_length_eq_zero hn
    rfl
  | n + 1, C, hn, hC => by
    obtain ⟨C', x, rfl⟩ : ∃ C' x, C = C' ++ [x] := by
      have hne : C ≠ [] := fun e => by rw [e] at hn; simp at hn
      exact ⟨C.dropLast, C.getLast hne, (List.dropLast_concat_getLast hne).symm⟩
    rw [List.length_append, List.length_singleton] at hn
    have hC' : ∀ y ∈ C', ok1 y = true := fun y hy => hC y (by simp [hy])
    have ih := row_apl h h0 h1 h2 hs n C' (by omega) hC'
    have hw := (aplR_wf h h0 h1 h2 n C' (by omega) hC').1
    have hx := hC x (by simp)
    obtain ⟨g1, g2⟩ := fnd_wf h x.k
    have hd : Dn (⟨t, x.v, x.d⟩ :: fndI I0 x.k) := (chn_iff _).1 ((chn_cons _ _).2 ⟨ok1_rt hx (by omega) h2, fun y hy => by have := g2 y hy; show y.t < t; omega, g1⟩)
    have hz : at13 (⟨t, x.v, x.d⟩ :: fndI I0 x.k) s = (x.v, !x.d) := by
      rw [at13_of hd, fnd_cons, if_pos (by exact hs)]
    rw [aplR_snoc, add_ok h h0 h1 h2 hx, List.foldl_append]
    rw [row_ins (z := ⟨x.k, ⟨t, x.v, x.d⟩ :: fndI I0 x.k⟩) hz _ hw.1, ih]
    have hP : RisP (C'.foldl chgP (row14 I0 s)) := by rw [← ih]; exact row_ris hw.1
    show _ = chgP (C'.foldl chgP (row14 I0 s)) x
    generalize C'.foldl chgP (row14 I0 s) = P at hP ⊢
    show _ = if x.d then drpP P x.k else putP P ⟨x.k, x.v⟩
    rw [put_ins hP]
theorem fnd_top {L : List Vn} {s : Int} (h : ∀ y ∈ L, y.t ≤ s) : fnd L s = fnd L 1152921504606846976 ∨ ¬ s ≤ 1152921504606846976 := by
  by_cases hs : s ≤ 1152921504606846976
  · left
    cases L with
    | nil => rfl
    | cons y l =>
      have := h y (by simp)
      rw [fnd_cons, fnd_cons, if_pos this, if_pos (by omega)]
  · exact .inr hs
/-- What is told of the last time, and of all behind it, is the same. -/
theorem row_last {I : List Itm} {last s : Int} (h : Wf I last) (h1 : last ≤ s) (h2 : s ≤ 1152921504606846976) : row14 I s = row14 I 1152921504606846976 := by
  unfold row14
  rw [List.flatMap_def, List.flatMap_def]
  refine congrArg List.flatten (List.map_congr_left fun x hx => ?_)
  obtain ⟨_, _, k3, k4⟩ := (fit_iff x last).1 (h.2 x hx)
  unfold ct14
  have e : at13 x.vs s = at13 x.vs 1152921504606846976 := by
    have hd := (chn_iff _).1 k3
    rw [at13_of hd, at13_of hd]
    rcases fnd_top (L := x.vs) (s := s) (fun y hy => by have := chn_top k3 k4 y hy; omega) with h | h
    · exact h
    · exact absurd h2 h
  rw [e]
end Go.Proofs.Ytobddfpdijmgiaa
/- SpaceBatches: a space and the list of pairs, side by side. -/
namespace Go.Proofs.Ytobddfpdijmgiaa
open Go.RowKit Go.Shelf
set_option linter.unusedVariables false
set_option linter.unusedSimpArgs false
set_option maxRecDepth 100000
attribute [local go_sem] Oper.semAt_some

theorem px_turn0 {S : Nat → Prop} {w w' : World} {v : Value} {L : List Pq2} (h : Px w v L) (ht : Turn S w w') (hf : 0 < L.length → ∀ b, vb v = some b → ¬ S b) : Px w' v L := by
  obtain ⟨A, c, rfl, hl, hr⟩ := h
  exact ⟨A, c, rfl, hl, hr.turn ht (fun hp ad e hS => by subst e; exact hf (by rw [flat_len pc2_len] at hp; omega) _ rfl hS)⟩
theorem px_lt {w : World} {v : Value} {L : List Pq2} (h : Px w v L) (h0 : 0 < L.length) {b : Nat} (hb : vb v = some b) : b < w.heap.size := by
  obtain ⟨A, c, rfl, hl, hr⟩ := h
  obtain ⟨b', o, rfl, hb', _⟩ := hr.pair h0
  cases hb
  exact hb'
theorem cx_lt {w : World} {v : Value} {L : List Cg} (h : Cx w v L) (h0 : 0 < L.length) {b : Nat} (hb : vb v = some b) : b < w.heap.size := by
  obtain ⟨A, c, rfl, hl, hr⟩ := h
  obtain ⟨b', o, rfl, hb', _⟩ := hr.chg h0
  cases hb
  exact hb'
structure Lx (w : World) (i q : Nat) (vk : Value) (g : Nat) (M : List (Itm × Value)) (pv tv : Value) (P T : List Pq2) (X : World) : Prop where
  sp : Sp X q vk g M i 0
  wf : Wf (M.map (fun p : Itm × Value => p.1)) i
  bm : Bm (31 * i) M
  fr : ∀ k, Sw q vk g k → w.heap.size ≤ k ∧ (0 < P.length → vb pv ≠ some k) ∧ (0 < T.length → vb tv ≠ some k)
  pp : Px X pv P
  tp : Px X tv T
  tw : Turn (fun _ => False) w X
theorem Lx.still {w X Y : World} {i q g : Nat} {vk pv tv : Value} {M : List (Itm × Value)} {P T : List Pq2} (h : Lx w i q vk g M pv tv P T X) (ht : Turn (fun _ => False) X Y) : Lx w i q vk g M pv tv P T Y :=
  ⟨h.sp.still ht, h.wf, h.bm, h.fr, h.pp.still ht, h.tp.still ht, h.tw.trans ht⟩
theorem Lx.set {w X : World} {i q g : Nat} {vk pv tv : Value} {M : List (Itm × Value)} {P T : List Pq2} (h : Lx w i q vk g M pv tv P T X) : Lx w i q vk g M pv pv P P X :=
  ⟨h.sp, h.wf, h.bm, fun k hk => ⟨(h.fr k hk).1, (h.fr k hk).2.1, (h.fr k hk).2.1⟩, h.pp, h.pp, h.tw⟩
theorem Lx.apply {w X : World} {i q g : Nat} {vk pv tv vl : Value} {M : List (Itm × Value)} {P T : List Pq2} {L : List Cg} (h : Lx w i q vk g M pv tv P T X) (hc : Cx X vl L) (hcw : 0 < L.length → ∀ b, vb vl = some b → b < w.heap.size) (hL : L.length ≤ 30) (hi : i < 60) (hm : mch L = true) :
    Calls Try.prog 26 #[.pointer (some ⟨q, 0, none⟩), .int .i64 ((i : Int) + 1), vl] X fun e w' => e = .returned (.int .i64 0) ∧ ∃ vk' M', Lx w (i + 1) q vk' g M' pv tv P T w' ∧ M'.map (fun p : Itm × Value => p.1) = aplR (M.map (fun p : Itm × Value => p.1)) ((i : Int) + 1) L := by
  refine (apply_14 L vl ((i : Int) + 1) h.sp hc (fun h0 b hb hs => by have := hcw h0 b hb; have := (h.fr b hs).1; omega) (h.bm.le (by omega)) (by omega) h.wf (by omega) (by omega) (by omega) hm).mono fun e w' ⟨h1, vk', M', sp', e', f', t'⟩ => ⟨h1, vk', M', ?_, e'⟩
  have w2 := (aplR_wf h.wf (by omega) (by omega : (i : Int) < (i : Int) + 1) (by omega) L.length L rfl (mch_ok hm)).1
  refine ⟨?_, ?_, ?_, ?_, ?_, ?_, ?_⟩
  · exact_mod_cast sp'
  · rw [e']; exact_mod_cast w2
  · exact bm_of e' ((aplR_bi (bi_of h.bm) w2).le (by omega))
  · intro k hk
    rcases f' k hk with h2 | h2
    · exact h.fr k h2
    · have := h.tw.size
      exact ⟨by omega, fun h0 e => by have := px_lt h.pp h0 e; omega, fun h0 e => by have := px_lt h.tp h0 e; omega⟩
  · exact px_turn0 h.pp t' (fun h0 b hb hs => (h.fr b hs).2.1 h0 hb)
  · exact px_turn0 h.tp t' (fun h0 b hb hs => (h.fr b hs).2.2 h0 hb)
  · exact h.tw.trans_new t' (fun k hk hs => by have := (h.fr k hs).1; omega)
theorem Lx.bad {w X : World} {i q g : Nat} {vk pv tv vl : Value} {M : List (Itm × Value)} {P T : List Pq2} {L : List Cg} (h : Lx w i q vk g M pv tv P T X) (hc : Cx X vl L) (hL : L.length ≤ 30) (hi : i < 60) (hm : mch L = false) :
    Calls Try.prog 26 #[.pointer (some ⟨q, 0, none⟩), .int .i64 ((i : Int) + 1), vl] X fun e w' => e = .returned (.int .i64 2) ∧ Lx w i q vk g M pv tv P T w' := by
  refine (apply_14b L vl ((i : Int) + 1) h.sp hc (by omega) (.inr (.inr hm))).mono fun e w' ⟨h1, h2⟩ => ⟨?_, h.still h2⟩
  rw [h1, if_neg (by omega)]
theorem Lx.changed {w X : World} {i q g : Nat} {vk pv tv vl : Value} {M : List (Itm × Value)} {P T : List Pq2} {L : List Cg} (h : Lx w i q vk g M pv tv P T X) (hc : Cx X vl L) (hL : L.length ≤ 30) (hm : mch L = true) (hks : ∀ p ∈ P, p.k.size ≤ 128) (hb : P.length ≤ 50000) :
    Calls Try.prog 27 #[pv, vl] X fun e w' => ∃ A n c, e = .returned (.tuple #[.slice A n c, .bool true]) ∧ Lx w i q vk g M (.slice A n c) tv (L.foldl chgP P) T w' := by
  refine (refChanged12 P pv L vl X h.pp hc (fun x hx => by have := mch_ok hm x hx; unfold ok1 at this; simp at this; omega) (fun p hp => by have := hks p hp; omega) hb (by omega)).mono fun e w' ⟨v', h1, h2, h3, h4⟩ => ?_
  obtain ⟨A, c, e2, hl, hr⟩ := id h2
  subst e2
  refine ⟨A, _, c, h1, h.sp.still h4, h.wf, h.bm, fun k hk => ⟨(h.fr k hk).1, fun h0 e => ?_, (h.fr k hk).2.2⟩, h2, h.tp.still h4, h.tw.trans h4⟩
  rcases h3 with h3 | h3
  · obtain ⟨A1, c1, e1, _, _⟩ := h.pp
    rw [h3] at e
    refine (h.fr k hk).2.1 ?_ e
    rw [e1] at h3
    injection h3 with _ h3 _
    omega
  · have := h3 k e
    have := h.sp.below k hk
    omega
theorem win_all (k : ByteArray) : win k ⟨#[]⟩ ⟨#[]⟩ = true := by
  have h : lt14 k ⟨#[]⟩ = false := by
    unfold lt14
    cases k.data.toList <;> rfl
  unfold win
  rw [h]
  simp [ByteArray.toList_eq]
theorem scl_all {M : List (Itm × Value)} (t : Int) : scl M ⟨#[]⟩ ⟨#[]⟩ t (-1) = row14 (M.map (fun p : Itm × Value => p.1)) t := by
  rw [scl_row, List.filter_eq_self]
  exact fun p _ => win_all p.k
theorem Lx.scan {w X : World} {i q g : Nat} {vk pv tv : Value} {M : List (Itm × Value)} {P T : List Pq2} (h : Lx w i q vk g M pv tv P T X) (hi : i ≤ 60) {t : Int} (h0 : 0 ≤ t) (h1 : t ≤ i) :
    Calls Try.prog 22 #[.pointer (some ⟨q, 0, none⟩), .string ⟨#[]⟩, .string ⟨#[]⟩, .int .i64 t, .int .i64 (-1)] X fun e w' => ∃ A n c, e = .returned (.tuple #[.slice A n c, .int .i64 0]) ∧ Px w' (.slice A n c) (row14 (M.map (fun p : Itm × Value => p.1)) t) ∧ Turn (fun _ => False) X w' := by
  refine (scan_14 ⟨#[]⟩ ⟨#[]⟩ t (-1) h.sp (h.bm.le (by omega)) (by decide) (by decide) (by unfold kept14; rw [if_neg (by omega), if_neg (by omega)])).mono fun e w' ⟨v, e1, h2, h3⟩ => ?_
  rw [scl_all] at h2
  obtain ⟨A, c, e⟩ := own_slice_ h2
  subst e
  exact ⟨A, _, c, e1, Po.px h2 (by have := row_len (t := t) (M.map (fun p : Itm × Value => p.1)); rw [List.length_map] at this; have := h.bm.1; omega), h3⟩
theorem Chs.row {w : World} {A : Option Addr} {n c : Nat} {qs : List (Value × List Cg)} (h : Chs w (.slice A n c) qs) : qs.length = n ∧ ∀ j q, qs[j]? = some q → ∃ b o, A = some ⟨b, o, none⟩ ∧ Cx w q.1 q.2 ∧ ∀ X, Turn (fun _ => False) w X → X.cell? ⟨b, o + j, none⟩ = some q.1 := by
  obtain ⟨A', c', e, hl, hr⟩ := h
  injection e with e1 e2 e3
  subst e1 e2 e3
  refine ⟨rfl, fun j q hj => ?_⟩
  obtain ⟨b, o, e, hb, hc⟩ := hr (by have := (List.getElem?_eq_some_iff.1 hj).1; omega)
  obtain ⟨h1, h2⟩ := hc j q hj
  exact ⟨b, o, e, h2, fun X hX => by rw [World.cell?_of_block (w := w) (a := ⟨b, o + j, none⟩) (hX.block b hb (fun h => h))]; exact h1⟩
/-- The rows, side by side. -/
def Rb (I : List Itm) (P T : List Pq2) (i : Nat) (t : Int) : Prop := P = row14 I 1152921504606846976 ∧ (0 ≤ t → t < i → T = row14 I t)
theorem Rb.next {I I2 : List Itm} {P T : List Pq2} {i : Nat} {t : Int} {L : List Cg} (h : Rb I P T i t) (hw : Wf I i) (hi : i < 60) (hm : mch L = true) (he : I2 = aplR I ((i : Int) + 1) L) (ht : t = i → T = P) : Rb I2 (L.foldl chgP P) T (i + 1) t := by
  refine ⟨?_, fun h0 h1 => ?_⟩
  · rw [he, row_apl hw (by omega) (by omega) (by omega) (by omega) L.length L rfl (mch_ok hm), h.1]
  · have hsm : Sm14 I2 I t := he ▸ sm_aplR hw (by omega) (by omega : (i : Int) < (i : Int) + 1) (by omega) (by omega) L.length L rfl (mch_ok hm)
    rw [hsm.1]
    by_cases hq : t = i
    · rw [ht hq, h.1]
      exact (row_last hw (by omega) (by omega)).symm
    · exact h.2 h0 (by omega)
end Go.Proofs.Ytobddfpdijmgiaa
