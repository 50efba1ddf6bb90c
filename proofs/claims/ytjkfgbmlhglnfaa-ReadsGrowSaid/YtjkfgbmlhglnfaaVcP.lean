/- Layer 13, plain: what is told of chains that are added to, vacuumed, rewound. -/
import Derived.Test.YtjkfgbmlhglnfaaVcF
namespace Go.Proofs.Ytjkfgbmlhglnfaa
set_option linter.unusedVariables false
set_option linter.unusedSimpArgs false

def Dn (L : List Vn) : Prop := (∀ x ∈ L, rt x = true) ∧ L.Pairwise (fun x y => y.t < x.t)
theorem okv_all {L : List Vn} (h : chn L = true) : ∀ j, j < L.length → okv L j = true := fun j hj => by
  unfold chn at h
  rw [List.all_eq_true] at h
  exact h j (List.mem_range.2 hj)
theorem chn_cons (x : Vn) (L : List Vn) : chn (x :: L) = true ↔ rt x = true ∧ (∀ y, L[0]? = some y → y.t < x.t) ∧ chn L = true := by
  constructor
  · intro h
    have h0 := okv_all h 0 (by simp)
    rw [okv_zero (x := x) rfl] at h0
    refine ⟨h0, fun y hy => ?_, chn_true fun j hj => ?_⟩
    · have h1 := okv_all h 1 (by
        rcases L with _ | ⟨z, L⟩
        · simp at hy
        · simp)
      rw [okv_succ (k := 0) (x := y) (y := x) (by simpa using hy) rfl] at h1
      simp at h1
      exact h1.2
    · obtain ⟨y, hy⟩ : ∃ y, L[j]? = some y := ⟨_, List.getElem?_eq_getElem hj⟩
      have h1 := okv_all h (j + 1) (by simp; omega)
      cases j with
      | zero =>
        rw [okv_succ (k := 0) (x := y) (y := x) (by simpa using hy) rfl] at h1
        simp at h1
        rw [okv_zero hy]; exact h1.1
      | succ k =>
        obtain ⟨z, hz⟩ : ∃ z, L[k]? = some z := ⟨_, List.getElem?_eq_getElem (by omega)⟩
        rw [okv_succ (k := k + 1) (x := y) (y := z) (by simpa using hy) (by simpa using hz)] at h1
        rw [okv_succ hy hz]; exact h1
  · rintro ⟨h0, h1, h2⟩
    refine chn_true fun j hj => ?_
    cases j with
    | zero => rw [okv_zero (x := x) rfl]; exact h0
    | succ k =>
      obtain ⟨y, hy⟩ : ∃ y, L[k]? = some y := ⟨_, List.getElem?_eq_getElem (by simp at hj; omega)⟩
      have h3 := okv_all h2 k (by simp at hj; omega)
      cases k with
      | zero =>
        rw [okv_succ (k := 0) (x := y) (y := x) (by simpa using hy) rfl]
        rw [okv_zero hy] at h3
        simp [h3, h1 y hy]
      | succ m =>
        obtain ⟨z, hz⟩ : ∃ z, L[m]? = some z := ⟨_, List.getElem?_eq_getElem (by simp at hj; omega)⟩
        rw [okv_succ (k := m + 1) (x := y) (y := z) (by simpa using hy) (by simpa using hz)]
        rw [okv_succ hy hz] at h3
        exact h3
theorem chn_nil : chn [] = true := rfl
theorem chn_iff (L : List Vn) : chn L = true ↔ Dn L := by
  induction L with
  | nil => exact ⟨fun _ => ⟨by simp, by simp⟩, fun _ => rfl⟩
  | cons x L ih =>
    rw [chn_cons]
    constructor
    · rintro ⟨h0, h1, h2⟩
      obtain ⟨h3, h4⟩ := ih.1 h2
      refine ⟨by simpa using ⟨h0, h3⟩, List.pairwise_cons.2 ⟨fun y hy => ?_, h4⟩⟩
      rcases L with _ | ⟨z, L⟩
      · simp at hy
      · have h5 := h1 z rfl
        rcases List.mem_cons.1 hy with rfl | hy
        · exact h5
        · have := (List.pairwise_cons.1 h4).1 y hy; omega
    · rintro ⟨h0, h1⟩
      obtain ⟨h2, h3⟩ := List.pairwise_cons.1 h1
      exact ⟨h0 x (by simp), fun y hy => h2 y (List.mem_of_getElem? hy), ih.2 ⟨fun y hy => h0 y (by simp [hy]), h3⟩⟩
theorem fnd_cons (x : Vn) (L : List Vn) (t : Int) : fnd (x :: L) t = if x.t ≤ t then (x.s, !x.d) else fnd L t := by
  unfold fnd
  rw [List.find?_cons]
  by_cases h : x.t ≤ t
  · rw [if_pos h, show decide (x.t ≤ t) = true by simpa using h]
  · rw [if_neg h, show decide (x.t ≤ t) = false by simpa using h]
theorem fnd_nil (t : Int) : fnd [] t = (ByteArray.empty, false) := rfl
theorem at13_of {L : List Vn} (h : Dn L) (t : Int) : at13 L t = fnd L t := by unfold at13; rw [(chn_iff L).2 h, if_pos rfl]
theorem vacf_sub : ∀ (L : List Vn) (m : Int), (vacf L m).Sublist L
  | [], m => List.Sublist.refl _
  | x :: L, m => by
    rw [vacf]
    split
    · split
      · exact List.nil_sublist _
      · exact List.Sublist.cons_cons x (List.nil_sublist L)
    · exact List.Sublist.cons_cons x (vacf_sub L m)
theorem Dn.sub {L M : List Vn} (h : Dn L) (hs : M.Sublist L) : Dn M := ⟨fun x hx => h.1 x (hs.subset hx), h.2.sublist hs⟩
theorem rt_gone {x : Vn} (h : rt x = true) (hd : x.d = true) : x.s = ByteArray.empty := by
  unfold rt at h
  simp only [decide_eq_true_eq] at h
  have h2 := h.2.2 hd
  apply ByteArray.ext
  exact Array.eq_empty_of_size_eq_zero h2
theorem fnd_vac : ∀ {L : List Vn} (m t : Int), Dn L → m ≤ t → fnd (vacf L m) t = fnd L t
  | [], m, t, _, _ => rfl
  | x :: L, m, t, hd, h => by
    have hx := hd.1 x (by simp)
    have hL : Dn L := hd.sub (List.sublist_cons_self x L)
    rw [vacf]
    by_cases hle : x.t ≤ m
    · rw [if_pos hle]
      by_cases hg : x.d = true
      · rw [if_pos hg, fnd_cons, if_pos (by omega), rt_gone hx hg, hg]; rfl
      · rw [if_neg hg, fnd_cons, if_pos (by omega), fnd_cons, if_pos (by omega)]
    · rw [if_neg hle, fnd_cons, fnd_cons, fnd_vac m t hL h]
theorem vacf_vac : ∀ (L : List Vn) (m l : Int), l ≤ m → vacf (vacf L m) l = vacf L m
  | [], m, l, _ => rfl
  | x :: L, m, l, h => by
    rw [vacf]
    split
    · rename_i hle
      split
      · rfl
      · rename_i hg
        rw [vacf]
        split
        · first | rfl | rw [if_neg hg]
        · rfl
    · rename_i hn
      rw [vacf, if_neg (by omega), vacf_vac L m l h]
theorem fnd_grown {x : Vn} {L : List Vn} (h : Dn (x :: L)) : L.filter (fun y => decide (y.t ≤ x.t - 1)) = L := by
  rw [List.filter_eq_self]
  intro y hy
  have := (List.pairwise_cons.1 h.2).1 y hy
  simp; omega
theorem rew_grown {x : Vn} {L : List Vn} (h : Dn (x :: L)) : rew13 (x :: L) (x.t - 1) = L := by
  unfold rew13
  rw [(chn_iff _).2 h, if_pos rfl, List.filter_cons, if_neg (by simp; omega), fnd_grown h]
theorem filter_ge : ∀ {L : List Vn} (to t : Int), Dn L → fnd (L.filter (fun x => decide (x.t ≤ to))) t = fnd L (min t to)
  | [], to, t, _ => rfl
  | x :: L, to, t, h => by
    have hL : Dn L := h.sub (List.sublist_cons_self x L)
    by_cases h1 : x.t ≤ to
    · rw [List.filter_cons, if_pos (by simpa using h1), fnd_cons, fnd_cons, filter_ge to t hL]
      by_cases h2 : x.t ≤ t
      · rw [if_pos h2, if_pos (by omega)]
      · rw [if_neg h2, if_neg (by omega)]
    · rw [List.filter_cons, if_neg (by simpa using h1), fnd_cons, if_neg (by omega)]
      exact filter_ge to t hL
theorem snc_rew (L : List Vn) (to : Int) : snc (rew13 L to) to = false := by
  unfold rew13
  split
  · unfold snc
    cases hf : (L.filter (fun x => decide (x.t ≤ to)))[0]? with
    | none => simp
    | some x =>
      have hm := List.mem_of_getElem? hf
      have := (List.mem_filter.1 hm).2
      simp at this
      simp; intro _; omega
  · exact snc_nil to
end Go.Proofs.Ytjkfgbmlhglnfaa
