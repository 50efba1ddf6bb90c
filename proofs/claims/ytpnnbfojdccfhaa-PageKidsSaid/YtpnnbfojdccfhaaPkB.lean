/- The walk of ambrylaw08.PageKids: the node that is made, and its halves, plain. -/
import Derived.Test.YtpnnbfojdccfhaaPkA
import Derived.Test.YtpnnbfojdccfhaaPgWd
namespace Go.Proofs.Ytpnnbfojdccfhaa
open Go.RowKit
set_option linter.unusedVariables false
set_option linter.unusedSimpArgs false
set_option maxRecDepth 100000

/-- The node with one key and kid more. -/
def mk8 (n : Nd) (i : Nat) (key : ByteArray) (kid : Int) : Nd := ⟨false, n.keys.take i ++ [key] ++ n.keys.drop i, [], n.kids.take (i + 1) ++ [kid] ++ n.kids.drop (i + 1)⟩
theorem stands_kids2 {n : Nd} (hl : n.leaf = false) : Stands8 n ↔ (∀ s ∈ n.keys, s.size ≤ 128) ∧ n.keys.Pairwise ltS ∧ (∀ z ∈ n.kids, 0 ≤ z ∧ z < 16384) ∧ n.vals = [] ∧ n.kids.length = n.keys.length + 1 := by
  obtain ⟨leaf, K, V, Z⟩ := n
  simp only at hl
  subst hl
  rw [stands_kids, ← riz_pw]
  constructor
  · rintro ⟨h1, h2, h3, h4⟩
    refine ⟨fun s hs => ?_, fun j h0 hj => (h1 j hj).2 h0, fun z hz => ?_, List.eq_nil_of_length_eq_zero h3, h4⟩
    · obtain ⟨j, hj, rfl⟩ := List.getElem_of_mem hs
      have := (h1 j hj).1
      rwa [key8_at (List.getElem?_eq_getElem hj)] at this
    · obtain ⟨j, hj, rfl⟩ := List.getElem_of_mem hz
      have := h2 j hj
      rwa [List.getD_eq_getElem?_getD, List.getElem?_eq_getElem hj] at this
  · rintro ⟨h1, h2, h3, h4, h5⟩
    simp only at h4
    refine ⟨fun j hj => ⟨?_, fun h0 => h2 j h0 hj⟩, fun j hj => ?_, by rw [h4]; rfl, h5⟩
    · rw [key8_at (List.getElem?_eq_getElem hj)]; exact h1 _ (List.getElem_mem hj)
    · rw [List.getD_eq_getElem?_getD, List.getElem?_eq_getElem hj]; exact h3 _ (List.getElem_mem hj)
theorem goes_kids (key s : ByteArray) : goes8 false key s = true ↔ ltS s key ∨ s = key := by
  unfold goes8 ltS
  simp only [Bool.not_false, Bool.true_and, Bool.or_eq_true, beq_iff_eq]
  constructor
  · rintro (h | h)
    · exact .inl h
    · exact .inr (ba_ext (by rw [← ByteArray.toList_eq, ← ByteArray.toList_eq]; exact h))
  · rintro (h | h)
    · exact .inl h
    · exact .inr (by rw [h])
theorem kids_pos {n : Nd} {key : ByteArray} (hs : Stands8 n) (hl : n.leaf = false) :
    (find8 n key).1 ≤ n.keys.length ∧ (∀ s ∈ n.keys.take (find8 n key).1, ltS s key ∨ s = key) ∧ (∀ s ∈ n.keys.drop (find8 n key).1, ltS key s) := by
  have hp : (find8 n key).1 = pos8 false key n.keys := by unfold find8; rw [st8_yes hs, if_pos rfl, hl]
  rw [hp]
  have hle := pos8_le false key n.keys
  obtain ⟨h1, h2⟩ := pos8_goes false key n.keys
  have hw := ((stands_kids2 hl).1 hs).2.1
  generalize pos8 false key n.keys = P at *
  refine ⟨hle, fun s hm => ?_, fun s hm => ?_⟩
  · obtain ⟨j, hj, rfl⟩ := List.getElem_of_mem hm
    rw [List.length_take] at hj
    have := h1 j (by omega)
    rw [key8_at (List.getElem?_eq_getElem (show j < n.keys.length by omega))] at this
    rw [List.getElem_take]; exact (goes_kids _ _).1 this
  · obtain ⟨j, hj, rfl⟩ := List.getElem_of_mem hm
    rw [List.length_drop] at hj
    have hP : P < n.keys.length := by omega
    have h3 := h2 hP
    rw [key8_at (List.getElem?_eq_getElem hP)] at h3
    have h4 : ltS key n.keys[P] := by
      have h5 : ¬ (ltS n.keys[P] key ∨ n.keys[P] = key) := fun h => by rw [(goes_kids _ _).2 h] at h3; cases h3
      exact ltS_total (fun h => h5 (.inl h)) (fun h => h5 (.inr h))
    rw [List.getElem_drop]
    rcases Nat.eq_zero_or_pos j with h0 | h0
    · subst h0; exact h4
    · exact ltS_trans h4 (List.pairwise_iff_getElem.1 hw P (P + j) hP (by omega) (by omega))
theorem mk_stands {n : Nd} {key : ByteArray} {kid : Int} (hs : Stands8 n) (hl : n.leaf = false) (hkz : key.size ≤ 128) (h0 : 0 ≤ kid) (h1 : kid < 16384) (hne : key ∉ n.keys) : Stands8 (mk8 n (find8 n key).1 key kid) := by
  obtain ⟨k1, k2, k3, k4, k5⟩ := (stands_kids2 hl).1 hs
  obtain ⟨hle, ha, hb⟩ := kids_pos (key := key) hs hl
  generalize (find8 n key).1 = P at *
  refine (stands_kids2 rfl).2 ⟨fun s hm => ?_, ?_, fun z hm => ?_, rfl, ?_⟩
  · have hm2 : s ∈ n.keys.take P ++ [key] ++ n.keys.drop P := hm
    simp only [List.mem_append, List.mem_singleton] at hm2
    rcases hm2 with (h | h) | h
    · exact k1 s (List.mem_of_mem_take h)
    · subst h; exact hkz
    · exact k1 s (List.mem_of_mem_drop h)
  · show (n.keys.take P ++ [key] ++ n.keys.drop P).Pairwise ltS
    rw [List.append_assoc, List.pairwise_append, List.singleton_append, List.pairwise_cons]
    have ha2 : ∀ s ∈ n.keys.take P, ltS s key := fun s h => by
      rcases ha s h with h1 | h1
      · exact h1
      · subst h1; exact absurd (List.mem_of_mem_take h) hne
    refine ⟨k2.sublist (List.take_sublist _ _), ⟨hb, k2.sublist (List.drop_sublist _ _)⟩, fun a h b h2 => ?_⟩
    rcases List.mem_cons.1 h2 with rfl | h2
    · exact ha2 a h
    · exact ltS_trans (ha2 a h) (hb b h2)
  · have hm2 : z ∈ n.kids.take (P + 1) ++ [kid] ++ n.kids.drop (P + 1) := hm
    simp only [List.mem_append, List.mem_singleton] at hm2
    rcases hm2 with (h | h) | h
    · exact k3 z (List.mem_of_mem_take h)
    · subst h; exact ⟨h0, h1⟩
    · exact k3 z (List.mem_of_mem_drop h)
  · show (n.kids.take (P + 1) ++ [kid] ++ n.kids.drop (P + 1)).length = (n.keys.take P ++ [key] ++ n.keys.drop P).length + 1
    simp only [List.length_append, List.length_take, List.length_drop, List.length_cons, List.length_nil]; omega
theorem mk_not {n : Nd} {key : ByteArray} {kid : Int} (hs : Stands8 n) (hl : n.leaf = false) (hne : key ∈ n.keys) : ¬ Stands8 (mk8 n (find8 n key).1 key kid) ∧ 0 < (find8 n key).1 ∧ n.keys[(find8 n key).1 - 1]? = some key := by
  obtain ⟨k1, k2, k3, k4, k5⟩ := (stands_kids2 hl).1 hs
  obtain ⟨hle, ha, hb⟩ := kids_pos (key := key) hs hl
  generalize (find8 n key).1 = P at *
  have hmem : key ∈ n.keys.take P := by
    rw [← List.take_append_drop P n.keys, List.mem_append] at hne
    rcases hne with h | h
    · exact h
    · exact absurd (hb key h) (ltS_irr key)
  refine ⟨fun h => ?_, ?_, ?_⟩
  · have h2 := ((stands_kids2 rfl).1 h).2.1
    have h3 : (n.keys.take P ++ ([key] ++ n.keys.drop P)).Pairwise ltS := by rw [← List.append_assoc]; exact h2
    rw [List.pairwise_append] at h3
    exact ltS_irr key (h3.2.2 key hmem key (by simp))
  · rcases Nat.eq_zero_or_pos P with h0 | h0
    · subst h0; simp at hmem
    · exact h0
  · obtain ⟨j, hj, he⟩ := List.getElem_of_mem hmem
    rw [List.length_take] at hj
    rw [List.getElem_take] at he
    have hP : P - 1 < n.keys.length := by omega
    rw [List.getElem?_eq_getElem hP]
    rcases Nat.lt_or_ge j (P - 1) with h1 | h1
    · have h2 := List.pairwise_iff_getElem.1 k2 j (P - 1) (by omega) hP h1
      rw [he] at h2
      have h3 := ha n.keys[P - 1] (by rw [List.mem_iff_getElem]; exact ⟨P - 1, by rw [List.length_take]; omega, by rw [List.getElem_take]⟩)
      rcases h3 with h3 | h3
      · exact absurd h2 (ltS_asym h3)
      · rw [h3] at h2; exact absurd h2 (ltS_irr key)
    · have : j = P - 1 := by omega
      subst this; rw [he]
theorem size_kids {n : Nd} (hl : n.leaf = false) : size8 n = 7 + sumS n.keys + 5 * n.keys.length := by unfold size8 kb8; rw [hl]; simp; omega
theorem mk_size (n : Nd) (i : Nat) (key : ByteArray) (kid : Int) (hl : n.leaf = false) (hi : i ≤ n.keys.length) : size8 (mk8 n i key kid) = size8 n + 5 + key.size := by
  rw [size_kids (n := mk8 n i key kid) rfl, size_kids hl]
  have h := sumS_split n.keys i
  have e1 : sumS (mk8 n i key kid).keys = sumS (n.keys.take i) + key.size + sumS (n.keys.drop i) := by
    show sumS (n.keys.take i ++ [key] ++ n.keys.drop i) = _
    rw [sumS_app, sumS_app]; simp [sumS]
  have e2 : (mk8 n i key kid).keys.length = n.keys.length + 1 := by
    show (n.keys.take i ++ [key] ++ n.keys.drop i).length = _
    simp only [List.length_append, List.length_take, List.length_drop, List.length_cons, List.length_nil]; omega
  rw [e1, e2]; omega
theorem part_kids {m : Nd} (hl : m.leaf = false) (a b : Nat) : part8 m a b = ⟨false, (m.keys.take b).drop a, [], (m.kids.take (b + 1)).drop a⟩ := by unfold part8; rw [hl]; rfl
theorem partK_stands {m : Nd} (hs : Stands8 m) (hl : m.leaf = false) (a b : Nat) (hab : a ≤ b) (hb : b ≤ m.keys.length) : Stands8 (part8 m a b) := by
  obtain ⟨h1, h2, h3, h4, h5⟩ := (stands_kids2 hl).1 hs
  rw [part_kids hl]
  refine (stands_kids2 rfl).2 ⟨fun s k => h1 s (List.mem_of_mem_take (List.mem_of_mem_drop k)), h2.sublist ((List.drop_sublist _ _).trans (List.take_sublist _ _)), fun s k => h3 s (List.mem_of_mem_take (List.mem_of_mem_drop k)), rfl, ?_⟩
  show ((m.kids.take (b + 1)).drop a).length = ((m.keys.take b).drop a).length + 1
  simp only [List.length_drop, List.length_take, h5]; omega
theorem kids_size {m : Nd} (hl : m.leaf = false) (a b : Nat) (hb : b ≤ m.keys.length) : size8 (part8 m a b) = 7 + sumS ((m.keys.take b).drop a) + 5 * (b - a) := by
  rw [part_kids hl, size_kids rfl]
  show 7 + sumS ((m.keys.take b).drop a) + 5 * ((m.keys.take b).drop a).length = _
  rw [len_cut _ _ _ hb]
theorem halvesK {m : Nd} (hs : Stands8 m) (hl : m.leaf = false) (hz : size8 m ≤ 1157) {k : Nat} (h1 : 1 ≤ k) (hk : k + 1 < m.keys.length) (hlo : ∀ i, 1 ≤ i → i < k → size8 (part8 m 0 i) < size8 m / 2) (hhi : k + 1 + 1 < m.keys.length → size8 m / 2 ≤ size8 (part8 m 0 k)) :
    check8 (part8 m 0 k) = 0 ∧ check8 (part8 m (k + 1) m.keys.length) = 0 := by
  have hsm := size_kids hl
  obtain ⟨k1, _, _, _, _⟩ := (stands_kids2 hl).1 hs
  have hA : size8 (part8 m 0 k) ≤ 1024 := by
    obtain ⟨s, hsk⟩ : ∃ s, m.keys[k - 1]? = some s := ⟨_, List.getElem?_eq_getElem (by omega)⟩
    have hsz := k1 s (List.mem_of_getElem? hsk)
    have hst := sumS_take hsk
    rw [show k - 1 + 1 = k from by omega] at hst
    rw [kids_size hl 0 k (by omega), List.drop_zero]
    rcases Nat.lt_or_ge 1 k with h2 | h2
    · have := hlo (k - 1) (by omega) (by omega)
      rw [kids_size hl 0 (k - 1) (by omega), List.drop_zero] at this; omega
    · have hk1 : k - 1 = 0 := by omega
      rw [hk1, List.take_zero] at hst
      have : sumS ([] : List ByteArray) = 0 := rfl
      omega
  have hsp := sumS_split m.keys (k + 1)
  have hle : sumS (m.keys.take k) ≤ sumS (m.keys.take (k + 1)) := sumS_take_mono m.keys (by omega)
  have hB : size8 (part8 m (k + 1) m.keys.length) ≤ 1024 := by
    rw [kids_size hl _ _ (Nat.le_refl _), List.take_length]
    rcases Nat.lt_or_ge (k + 1 + 1) m.keys.length with h3 | h3
    · have h4 := hhi h3
      rw [kids_size hl 0 k (by omega), List.drop_zero] at h4
      omega
    · have hb : ∀ s ∈ m.keys.drop (k + 1), s.size ≤ 128 := fun s hm => k1 s (List.mem_of_mem_drop hm)
      have h5 := sumS_le hb
      rw [List.length_drop] at h5
      have h6 : (m.keys.length - (k + 1)) * 128 ≤ 1 * 128 := Nat.mul_le_mul_right _ (by omega)
      omega
  constructor
  · unfold check8; rw [st8_yes (partK_stands hs hl 0 k (by omega) (by omega)), if_pos rfl, if_pos hA]
  · unfold check8; rw [st8_yes (partK_stands hs hl (k + 1) _ (by omega) (Nat.le_refl _)), if_pos rfl, if_pos hB]
theorem wholeK {m : Nd} (hs : Stands8 m) (hl : m.leaf = false) {k : Nat} (hk : k + 1 < m.keys.length) : (part8 m 0 k).keys ++ [key8 m.keys k] ++ (part8 m (k + 1) m.keys.length).keys = m.keys ∧ (part8 m 0 k).kids ++ (part8 m (k + 1) m.keys.length).kids = m.kids := by
  have h5 := ((stands_kids2 hl).1 hs).2.2.2.2
  rw [part_kids hl, part_kids hl]
  constructor
  · show (m.keys.take k).drop 0 ++ [key8 m.keys k] ++ (m.keys.take m.keys.length).drop (k + 1) = m.keys
    have hkk : m.keys[k]? = some (key8 m.keys k) := by unfold key8; rw [List.getD_eq_getElem?_getD, List.getElem?_eq_getElem (show k < m.keys.length by omega)]; rfl
    rw [List.drop_zero, List.take_length]
    have : m.keys.take k ++ [key8 m.keys k] = m.keys.take (k + 1) := by rw [List.take_add_one, hkk]; rfl
    rw [this, List.take_append_drop]
  · show (m.kids.take (k + 1)).drop 0 ++ (m.kids.take (m.keys.length + 1)).drop (k + 1) = m.kids
    rw [List.drop_zero, ← h5, List.take_length, List.take_append_drop]
end Go.Proofs.Ytpnnbfojdccfhaa
