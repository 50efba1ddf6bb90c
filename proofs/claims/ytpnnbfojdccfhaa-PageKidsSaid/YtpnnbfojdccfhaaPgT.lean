/- Layer 8: leaves, plain: what is put is found. -/
import Derived.Test.YtpnnbfojdccfhaaPgS
namespace Go.Proofs.Ytpnnbfojdccfhaa
set_option linter.unusedVariables false
set_option maxRecDepth 100000

def ltS (a b : ByteArray) : Prop := Op.bytesLess a.data.toList b.data.toList = true
theorem ltS_irr (a : ByteArray) : ¬ ltS a a := fun h => by have := (bytesLess_asym _ _ h).1; unfold ltS at h; rw [h] at this; cases this
theorem ltS_asym {a b : ByteArray} (h : ltS a b) : ¬ ltS b a := fun h2 => by have := (bytesLess_asym _ _ h).1; unfold ltS at h2; rw [h2] at this; cases this
theorem ltS_trans {a b c : ByteArray} (h : ltS a b) (h2 : ltS b c) : ltS a c := bytesLess_trans _ _ _ h h2
theorem ba_ext {a b : ByteArray} (h : a.data.toList = b.data.toList) : a = b := by apply ByteArray.ext; exact Array.toList_inj.1 h
theorem ltS_total {a b : ByteArray} (h : ¬ ltS a b) (hne : a ≠ b) : ltS b a := by
  refine bytesLess_total _ _ ?_ ?_
  · cases hq : Op.bytesLess a.data.toList b.data.toList with
    | false => rfl
    | true => exact absurd hq h
  · cases hq : (a.data.toList == b.data.toList) with
    | false => rfl
    | true => exact absurd (ba_ext (eq_of_beq hq)) hne
theorem riz_pw (K : List ByteArray) : Riz K ↔ K.Pairwise ltS := by
  rw [List.pairwise_iff_getElem]
  constructor
  · intro h i j hi hj hij
    have := h.lt hij hj
    rw [key8_at (List.getElem?_eq_getElem hi), key8_at (List.getElem?_eq_getElem hj)] at this
    exact this
  · intro h j h0 hj
    have := h (j - 1) j (by omega) hj (by omega)
    rw [key8_at (List.getElem?_eq_getElem (show j - 1 < K.length by omega)), key8_at (List.getElem?_eq_getElem hj)]
    exact this
theorem pos8_goes (leaf : Bool) (key : ByteArray) : ∀ (K : List ByteArray), (∀ i, i < pos8 leaf key K → goes8 leaf key (key8 K i) = true) ∧ (pos8 leaf key K < K.length → goes8 leaf key (key8 K (pos8 leaf key K)) = false)
  | [] => ⟨fun i h => absurd h (Nat.not_lt_zero _), fun h => absurd h (Nat.not_lt_zero _)⟩
  | s :: l => by
    obtain ⟨h1, h2⟩ := pos8_goes leaf key l
    rw [pos8]
    cases hg : goes8 leaf key s with
    | true =>
      rw [if_pos rfl]
      refine ⟨fun i hi => ?_, fun h => h2 (by simpa using h)⟩
      cases i with
      | zero => exact hg
      | succ i => exact h1 i (by omega)
    | false =>
      rw [if_neg (by decide)]
      exact ⟨fun i h => absurd h (Nat.not_lt_zero _), fun _ => hg⟩
theorem goes_leaf (key s : ByteArray) : goes8 true key s = true ↔ ltS s key := by unfold goes8 ltS; simp
theorem stands_leaf2 {n : Nd} (hl : n.leaf = true) : Stands8 n ↔ (∀ s ∈ n.keys, s.size ≤ 128) ∧ n.keys.Pairwise ltS ∧ (∀ s ∈ n.vals, s.size ≤ 200) ∧ n.vals.length = n.keys.length ∧ n.kids = [] := by
  obtain ⟨leaf, K, V, Z⟩ := n
  simp only at hl
  subst hl
  rw [stands_leaf, ← riz_pw]
  constructor
  · rintro ⟨h1, h2, h3, h4⟩
    refine ⟨fun s hs => ?_, fun j h0 hj => (h1 j hj).2 h0, fun s hs => ?_, h3, List.eq_nil_of_length_eq_zero h4⟩
    · obtain ⟨j, hj, rfl⟩ := List.getElem_of_mem hs
      have := (h1 j hj).1
      rwa [key8_at (List.getElem?_eq_getElem hj)] at this
    · obtain ⟨j, hj, rfl⟩ := List.getElem_of_mem hs
      have := h2 j hj
      rwa [key8_at (List.getElem?_eq_getElem hj)] at this
  · rintro ⟨h1, h2, h3, h4, h5⟩
    simp only at h5
    refine ⟨fun j hj => ⟨?_, fun h0 => h2 j h0 hj⟩, fun j hj => ?_, h4, by rw [h5]; rfl⟩
    · rw [key8_at (List.getElem?_eq_getElem hj)]; exact h1 _ (List.getElem_mem hj)
    · rw [key8_at (List.getElem?_eq_getElem hj)]; exact h3 _ (List.getElem_mem hj)
theorem find_at {n : Nd} {x : ByteArray} {i : Nat} (hs : Stands8 n) (hl : n.leaf = true) (h : n.keys[i]? = some x) : find8 n x = (i, true) := by
  have hi : i < n.keys.length := by
    rcases Nat.lt_or_ge i n.keys.length with h1 | h1
    · exact h1
    · rw [List.getElem?_eq_none h1] at h; cases h
  have hx := key8_at h
  have hp : pos8 true x n.keys = i := pos8_is (Nat.le_of_lt hi) (fun j hj => by
      rw [goes_leaf]
      have := hs.riz.lt hj hi
      rw [hx] at this
      exact this) (fun _ => by
      rw [hx]
      cases hq : goes8 true x x with
      | false => rfl
      | true => exact absurd ((goes_leaf _ _).1 hq) (ltS_irr x))
  unfold find8
  rw [st8_yes hs, if_pos rfl]
  unfold at8
  rw [hl, hp, hx]
  simp [hi]
theorem find_pos {n : Nd} {x : ByteArray} (h : (find8 n x).2 = true) : n.keys[(find8 n x).1]? = some x := by
  obtain ⟨hs, hl, hlt, _⟩ := find8_yes h
  rw [key8_some hlt]
  unfold find8 at h ⊢
  rw [st8_yes hs, if_pos rfl] at h ⊢
  unfold at8 at h
  simp only [Bool.and_eq_true] at h
  have h2 := eq_of_beq h.2.2
  rw [tol, tol] at h2
  exact congrArg some (ba_ext h2)
theorem find_mem {n : Nd} {x : ByteArray} (hs : Stands8 n) (hl : n.leaf = true) : (find8 n x).2 = true ↔ x ∈ n.keys := by
  constructor
  · intro h; exact List.mem_of_getElem? (find_pos h)
  · intro h
    obtain ⟨i, hi, e⟩ := List.getElem_of_mem h
    rw [find_at hs hl (i := i) (by rw [List.getElem?_eq_getElem hi, e])]
/-- What stands ahead of a key's place is less, what stands behind is greater. -/
theorem around {n : Nd} {key : ByteArray} (hs : Stands8 n) (hl : n.leaf = true) :
    (find8 n key).1 ≤ n.keys.length ∧ (find8 n key).1 + gone8 (find8 n key).2 ≤ n.keys.length ∧ (∀ s ∈ n.keys.take (find8 n key).1, ltS s key) ∧ (∀ s ∈ n.keys.drop ((find8 n key).1 + gone8 (find8 n key).2), ltS key s) := by
  have hR := hs.riz
  have hP : (find8 n key).1 = pos8 true key n.keys := by unfold find8; rw [st8_yes hs, if_pos rfl, hl]
  have hle : (find8 n key).1 ≤ n.keys.length := by rw [hP]; exact pos8_le _ _ _
  obtain ⟨g1, g2⟩ := pos8_goes true key n.keys
  rw [← hP] at g1 g2
  refine ⟨hle, ?_, fun s h => ?_, fun s h => ?_⟩
  · cases hq : (find8 n key).2 with
    | true => exact (find8_yes hq).2.2.1
    | false => exact hle
  · obtain ⟨j, hj, rfl⟩ := List.getElem_of_mem h
    rw [List.length_take] at hj
    have := (goes_leaf _ _).1 (g1 j (by omega))
    rw [key8_at (List.getElem?_eq_getElem (show j < n.keys.length by omega))] at this
    rw [List.getElem_take]; exact this
  · obtain ⟨j, hj, e⟩ := List.getElem_of_mem h
    rw [List.length_drop] at hj
    have hjl : (find8 n key).1 + gone8 (find8 n key).2 + j < n.keys.length := by omega
    rw [List.getElem_drop] at e
    have e2 : s = key8 n.keys ((find8 n key).1 + gone8 (find8 n key).2 + j) := by rw [key8_at (List.getElem?_eq_getElem hjl)]; exact e.symm
    rw [e2]
    clear e e2 h hj
    obtain ⟨fb, hq⟩ : ∃ b, (find8 n key).2 = b := ⟨_, rfl⟩
    rw [hq] at hjl ⊢
    cases fb
    · show ltS key (key8 n.keys ((find8 n key).1 + 0 + j))
      have hjl2 : (find8 n key).1 + 0 + j < n.keys.length := hjl
      have hPl : (find8 n key).1 < n.keys.length := by omega
      have h3 : ltS key (key8 n.keys (find8 n key).1) := by
        refine ltS_total (fun hlt => ?_) (fun e => ?_)
        · have := g2 hPl
          rw [(goes_leaf _ _).2 hlt] at this; cases this
        · have := find_at hs hl (x := key) (i := (find8 n key).1) (by rw [key8_some hPl, e])
          rw [this] at hq; cases hq
      rw [Nat.add_zero] at *
      rcases Nat.eq_zero_or_pos j with h0 | h0
      · subst h0; exact h3
      · exact ltS_trans h3 (hR.lt (by omega) hjl2)
    · have h1 := key8_at (find_pos hq)
      have h2 := hR.lt (a := (find8 n key).1) (b := (find8 n key).1 + gone8 true + j) (by show _ < _ + 1 + j; omega) hjl
      rw [h1] at h2
      exact h2
theorem mem_chg {L M : List ByteArray} {a g : Nat} {s : ByteArray} : s ∈ chg8 L a g M ↔ s ∈ L.take a ∨ s ∈ M ∨ s ∈ L.drop (a + g) := by
  unfold chg8; rw [List.mem_append, List.mem_append, or_assoc]
theorem len_chg {L M : List ByteArray} {a g : Nat} (h : a + g ≤ L.length) : (chg8 L a g M).length = L.length - g + M.length := by
  unfold chg8; simp only [List.length_append, List.length_take, List.length_drop]; omega
theorem chg_ahead {L M : List ByteArray} {a g j : Nat} (hj : j < a) (h : a + g ≤ L.length) : (chg8 L a g M)[j]? = L[j]? := by
  unfold chg8
  rw [List.append_assoc, List.getElem?_append_left (by rw [List.length_take]; omega), List.getElem?_take, if_pos hj]
theorem chg_at {L : List ByteArray} {a g : Nat} {s : ByteArray} (h : a + g ≤ L.length) : (chg8 L a g [s])[a]? = some s := by
  unfold chg8
  rw [List.append_assoc, List.getElem?_append_right (by rw [List.length_take]; omega), List.length_take, Nat.min_eq_left (by omega), Nat.sub_self]; rfl
theorem chg_behind {L : List ByteArray} {a g j : Nat} {s : ByteArray} (h : a + g ≤ L.length) : (chg8 L a g [s])[a + 1 + j]? = L[a + g + j]? := by
  unfold chg8
  rw [List.getElem?_append_right (by rw [List.length_append, List.length_take]; simp; omega), List.length_append, List.length_take, Nat.min_eq_left (by omega), List.getElem?_drop]
  congr 1
  simp
theorem chg_behind0 {L : List ByteArray} {a g j : Nat} (h : a + g ≤ L.length) : (chg8 L a g [])[a + j]? = L[a + g + j]? := by
  unfold chg8
  rw [List.append_nil, List.getElem?_append_right (by rw [List.length_take]; omega), List.length_take, Nat.min_eq_left (by omega), List.getElem?_drop]
  congr 1
  simp
section
variable {n : Nd} {key val : ByteArray} (hs : Stands8 n) (hl : n.leaf = true)
include hs hl
theorem drop_pw : (n.keys.take (find8 n key).1 ++ n.keys.drop ((find8 n key).1 + gone8 (find8 n key).2)).Pairwise ltS := by
  have h2 := ((stands_leaf2 hl).1 hs).2.1
  obtain ⟨_, _, h3, h4⟩ := around (key := key) hs hl
  rw [List.pairwise_append]
  exact ⟨h2.sublist (List.take_sublist _ _), h2.sublist (List.drop_sublist _ _), fun a ha b hb => ltS_trans (h3 a ha) (h4 b hb)⟩
theorem put_stands (hk : key.size ≤ 128) (hv : val.size ≤ 200) : Stands8 (put8 n (find8 n key).1 (gone8 (find8 n key).2) key val) := by
  obtain ⟨h1, h2, h3, h4, h5⟩ := (stands_leaf2 hl).1 hs
  obtain ⟨a1, a2, a3, a4⟩ := around (key := key) hs hl
  refine (stands_leaf2 rfl).2 ⟨fun s hm => ?_, ?_, fun s hm => ?_, ?_, rfl⟩
  · rcases mem_chg.1 hm with h | h | h
    · exact h1 s (List.mem_of_mem_take h)
    · rw [List.mem_singleton] at h; subst h; exact hk
    · exact h1 s (List.mem_of_mem_drop h)
  · show (chg8 _ _ _ _).Pairwise ltS
    unfold chg8
    rw [List.append_assoc, List.pairwise_append, List.singleton_append, List.pairwise_cons]
    refine ⟨h2.sublist (List.take_sublist _ _), ⟨a4, h2.sublist (List.drop_sublist _ _)⟩, fun a ha b hb => ?_⟩
    rcases List.mem_cons.1 hb with rfl | hb
    · exact a3 a ha
    · exact ltS_trans (a3 a ha) (a4 b hb)
  · rcases mem_chg.1 hm with h | h | h
    · exact h3 s (List.mem_of_mem_take h)
    · rw [List.mem_singleton] at h; subst h; exact hv
    · exact h3 s (List.mem_of_mem_drop h)
  · show (chg8 n.vals _ _ [val]).length = (chg8 n.keys _ _ [key]).length
    rw [len_chg (by rw [h4]; exact a2), len_chg a2, h4]; rfl
theorem put_key : (put8 n (find8 n key).1 (gone8 (find8 n key).2) key val).keys[(find8 n key).1]? = some key := chg_at (around (key := key) hs hl).2.1
theorem put_val : (put8 n (find8 n key).1 (gone8 (find8 n key).2) key val).vals[(find8 n key).1]? = some val := chg_at (by rw [((stands_leaf2 hl).1 hs).2.2.2.1]; exact (around (key := key) hs hl).2.1)
/-- Another key is as it was. -/
theorem put_other (hk : key.size ≤ 128) (hv : val.size ≤ 200) {x : ByteArray} (hx : x ≠ key) :
    (find8 (put8 n (find8 n key).1 (gone8 (find8 n key).2) key val) x).2 = (find8 n x).2 ∧ ((find8 n x).2 = true → (put8 n (find8 n key).1 (gone8 (find8 n key).2) key val).vals[(find8 (put8 n (find8 n key).1 (gone8 (find8 n key).2) key val) x).1]? = n.vals[(find8 n x).1]?) := by
  have hS := put_stands (key := key) (val := val) hs hl hk hv
  obtain ⟨a1, a2, a3, a4⟩ := around (key := key) hs hl
  have hvl := ((stands_leaf2 hl).1 hs).2.2.2.1
  have hyes : (find8 n x).2 = true → ∃ i, find8 (put8 n (find8 n key).1 (gone8 (find8 n key).2) key val) x = (i, true) ∧ (put8 n (find8 n key).1 (gone8 (find8 n key).2) key val).vals[i]? = n.vals[(find8 n x).1]? := fun hq => by
    have hj := find_pos hq
    rcases Nat.lt_or_ge (find8 n x).1 (find8 n key).1 with h1 | h1
    · refine ⟨(find8 n x).1, find_at hS rfl ?_, ?_⟩
      · exact (chg_ahead h1 a2).trans hj
      · exact chg_ahead h1 (by rw [hvl]; exact a2)
    · have h2 : (find8 n key).1 + gone8 (find8 n key).2 ≤ (find8 n x).1 := by
        cases hg : (find8 n key).2 with
        | false => exact h1
        | true =>
          have h3 := find_pos hg
          have : (find8 n key).1 ≠ (find8 n x).1 := fun e => by
            rw [e] at h3
            rw [hj] at h3
            injection h3 with h3
            exact hx h3
          show (find8 n key).1 + 1 ≤ _
          omega
      obtain ⟨j, hj2⟩ : ∃ j, (find8 n x).1 = (find8 n key).1 + gone8 (find8 n key).2 + j := ⟨(find8 n x).1 - ((find8 n key).1 + gone8 (find8 n key).2), by omega⟩
      refine ⟨(find8 n key).1 + 1 + j, find_at hS rfl ?_, ?_⟩
      · refine (chg_behind a2).trans ?_
        rw [← hj2]; exact hj
      · refine (chg_behind (by rw [hvl]; exact a2)).trans ?_
        rw [← hj2]
  cases hq : (find8 n x).2 with
  | true =>
    obtain ⟨i, e1, e2⟩ := hyes hq
    rw [e1]
    exact ⟨rfl, fun _ => e2⟩
  | false =>
    refine ⟨?_, fun h => by cases h⟩
    cases hm : (find8 (put8 n (find8 n key).1 (gone8 (find8 n key).2) key val) x).2 with
    | false => rfl
    | true =>
      exfalso
      have h1 := (find_mem hS rfl).1 hm
      have h2 : x ∈ n.keys := by
        rcases mem_chg.1 h1 with h | h | h
        · exact List.mem_of_mem_take h
        · rw [List.mem_singleton] at h; exact absurd h hx
        · exact List.mem_of_mem_drop h
      rw [(find_mem hs hl).2 h2] at hq; cases hq
/-- What was put, dropped again: the keys but that one. -/
theorem put_drop : (drop8 (put8 n (find8 n key).1 (gone8 (find8 n key).2) key val) (find8 n key).1).keys = chg8 n.keys (find8 n key).1 (gone8 (find8 n key).2) [] := by
  obtain ⟨a1, a2, a3, a4⟩ := around (key := key) hs hl
  apply List.ext_getElem?
  intro i
  show (chg8 (chg8 n.keys _ _ [key]) _ 1 [])[i]? = _
  have hl2 : (find8 n key).1 + 1 ≤ (chg8 n.keys (find8 n key).1 (gone8 (find8 n key).2) [key]).length := by rw [len_chg a2]; simp; omega
  rcases Nat.lt_or_ge i (find8 n key).1 with h | h
  · rw [chg_ahead h hl2, chg_ahead h a2, chg_ahead h a2]
  · obtain ⟨j, rfl⟩ : ∃ j, i = (find8 n key).1 + j := ⟨i - (find8 n key).1, by omega⟩
    rw [chg_behind0 hl2, chg_behind a2, chg_behind0 a2]
theorem put_dropped : (find8 (drop8 (put8 n (find8 n key).1 (gone8 (find8 n key).2) key val) (find8 n key).1) key).2 = false := by
  obtain ⟨a1, a2, a3, a4⟩ := around (key := key) hs hl
  cases hq : (find8 (drop8 (put8 n (find8 n key).1 (gone8 (find8 n key).2) key val) (find8 n key).1) key).2 with
  | false => rfl
  | true =>
    exfalso
    have h1 := List.mem_of_getElem? (find_pos hq)
    rw [put_drop hs hl] at h1
    rcases mem_chg.1 h1 with h | h | h
    · exact ltS_irr _ (a3 _ h)
    · cases h
    · exact ltS_irr _ (a4 _ h)
end
end Go.Proofs.Ytpnnbfojdccfhaa
