/- Layer 8: halves of a leaf, plain. -/
import Derived.Test.YtpnnbfojdccfhaaPgY
import Derived.Test.YtpnnbfojdccfhaaPgT
namespace Go.Proofs.Ytpnnbfojdccfhaa
set_option linter.unusedVariables false
set_option maxRecDepth 100000

theorem sumS_drop_le (L : List ByteArray) (a : Nat) : sumS (L.drop a) ≤ sumS L := by
  have h := sumS_app (L.take a) (L.drop a)
  rw [List.take_append_drop] at h
  omega
theorem sumS_split (L : List ByteArray) (a : Nat) : sumS L = sumS (L.take a) + sumS (L.drop a) := by
  rw [← sumS_app, List.take_append_drop]
theorem sumS_chg (L : List ByteArray) (a g : Nat) (s : ByteArray) : sumS (chg8 L a g [s]) ≤ sumS L + s.size := by
  unfold chg8
  rw [sumS_app, sumS_app, sumS_split L a]
  have h := sumS_drop_le (L.drop a) g
  rw [List.drop_drop] at h
  simp only [sumS]
  omega
theorem size_leaf {n : Nd} (hl : n.leaf = true) : size8 n = 3 + sumS n.keys + 3 * n.keys.length + sumS n.vals := by
  unfold size8 kb8; rw [hl]; simp
theorem put_size (n : Nd) (a g : Nat) (key val : ByteArray) (hl : n.leaf = true) (h : a + g ≤ n.keys.length) : size8 (put8 n a g key val) ≤ size8 n + 3 + key.size + val.size := by
  rw [size_leaf hl, size_leaf (n := put8 n a g key val) rfl]
  have h1 := sumS_chg n.keys a g key
  have h2 := sumS_chg n.vals a g val
  have h3 : (chg8 n.keys a g [key]).length ≤ n.keys.length + 1 := by rw [len_chg h, List.length_singleton]; omega
  show 3 + sumS (chg8 n.keys a g [key]) + 3 * (chg8 n.keys a g [key]).length + sumS (chg8 n.vals a g [val]) ≤ _
  omega
theorem part_stands {m : Nd} (hs : Stands8 m) (hl : m.leaf = true) (a b : Nat) : Stands8 (part8 m a b) := by
  obtain ⟨h1, h2, h3, h4, h5⟩ := (stands_leaf2 hl).1 hs
  have hp : part8 m a b = ⟨true, (m.keys.take b).drop a, (m.vals.take b).drop a, []⟩ := by unfold part8; rw [hl, if_pos rfl]
  rw [hp]
  refine (stands_leaf2 rfl).2 ⟨fun s k => h1 s (List.mem_of_mem_take (List.mem_of_mem_drop k)), h2.sublist ((List.drop_sublist _ _).trans (List.take_sublist _ _)), fun s k => h3 s (List.mem_of_mem_take (List.mem_of_mem_drop k)), ?_, rfl⟩
  show ((m.vals.take b).drop a).length = ((m.keys.take b).drop a).length
  simp only [List.length_drop, List.length_take, h4]
theorem part_leaf {m : Nd} (hl : m.leaf = true) (a b : Nat) : (part8 m a b).leaf = true := by unfold part8; rw [hl]; rfl
theorem size_two {m : Nd} (hs : Stands8 m) (hl : m.leaf = true) {k : Nat} (hk : k ≤ m.keys.length) : size8 (part8 m 0 k) + size8 (part8 m k m.keys.length) = size8 m + 3 := by
  have h4 := ((stands_leaf2 hl).1 hs).2.2.2.1
  rw [size_leaf (part_leaf hl 0 k), size_leaf (part_leaf hl k _), size_leaf hl]
  have hp : ∀ a b, part8 m a b = ⟨true, (m.keys.take b).drop a, (m.vals.take b).drop a, []⟩ := fun a b => by unfold part8; rw [hl, if_pos rfl]
  rw [hp, hp]
  simp only [List.drop_zero, List.take_length, List.length_take, List.length_drop]
  rw [show m.vals.take m.keys.length = m.vals from List.take_of_length_le (by omega), sumS_split m.keys k, sumS_split m.vals k, Nat.min_eq_left hk]
  omega
theorem size_step {m : Nd} (hs : Stands8 m) (hl : m.leaf = true) {k : Nat} (hk : k < m.keys.length) : size8 (part8 m 0 (k + 1)) ≤ size8 (part8 m 0 k) + 331 := by
  obtain ⟨h1, h2, h3, h4, h5⟩ := (stands_leaf2 hl).1 hs
  rw [size_part hs (by omega), size_part hs (by omega), hl]
  have hk1 := sumS_take (key8_some hk)
  have hv1 := sumS_take (key8_some (show k < m.vals.length by omega))
  have hkz := h1 (key8 m.keys k) (List.mem_of_getElem? (key8_some hk))
  have hvz := h3 (key8 m.vals k) (List.mem_of_getElem? (key8_some (show k < m.vals.length by omega)))
  rw [hk1, hv1]
  simp only [kb8, if_true]
  omega
theorem size_none {m : Nd} (hl : m.leaf = true) : size8 (part8 m 0 0) = 3 := by
  rw [size_leaf (part_leaf hl 0 0)]
  have hp : part8 m 0 0 = ⟨true, [], [], []⟩ := by unfold part8; rw [hl, if_pos rfl]; simp
  rw [hp]; rfl
/-- Both halves fit. -/
theorem halves8 {m : Nd} (hs : Stands8 m) (hl : m.leaf = true) (hz : size8 m ≤ 1355) {k : Nat} (h1 : 1 ≤ k) (hk : k < m.keys.length) (hlo : ∀ i, 1 ≤ i → i < k → size8 (part8 m 0 i) < size8 m / 2) (hhi : k + 1 < m.keys.length → size8 m / 2 ≤ size8 (part8 m 0 k)) :
    check8 (part8 m 0 k) = 0 ∧ check8 (part8 m k m.keys.length) = 0 := by
  have hA : size8 (part8 m 0 k) ≤ 1024 := by
    have hst := size_step hs hl (k := k - 1) (by omega)
    rw [show k - 1 + 1 = k from by omega] at hst
    rcases Nat.lt_or_ge 1 k with h2 | h2
    · have := hlo (k - 1) (by omega) (by omega); omega
    · have hk1 : k - 1 = 0 := by omega
      rw [hk1, size_none hl] at hst; omega
  have h2 := size_two hs hl (Nat.le_of_lt hk)
  have hB : size8 (part8 m k m.keys.length) ≤ 1024 := by
    rcases Nat.lt_or_ge (k + 1) m.keys.length with h3 | h3
    · have := hhi h3; omega
    · have hst := size_step hs hl hk
      have hke : k + 1 = m.keys.length := by omega
      have hwhole : size8 (part8 m 0 (k + 1)) = size8 m := by
        have := size_two hs hl (Nat.le_refl m.keys.length)
        rw [hke]
        have hn : size8 (part8 m m.keys.length m.keys.length) = 3 := by
          rw [size_leaf (part_leaf hl _ _)]
          have h4 := ((stands_leaf2 hl).1 hs).2.2.2.1
          have hp : part8 m m.keys.length m.keys.length = ⟨true, [], [], []⟩ := by
            unfold part8; rw [hl, if_pos rfl]
            congr 1
            · exact List.drop_eq_nil_of_le (by rw [List.length_take]; omega)
            · exact List.drop_eq_nil_of_le (by rw [List.length_take]; omega)
          rw [hp]; rfl
        omega
      omega
  constructor
  · unfold check8; rw [st8_yes (part_stands hs hl 0 k), if_pos rfl, if_pos hA]
  · unfold check8; rw [st8_yes (part_stands hs hl k _), if_pos rfl, if_pos hB]
/-- Joined they are the whole. -/
theorem whole8 {m : Nd} (hs : Stands8 m) (hl : m.leaf = true) {k : Nat} : (part8 m 0 k).keys ++ (part8 m k m.keys.length).keys = m.keys ∧ (part8 m 0 k).vals ++ (part8 m k m.keys.length).vals = m.vals := by
  have h4 := ((stands_leaf2 hl).1 hs).2.2.2.1
  have hp : ∀ a b, part8 m a b = ⟨true, (m.keys.take b).drop a, (m.vals.take b).drop a, []⟩ := fun a b => by unfold part8; rw [hl, if_pos rfl]
  rw [hp, hp]
  simp only [List.drop_zero, List.take_length]
  rw [show m.vals.take m.keys.length = m.vals from List.take_of_length_le (by omega)]
  exact ⟨List.take_append_drop _ _, List.take_append_drop _ _⟩
end Go.Proofs.Ytpnnbfojdccfhaa
