/- Layer 8: what Read tells of bytes, plain; a row that may be nil as a list. -/
import Derived.Test.YtcmghbglnkfbaaaPgRg
import Derived.Test.YtcmghbglnkfbaaaPgRd
import Derived.Test.YtcmghbglnkfbaaaPgR
namespace Go.Proofs.Ytcmghbglnkfbaaa
open Go.RowKit
set_option linter.unusedVariables false
set_option maxRecDepth 100000

def nd0 : Nd := ⟨false, [], [], []⟩
/-- Of bytes: the node and 0, or no node and 4. -/
noncomputable def rd8 (l : List UInt8) : Nd × Nat :=
  match (if l.length = 1024 then read8 l else none) with
  | some n => if check8 n = 0 ∧ pgb n = l then (n, 0) else (nd0, 4)
  | none => (nd0, 4)
theorem rd8_len {l : List UInt8} (h : l.length ≠ 1024) : rd8 l = (nd0, 4) := by unfold rd8; rw [if_neg h]
theorem rd8_none {l : List UInt8} (h : read8 l = none) : rd8 l = (nd0, 4) := by unfold rd8; rw [h]; simp
theorem rd8_bad {l : List UInt8} {n : Nd} (h : read8 l = some n) (hb : check8 n ≠ 0 ∨ pgb n ≠ l) : rd8 l = (nd0, 4) := by
  unfold rd8
  rw [h]
  split
  · rename_i m e
    split at e
    · injection e with e
      subst e
      rw [if_neg (fun hh => by rcases hb with hb | hb; exact hb hh.1; exact hb hh.2)]
    · cases e
  · rfl
theorem rd8_ok {l : List UInt8} {n : Nd} (hl : l.length = 1024) (h : read8 l = some n) (hc : check8 n = 0) (hp : pgb n = l) : rd8 l = (n, 0) := by
  unfold rd8
  rw [h, if_pos hl]
  exact if_pos ⟨hc, hp⟩
/-- What the fields hold lies within the bytes. -/
structure In8 (l : List UInt8) (n : Nd) (b : Nat) : Prop where
  nk : n.keys.length ≤ b
  nv : n.vals.length ≤ b
  nz : n.kids.length ≤ b
  le : b ≤ l.length ∨ b = 3
  ks : ∀ s ∈ n.keys, s.size ≤ l.length
  vs : ∀ s ∈ n.vals, s.size ≤ l.length
theorem piece8_in {l : List UInt8} {a k b : Nat} {s : ByteArray} (h : piece8 l a k = some (s, b)) : a + k ≤ b ∧ b ≤ l.length ∧ s.size ≤ l.length := by
  unfold piece8 at h
  split at h
  · injection h with h; injection h with h1 h2; subst h1 h2
    refine ⟨by omega, by omega, ?_⟩
    rw [ba_sz]; simp; omega
  · cases h
theorem kid8_in {l : List UInt8} {a b : Nat} {z : Int} (h : kid8 l a = some (z, b)) : b = a + 4 ∧ b ≤ l.length := by
  unfold kid8 at h
  split at h
  · injection h with h; injection h with h1 h2; omega
  · cases h
theorem it8_in {l : List UInt8} : ∀ (j : Nat) (n : Nd) (b : Nat), it8 l (start8 l) j = some (n, b) → In8 l n b
  | 0, n, b, h => by
    unfold it8 start8 at h
    split at h
    · injection h with h; injection h with h1 h2; subst h1 h2
      exact ⟨Nat.zero_le _, Nat.zero_le _, Nat.zero_le _, .inr rfl, by simp, by simp⟩
    · cases hk : kid8 l 3 with
      | none => rw [hk] at h; cases h
      | some x =>
        rw [hk] at h
        obtain ⟨z, c⟩ := x
        injection h with h; injection h with h1 h2; subst h1 h2
        have h3 := kid8_in hk
        exact ⟨Nat.zero_le _, Nat.zero_le _, by show 1 ≤ c; omega, .inl h3.2, by simp, by simp⟩
  | j + 1, n, b, h => by
    rw [it8] at h
    cases hj : it8 l (start8 l) j with
    | none => rw [hj] at h; cases h
    | some x =>
      obtain ⟨m, a⟩ := x
      rw [hj] at h
      have hm := it8_in j m a hj
      have h := (show step8 l (m, a) = some (n, b) from h)
      unfold step8 at h
      split at h
      · cases h
      · rename_i key c hp
        have hp2 := piece8_in hp
        simp only at hp2
        split at h
        · split at h
          · cases h
          · rename_i v d hv
            have hv2 := piece8_in hv
            injection h with h; injection h with h1 h2; subst h1 h2
            refine ⟨?_, ?_, ?_, .inl hv2.2.1, ?_, ?_⟩
            · have := hm.nk; simp only [List.length_append, List.length_singleton]; omega
            · have := hm.nv; simp only [List.length_append, List.length_singleton]; omega
            · have := hm.nz; simp only; omega
            · intro s hs; rcases List.mem_append.1 hs with hs | hs; exact hm.ks s hs; rw [List.mem_singleton.1 hs]; exact hp2.2.2
            · intro s hs; rcases List.mem_append.1 hs with hs | hs; exact hm.vs s hs; rw [List.mem_singleton.1 hs]; exact hv2.2.2
        · split at h
          · cases h
          · rename_i v d hv
            have hv2 := kid8_in hv
            injection h with h; injection h with h1 h2; subst h1 h2
            refine ⟨?_, ?_, ?_, .inl hv2.2, ?_, hm.vs⟩
            · have := hm.nk; simp only [List.length_append, List.length_singleton]; omega
            · have := hm.nv; simp only; omega
            · have := hm.nz; simp only [List.length_append, List.length_singleton]; omega
            · intro s hs; rcases List.mem_append.1 hs with hs | hs; exact hm.ks s hs; rw [List.mem_singleton.1 hs]; exact hp2.2.2
theorem In8.few {l : List UInt8} {n : Nd} {b : Nat} (h : In8 l n b) (hl : l.length ≤ 2000) : Few8 n := by
  have hb : b ≤ 2000 := by rcases h.le with h1 | h1 <;> omega
  exact ⟨Nat.le_trans h.nk hb, Nat.le_trans h.nv hb, Nat.le_trans h.nz hb, fun s hs => Nat.le_trans (h.ks s hs) (by omega), fun s hs => Nat.le_trans (h.vs s hs) (by omega)⟩
theorem own_sr8 {w : World} {B n c : Nat} {A : Option Addr} {L : List ByteArray} (h : w.ownsRow B 9 1 (.slice A n c) n (L.map Value.string)) : Sr w A L := fun hp => by
  have hl : L.length = n := by have := h.1; simpa using this
  obtain ⟨g, hg⟩ : ∃ g, (Value.slice A n c).ownBlock = some g := by
    obtain ⟨_, ⟨e, hz⟩ | ⟨g, c2, cur, e, _⟩⟩ := h
    · omega
    · exact ⟨g, by rw [e]; rfl⟩
  have hA : A = some ⟨g, 0, none⟩ := by
    obtain ⟨_, ⟨e, hz⟩ | ⟨g2, c2, cur, e, _⟩⟩ := h
    · omega
    · have : g2 = g := by rw [e] at hg; simpa [Value.ownBlock] using hg
      subst this; injection e
  refine ⟨g, 0, hA, (own_blk8 h g hg).2, fun X hX j s hj => ?_⟩
  have h5 := (own_far8 h hX (fun _ _ h => h)).cells (g := g) hg j (.string s) (by rw [List.getElem?_map, hj]; rfl)
  rw [Addr.add_mid] at h5
  exact h5
theorem own_nr8 {w : World} {B n c : Nat} {A : Option Addr} {L : List Int} (h : w.ownsRow B 3 1 (.slice A n c) n (L.map (Value.int .i64))) : Nr w A L := fun hp => by
  have hl : L.length = n := by have := h.1; simpa using this
  obtain ⟨g, hg⟩ : ∃ g, (Value.slice A n c).ownBlock = some g := by
    obtain ⟨_, ⟨e, hz⟩ | ⟨g, c2, cur, e, _⟩⟩ := h
    · omega
    · exact ⟨g, by rw [e]; rfl⟩
  have hA : A = some ⟨g, 0, none⟩ := by
    obtain ⟨_, ⟨e, hz⟩ | ⟨g2, c2, cur, e, _⟩⟩ := h
    · omega
    · have : g2 = g := by rw [e] at hg; simpa [Value.ownBlock] using hg
      subst this; injection e
  refine ⟨g, 0, hA, (own_blk8 h g hg).2, fun X hX j s hj => ?_⟩
  have h5 := (own_far8 h hX (fun _ _ h => h)).cells (g := g) hg j (.int .i64 s) (by rw [List.getElem?_map, hj]; rfl)
  rw [Addr.add_mid] at h5
  exact h5
theorem bytes_differ8 {p l : List UInt8} (h : p ≠ l) : ((⟨p.toArray⟩ : ByteArray).toList != (⟨l.toArray⟩ : ByteArray).toList) = true := by
  rw [ByteArray.toList_eq, ByteArray.toList_eq]
  simp [bne, h]
end Go.Proofs.Ytcmghbglnkfbaaa
