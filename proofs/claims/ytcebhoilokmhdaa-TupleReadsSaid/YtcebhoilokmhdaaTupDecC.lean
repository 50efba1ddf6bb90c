/- Layer 2: Decode, case by case; TupleBack. -/
import Derived.Test.YtcebhoilokmhdaaTupDecB
namespace Go.Proofs.Ytcebhoilokmhdaa
open Go.RowKit
set_option linter.unusedVariables false

set_option maxRecDepth 100000 in
theorem decode_big (S : ByteArray) (hs : (128 : Int) < S.size) (w : World) :
    Calls Try.prog 40 #[.string S] w fun e w' => e = .returned (.tuple #[.slice none 0 0, .int .i64 5]) ∧ Below w.heap.size w w' := by
  go_enter Try.func40, Try.ntmps40
  go_wp2
  refine wp_scope_many (fun _ _ _ => False) (fun _ _ _ => 0) ?_ ?_
  · go_wp2
    simp only [jumps]
    go_ret2
    exact ⟨rfl, Below.refl _ _⟩
  · intro l a wr h
    exact h.elim
theorem decode_none (S : ByteArray) (hs : (S.size : Int) ≤ 128) (hd : dec S.data.toList = none) (w : World) :
    Calls Try.prog 40 #[.string S] w fun e w' => e = .returned (.tuple #[.slice none 0 0, .int .i64 4]) ∧ Below w.heap.size w w' := by
  refine (decode_any S hs w).mono ?_
  rintro e w' ⟨⟨h, _⟩ | ⟨_, _, h⟩ | ⟨_, v, ps, h, _⟩, hb⟩
  · rw [len_ba] at h; omega
  · exact ⟨h, hb⟩
  · rw [hd] at h; cases h
theorem fine_dec {L : List UInt8} {ps : List Pt} (hl : L.length ≤ 128) (hd : dec L = some ps) : fine ps := by
  obtain ⟨h1, h2⟩ := dec_back _ L ps (Nat.le_refl _) hd
  have h3 : pszs ps ≤ 128 := by rw [← len_kby, h1]; exact hl
  refine ⟨fun p hp => ⟨?_, (h2 p hp).2⟩, ?_⟩
  · have := size_le_psz p.k p.n p.s (h2 p hp).1
    have := psz_le_mem hp
    omega
  · have := pszs_len ps; omega
theorem decode_some (S : ByteArray) (hs : (S.size : Int) ≤ 128) (ps : List Pt) (hd : dec S.data.toList = some ps) (w : World) :
    Calls Try.prog 40 #[.string S] w fun e w' => ∃ A c, e = .returned (.tuple #[.slice A ps.length c, .int .i64 0]) ∧ Parts w' w'.heap.size (.slice A ps.length c) ps ∧ Below w.heap.size w w' := by
  refine (decode_any S hs w).mono ?_
  rintro e w' ⟨⟨h, _⟩ | ⟨_, h, _⟩ | ⟨_, v, ps', h, he, ho⟩, hb⟩
  · rw [len_ba] at h; omega
  · rw [hd] at h; cases h
  · rw [hd] at h; cases h
    have hp := parts_of_own ho (fine_dec (by rw [len_ba]; omega) hd)
    obtain ⟨A, c, rfl, hx⟩ := hp
    exact ⟨A, c, he, ⟨A, c, rfl, hx⟩, hb⟩
/-- What is read of bytes is a key, of just these bytes. -/
theorem chk_dec {S : ByteArray} {ps : List Pt} (hs : (S.size : Int) ≤ 128) (hd : dec S.data.toList = some ps) : chk ps = 0 ∧ encS ps = S := by
  obtain ⟨h1, h2⟩ := dec_back _ _ ps (Nat.le_refl _) hd
  have h3 : pszs ps ≤ 128 := by rw [← len_kby, h1, len_ba]; omega
  have hc := chk_of (fun p hp => (h2 p hp).1) h3
  refine ⟨hc, ?_⟩
  rw [encS_ok hc, h1]
theorem dec_encS {l : List Pt} (hf : fine l) (hc : chk l = 0) : dec (encS l).data.toList = some l := by
  rw [encS_ok hc]
  exact dec_kby l (rgt_of hc hf)
end Go.Proofs.Ytcebhoilokmhdaa
