/- The walk of ambrylaw02.TupleJoins. -/
import Derived.Test.YtcebhoilokmhdaaTupApp
namespace Go.Proofs.Ytcebhoilokmhdaa
open Go.RowKit
set_option linter.unusedVariables false

theorem chk_app_ok {a b : List Pt} (ha : chk a = 0) (hb : chk b = 0) : chk (a ++ b) = if pszs a + pszs b ≤ 128 then 0 else 5 := by
  unfold chk
  rw [if_pos, pszs_app]
  rw [List.all_eq_true]
  intro p hp
  rcases List.mem_append.1 hp with h | h
  · exact (chk_ok ha).1 p h
  · exact (chk_ok hb).1 p h
theorem chk_app_no {a b : List Pt} (h : ¬ (chk a = 0 ∧ chk b = 0)) : chk (a ++ b) ≠ 0 := fun h0 => by
  obtain ⟨h1, h2⟩ := chk_ok h0
  rw [pszs_app] at h2
  exact h ⟨chk_of (fun p hp => h1 p (List.mem_append.2 (.inl hp))) (by omega), chk_of (fun p hp => h1 p (List.mem_append.2 (.inr hp))) (by omega)⟩

set_option maxRecDepth 100000 in
set_option maxHeartbeats 2000000 in
theorem tupleJoins_walk (va : Value) (a : List Pt) (vb : Value) (b : List Pt) (w : World) (ha : Parts w w.heap.size va a) (hb : Parts w w.heap.size vb b) :
    Calls Try.prog 15 #[va, vb] w fun e w' => e = .returned (.bool true) ∧ Below w.heap.size w w' := by
  obtain ⟨i0, hi, hz0, hz1, hz2⟩ := info_parts3 Try.infoPart
  have HA := Lib.hid ha
  have HB := Lib.hid hb
  clear ha hb
  obtain ⟨fa, hfa⟩ : ∃ f, f = decide (a.length ≤ 1000) := ⟨_, rfl⟩
  obtain ⟨fb, hfb⟩ : ∃ f, f = decide (b.length ≤ 1000) := ⟨_, rfl⟩
  have HFA := Lib.hid (few_any va a w HA.out fa hfa)
  have HFB := Lib.hid (few_any vb b w HB.out fb hfb)
  have HLA := Lib.hid (show fa = true → a.length ≤ 1000 from fun h => by rw [hfa] at h; simpa using h)
  have HLB := Lib.hid (show fb = true → b.length ≤ 1000 from fun h => by rw [hfb] at h; simpa using h)
  clear hfa hfb
  cases fa
  · go_enter Try.func15, Try.ntmps15
    go_wp2_with (first
      | (go_at_call 45; refine HFA.out.mono ?_; rintro e w' ⟨rfl, rfl⟩)
      | (go_at_call 34; refine (lives2_any _).mono ?_; rintro e w2 ⟨rfl, hl⟩))
    go_ret
    exact ⟨rfl, hl⟩
  cases fb
  · go_enter Try.func15, Try.ntmps15
    go_wp2_with (first
      | (go_at_call_of 45 va; refine HFA.out.mono ?_; rintro e w' ⟨rfl, rfl⟩)
      | (go_at_call_of 45 vb; refine HFB.out.mono ?_; rintro e w' ⟨rfl, rfl⟩)
      | (go_at_call 34; refine (lives2_any _).mono ?_; rintro e w2 ⟨rfl, hl⟩))
    go_ret
    exact ⟨rfl, hl⟩
  have hla := HLA.out rfl
  have hlb := HLB.out rfl
  obtain ⟨S, hS⟩ : ∃ S, encS a = S := ⟨_, rfl⟩
  obtain ⟨T, hT⟩ : ∃ T, encS b = T := ⟨_, rfl⟩
  obtain ⟨ca, hca⟩ : ∃ c, chk a = c := ⟨_, rfl⟩
  obtain ⟨cb, hcb⟩ : ∃ c, chk b = c := ⟨_, rfl⟩
  obtain ⟨cu, hcu⟩ : ∃ c, chk (a ++ b) = c := ⟨_, rfl⟩
  obtain ⟨U, hU⟩ : ∃ U, encS (a ++ b) = U := ⟨_, rfl⟩
  have HFI := Lib.hid (fine_app HA.out.fine HB.out.fine (by omega))
  have key : (ca = 0 ∧ cb = 0 ∧ cu = 0 ∧ (S.size : Int) + T.size ≤ 128 ∧ (U.toList == (S ++ T).toList) = true) ∨ (ca = 0 ∧ cb = 0 ∧ cu = 5 ∧ (128 : Int) < (S.size : Int) + T.size ∧ (S.size : Int) + T.size ≤ 1000 ∧ U.toList.isEmpty = true) ∨
      (((ca == 0) = false ∧ (ca != 0) = true) ∧ ((cu == 0) = false ∧ (cu != 0) = true) ∧ U.toList.isEmpty = true) ∨ (((ca == 0) = true ∧ (ca != 0) = false ∧ (cb == 0) = false ∧ (cb != 0) = true) ∧ ((cu == 0) = false ∧ (cu != 0) = true) ∧ U.toList.isEmpty = true) := by
    by_cases h0 : ca = 0 ∧ cb = 0
    · obtain ⟨rfl, rfl⟩ := h0
      have e1 := encS_size hca
      have e2 := encS_size hcb
      rw [hS] at e1
      rw [hT] at e2
      have h1 := (chk_ok hca).2
      have h2 := (chk_ok hcb).2
      have h3 := chk_app_ok hca hcb
      rw [hcu] at h3
      by_cases h4 : pszs a + pszs b ≤ 128
      · rw [if_pos h4] at h3
        subst h3
        refine .inl ⟨rfl, rfl, rfl, by omega, ?_⟩
        have : U = S ++ T := by
          rw [← hU, ← hS, ← hT, encS_ok hca, encS_ok hcb, encS_ok hcu, kby_app]
          apply ByteArray.ext
          simp
        rw [this]; simp
      · rw [if_neg h4] at h3
        subst h3
        refine .inr (.inl ⟨rfl, rfl, rfl, by omega, by omega, ?_⟩)
        rw [← hU, encS_no (by rw [hcu]; decide)]
        exact str_is_empty rfl
    · have h3 := chk_app_no (a := a) (b := b) (by rw [hca, hcb]; exact h0)
      have hE : U.toList.isEmpty = true := by rw [← hU, encS_no h3]; exact str_is_empty rfl
      rw [hcu] at h3
      by_cases h1 : ca = 0
      · have h2 : cb ≠ 0 := fun h => h0 ⟨h1, h⟩
        exact .inr (.inr (.inr ⟨⟨by simpa using h1, by simpa using h1, by simpa using h2, by simpa using h2⟩, ⟨by simpa using h3, by simpa using h3⟩, hE⟩))
      · exact .inr (.inr (.inl ⟨⟨by simpa using h1, by simpa using h1⟩, ⟨by simpa using h3, by simpa using h3⟩, hE⟩))
  have HS := Lib.hid hS
  have HT := Lib.hid hT
  have HU := Lib.hid hU
  have HCA := Lib.hid hca
  have HCB := Lib.hid hcb
  have HCU := Lib.hid hcu
  have HI := Lib.hid hi
  clear hS hT hU hca hcb hcu hi
  rcases key with ⟨rfl, rfl, rfl, h1, h2⟩ | ⟨rfl, rfl, rfl, h1, h2, h3⟩ | ⟨⟨h1, h2⟩, ⟨h3, h4⟩, h5⟩ | ⟨⟨h1, h2, h6, h7⟩, ⟨h3, h4⟩, h5⟩
  all_goals
    go_enter Try.func15, Try.ntmps15
    go_wp2_with (first
      | (go_at_call_of 45 va; refine HFA.out.mono ?_; rintro e w' ⟨rfl, rfl⟩)
      | (go_at_call_of 45 vb; refine HFB.out.mono ?_; rintro e w' ⟨rfl, rfl⟩)
      | (go_at_call_of 35 va; refine (encode_any va a _ HA.out S _ HCA.out HS.out).mono ?_; rintro e w1 ⟨rfl, hb1⟩)
      | (go_at_call_of 35 vb; refine (encode_any vb b _ (HB.out.at_ hb1) T _ HCB.out HT.out).mono ?_; rintro e w2 ⟨rfl, hb2⟩; have hb12 := bthen hb1 hb1.size hb2; clear hb2)
      | (at_builtin; refine wpList_app_parts rfl _ _ 54 rfl w2.heap.size w.heap.size 88 i0 Try.underlying54 HI.out hz0 hz1 hz2 (.slice (some ⟨w2.heap.size, 0, none⟩) 0 0) va [] a rfl rfl (own_empty_parts w2 w2.heap.size (Nat.le_refl _)) ((HA.out.below hb12 (Nat.le_refl _)).below ((Below.refl _ _).alloc (Nat.le_refl _) _) hb12.size) (by simp; omega) (by simp) ?_; intro v5 w5 ho5 ht5; have hb5 := own_below3 (own_empty_parts w2 w2.heap.size (Nat.le_refl _)) ht5 (by simp); have HO5 := Lib.hid ho5; clear ho5 ht5; have hb15 := (hb12.alloc hb12.size (.cells #[] 88)).trans (hb5.mono hb12.size))
      | (at_builtin; refine wpList_app_parts rfl _ _ 54 rfl w2.heap.size w.heap.size 88 i0 Try.underlying54 HI.out hz0 hz1 hz2 v5 vb a b rfl rfl HO5.out (HB.out.below hb15 (Nat.le_refl _)) (by omega) (by have := hb5.size; simp at this; omega) ?_; intro v6 w6 ho6 ht6; have hb6 := own_below3 HO5.out ht6 (by have := hb5.size; simp at this; omega); have HO6 := Lib.hid ho6; clear ho6 ht6; have hb16 := hb15.trans (hb6.mono hb12.size); have HP6 := Lib.hid (parts_of_own HO6.out HFI.out))
      | (go_at_call 35; refine (encode_any v6 (a ++ b) _ HP6.out U _ HCU.out HU.out).mono ?_; rintro e w3 ⟨rfl, hb3⟩; have hb13 := bthen hb16 hb16.size hb3; clear hb3)
      | (go_at_call 34; refine (lives2_any _).mono ?_; rintro e w4 ⟨rfl, hl⟩))
    go_ret
    exact ⟨rfl, bthen hb13 hb13.size hl⟩
end Go.Proofs.Ytcebhoilokmhdaa
