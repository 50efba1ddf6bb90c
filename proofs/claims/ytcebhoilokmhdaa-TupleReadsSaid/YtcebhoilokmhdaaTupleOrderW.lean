/- The walk of ambrylaw02.TupleOrder. -/
import Derived.Test.YtcebhoilokmhdaaTupOrd
namespace Go.Proofs.Ytcebhoilokmhdaa
open Go.RowKit
set_option linter.unusedVariables false

theorem Parts.fine {w : World} {B : Nat} {v : Value} {ps : List Pt} (h : Parts w B v ps) : fine ps := by obtain ⟨_, _, _, _, h1, h2, _⟩ := h; exact ⟨h1, h2⟩
theorem Parts.at_ {w w' : World} {v : Value} {ps : List Pt} (h : Parts w w.heap.size v ps) (hb : Below w.heap.size w w') : Parts w' w'.heap.size v ps := (h.below hb (Nat.le_refl _)).more hb.size
set_option maxRecDepth 100000 in
theorem few_any (v : Value) (ps : List Pt) (w : World) (h : Parts w w.heap.size v ps) (b : Bool) (hb : b = decide (ps.length ≤ 1000)) :
    Calls Try.prog 45 #[v] w fun e w' => e = .returned (.bool b) ∧ w = w' := by
  obtain ⟨A, cap, rfl, hx⟩ := h
  clear hx
  by_cases hl : ps.length ≤ 1000
  · obtain rfl : b = true := by rw [hb]; simpa using hl
    have hl' : (ps.length : Int) ≤ 1000 := by omega
    clear hb hl
    go_enter Try.func45, Try.ntmps45
    go_wp2
    go_ret
    exact ⟨rfl, rfl⟩
  · obtain rfl : b = false := by rw [hb]; simpa using hl
    have hl' : ¬ (ps.length : Int) ≤ 1000 := by omega
    clear hb hl
    go_enter Try.func45, Try.ntmps45
    go_wp2
    go_ret
    exact ⟨rfl, rfl⟩

set_option maxRecDepth 100000 in
set_option maxHeartbeats 2000000 in
theorem tupleOrder_walk (va : Value) (a : List Pt) (vb : Value) (b : List Pt) (w : World) (ha : Parts w w.heap.size va a) (hb : Parts w w.heap.size vb b) :
    Calls Try.prog 12 #[va, vb] w fun e w' => e = .returned (.bool true) ∧ Below w.heap.size w w' := by
  have HA := Lib.hid ha
  have HB := Lib.hid hb
  clear ha hb
  obtain ⟨fa, hfa⟩ : ∃ f, f = decide (a.length ≤ 1000) := ⟨_, rfl⟩
  obtain ⟨fb, hfb⟩ : ∃ f, f = decide (b.length ≤ 1000) := ⟨_, rfl⟩
  have HFA := Lib.hid (few_any va a w HA.out fa hfa)
  have HFB := Lib.hid (few_any vb b w HB.out fb hfb)
  clear hfa hfb
  cases fa
  · go_enter Try.func12, Try.ntmps12
    go_wp2_with (first
      | (go_at_call 45; refine HFA.out.mono ?_; rintro e w' ⟨rfl, rfl⟩)
      | (go_at_call 34; refine (lives2_any _).mono ?_; rintro e w2 ⟨rfl, hl⟩))
    go_ret
    exact ⟨rfl, hl⟩
  cases fb
  · go_enter Try.func12, Try.ntmps12
    go_wp2_with (first
      | (go_at_call_of 45 va; refine HFA.out.mono ?_; rintro e w' ⟨rfl, rfl⟩)
      | (go_at_call_of 45 vb; refine HFB.out.mono ?_; rintro e w' ⟨rfl, rfl⟩)
      | (go_at_call 34; refine (lives2_any _).mono ?_; rintro e w2 ⟨rfl, hl⟩))
    go_ret
    exact ⟨rfl, hl⟩
  by_cases hca : chk a = 0
  · obtain ⟨S, hS⟩ : ∃ S : ByteArray, S = ⟨(kby a).toArray⟩ := ⟨_, rfl⟩
    by_cases hcb : chk b = 0
    · obtain ⟨T, hT⟩ : ∃ T : ByteArray, T = ⟨(kby b).toArray⟩ := ⟨_, rfl⟩
      have sl : S.toList = kby a := by rw [hS, ByteArray.toList_eq]
      have tl : T.toList = kby b := by rw [hT, ByteArray.toList_eq]
      have HE := Lib.hid (show cmpE a b = 0 from by unfold cmpE; rw [if_pos hca, hcb])
      obtain ⟨c, hc⟩ : ∃ c, cmpA a b = c := ⟨_, rfl⟩
      have hcc : cmpL a b = c := by rw [← hc]; unfold cmpA; rw [if_pos ⟨hca, hcb⟩]
      have key : (c = -1 ∧ Op.bytesLess S.toList T.toList = true ∧ (S.toList == T.toList) = false) ∨ (c = 0 ∧ Op.bytesLess S.toList T.toList = false ∧ (S.toList == T.toList) = true) ∨ (c = 1 ∧ Op.bytesLess S.toList T.toList = false ∧ (S.toList == T.toList) = false) := by
        rw [sl, tl, ← hcc]
        rcases key_cases a b (rgt_of hca HA.out.fine) (rgt_of hcb HB.out.fine) with ⟨h1, h2⟩ | ⟨h1, h2⟩ | ⟨h1, h2⟩
        · exact .inl ⟨h1, h2, by simpa using bl_ne h2⟩
        · exact .inr (.inl ⟨h1, by rw [h2]; exact bl_irrefl _, by rw [h2]; simp⟩)
        · exact .inr (.inr ⟨h1, bl_asymm h2, by simpa using (bl_ne h2).symm⟩)
      have HS := Lib.hid hS
      have HT := Lib.hid hT
      have HC := Lib.hid hc
      have HCA := Lib.hid hca
      have HCB := Lib.hid hcb
      clear hS hT sl tl hc hcc hca hcb
      rcases key with ⟨rfl, h1, h2⟩ | ⟨rfl, h1, h2⟩ | ⟨rfl, h1, h2⟩
      all_goals
        go_enter Try.func12, Try.ntmps12
        go_wp2_with (first
          | (go_at_call_of 45 va; refine HFA.out.mono ?_; rintro e w' ⟨rfl, rfl⟩)
          | (go_at_call_of 45 vb; refine HFB.out.mono ?_; rintro e w' ⟨rfl, rfl⟩)
          | (go_at_call_of 35 va; refine (encode_ok va a _ HA.out HCA.out S HS.out).mono ?_; rintro e w1 ⟨rfl, hb1⟩)
          | (go_at_call_of 35 vb; refine (encode_ok vb b _ (HB.out.at_ hb1) HCB.out T HT.out).mono ?_; rintro e w2 ⟨rfl, hb2⟩; have hb12 := bthen hb1 hb1.size hb2; clear hb2)
          | (go_at_call 43; refine (compare_any va vb a b _ (HA.out.at_ hb12) (HB.out.at_ hb12)).mono ?_; rintro e w3 ⟨rfl, hb3⟩; rw [HC.out, HE.out]; have hb13 := bthen hb12 hb12.size hb3; clear hb3)
          | (go_at_call 34; refine (lives2_any _).mono ?_; rintro e w4 ⟨rfl, hl⟩))
        go_ret
        exact ⟨rfl, bthen hb13 hb13.size hl⟩
    · have HE := Lib.hid (show cmpE a b = chk b from by unfold cmpE; rw [if_pos hca])
      have HC := Lib.hid (show cmpA a b = 0 from by unfold cmpA; rw [if_neg (fun h => hcb h.2)])
      have HN := Lib.hid (encode_no vb b)
      obtain ⟨c, hc⟩ : ∃ c, chk b = c := ⟨_, rfl⟩
      rw [hc] at hcb HE HN
      have h1 : (c == 0) = false := by simpa using hcb
      have h2 : (c != 0) = true := by simpa using hcb
      have HS := Lib.hid hS
      have HCA := Lib.hid hca
      have HCB := Lib.hid hcb
      clear hS hc hca hcb
      go_enter Try.func12, Try.ntmps12
      go_wp2_with (first
        | (go_at_call_of 45 va; refine HFA.out.mono ?_; rintro e w' ⟨rfl, rfl⟩)
        | (go_at_call_of 45 vb; refine HFB.out.mono ?_; rintro e w' ⟨rfl, rfl⟩)
        | (go_at_call_of 35 va; refine (encode_ok va a _ HA.out HCA.out S HS.out).mono ?_; rintro e w1 ⟨rfl, hb1⟩)
        | (go_at_call_of 35 vb; refine (HN.out _ (HB.out.at_ hb1) HCB.out).mono ?_; rintro e w2 ⟨rfl, hb2⟩; have hb12 := bthen hb1 hb1.size hb2; clear hb2)
        | (go_at_call 43; refine (compare_any va vb a b _ (HA.out.at_ hb12) (HB.out.at_ hb12)).mono ?_; rintro e w3 ⟨rfl, hb3⟩; rw [HC.out, HE.out]; have hb13 := bthen hb12 hb12.size hb3; clear hb3)
        | (go_at_call 34; refine (lives2_any _).mono ?_; rintro e w4 ⟨rfl, hl⟩))
      go_ret
      exact ⟨rfl, bthen hb13 hb13.size hl⟩
  · have HE := Lib.hid (show cmpE a b = chk a from by unfold cmpE; rw [if_neg hca])
    have HC := Lib.hid (show cmpA a b = 0 from by unfold cmpA; rw [if_neg (fun h => hca h.1)])
    have HN := Lib.hid (encode_no va a)
    obtain ⟨c, hc⟩ : ∃ c, chk a = c := ⟨_, rfl⟩
    rw [hc] at hca HE HN
    have h1 : (c == 0) = false := by simpa using hca
    have h2 : (c != 0) = true := by simpa using hca
    have HCA := Lib.hid hca
    clear hc hca
    by_cases hcb : chk b = 0
    · obtain ⟨T, hT⟩ : ∃ T : ByteArray, T = ⟨(kby b).toArray⟩ := ⟨_, rfl⟩
      have HT := Lib.hid hT
      have HCB := Lib.hid hcb
      clear hT hcb
      go_enter Try.func12, Try.ntmps12
      go_wp2_with (first
        | (go_at_call_of 45 va; refine HFA.out.mono ?_; rintro e w' ⟨rfl, rfl⟩)
        | (go_at_call_of 45 vb; refine HFB.out.mono ?_; rintro e w' ⟨rfl, rfl⟩)
        | (go_at_call_of 35 va; refine (HN.out _ HA.out HCA.out).mono ?_; rintro e w1 ⟨rfl, hb1⟩)
        | (go_at_call_of 35 vb; refine (encode_ok vb b _ (HB.out.at_ hb1) HCB.out T HT.out).mono ?_; rintro e w2 ⟨rfl, hb2⟩; have hb12 := bthen hb1 hb1.size hb2; clear hb2)
        | (go_at_call 43; refine (compare_any va vb a b _ (HA.out.at_ hb12) (HB.out.at_ hb12)).mono ?_; rintro e w3 ⟨rfl, hb3⟩; rw [HC.out, HE.out]; have hb13 := bthen hb12 hb12.size hb3; clear hb3)
        | (go_at_call 34; refine (lives2_any _).mono ?_; rintro e w4 ⟨rfl, hl⟩))
      go_ret
      exact ⟨rfl, bthen hb13 hb13.size hl⟩
    · have HN2 := Lib.hid (encode_no vb b)
      have HCB := Lib.hid hcb
      clear hcb
      go_enter Try.func12, Try.ntmps12
      go_wp2_with (first
        | (go_at_call_of 45 va; refine HFA.out.mono ?_; rintro e w' ⟨rfl, rfl⟩)
        | (go_at_call_of 45 vb; refine HFB.out.mono ?_; rintro e w' ⟨rfl, rfl⟩)
        | (go_at_call_of 35 va; refine (HN.out _ HA.out HCA.out).mono ?_; rintro e w1 ⟨rfl, hb1⟩)
        | (go_at_call_of 35 vb; refine (HN2.out _ (HB.out.at_ hb1) HCB.out).mono ?_; rintro e w2 ⟨rfl, hb2⟩; have hb12 := bthen hb1 hb1.size hb2; clear hb2)
        | (go_at_call 43; refine (compare_any va vb a b _ (HA.out.at_ hb12) (HB.out.at_ hb12)).mono ?_; rintro e w3 ⟨rfl, hb3⟩; rw [HC.out, HE.out]; have hb13 := bthen hb12 hb12.size hb3; clear hb3)
        | (go_at_call 34; refine (lives2_any _).mono ?_; rintro e w4 ⟨rfl, hl⟩))
      go_ret
      exact ⟨rfl, bthen hb13 hb13.size hl⟩
end Go.Proofs.Ytcebhoilokmhdaa
