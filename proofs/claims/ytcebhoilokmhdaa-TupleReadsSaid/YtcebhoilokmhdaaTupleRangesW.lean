/- The walk of ambrylaw02.TupleRanges. -/
import Derived.Test.YtcebhoilokmhdaaTupG
namespace Go.Proofs.Ytcebhoilokmhdaa
open Go.RowKit
set_option linter.unusedVariables false

theorem isPre_iff (a : List Pt) : ∀ b : List Pt, isPre a b ↔ a.length ≤ b.length ∧ a = b.take a.length := by
  induction a with
  | nil => intro b; simp [isPre]
  | cons p a ih =>
    intro b
    cases b with
    | nil => simp [isPre]
    | cons q b =>
      have := ih b
      simp only [isPre, List.length_cons, List.take_succ_cons, List.cons.injEq, Nat.add_le_add_iff_right]
      rw [this]
      constructor
      · rintro ⟨h1, h2, h3⟩; exact ⟨h2, h1, h3⟩
      · rintro ⟨h1, h2, h3⟩; exact ⟨h2, h1, h3⟩
theorem parts_take {w : World} {B : Nat} {A : Option Addr} {m cap n : Nat} {b : List Pt} (h : Parts w B (.slice A m cap) b) (hn : n ≤ b.length) : Parts w B (.slice A n cap) (b.take n) := by
  obtain ⟨A', cap', e, hr, hm, hl, hcap⟩ := h
  injection e with e1 e2 e3
  subst e1 e2 e3
  have hlt : (b.take n).length = n := by rw [List.length_take]; omega
  refine ⟨A, cap, by rw [hlt], fun hp => ?_, fun p hp => hm p (List.mem_of_mem_take hp), by omega, by omega⟩
  obtain ⟨ad, e, hs, hb, hc⟩ := hr (by omega)
  refine ⟨ad, e, hs, hb, fun j p hj => hc j p ?_⟩
  rw [List.getElem?_take] at hj
  split at hj
  · exact hj
  · cases hj

theorem begins_any (va vb : Value) (a b : List Pt) (w : World) (ha : Parts w w.heap.size va a) (hb : Parts w w.heap.size vb b) (r : Bool) (hr : r = true ↔ isPre a b) :
    Calls Try.prog 46 #[va, vb] w fun e w' => e = .returned (.bool r) ∧ Below w.heap.size w w' := by
  rw [isPre_iff] at hr
  obtain ⟨A, capA, rfl, hra⟩ := ha
  obtain ⟨B, capB, rfl, hrb⟩ := hb
  have HA := Lib.hid (show Parts w w.heap.size (.slice A a.length capA) a from ⟨A, capA, rfl, hra⟩)
  have HB := Lib.hid (show Parts w w.heap.size (.slice B b.length capB) b from ⟨B, capB, rfl, hrb⟩)
  have hcapb : b.length ≤ capB := hrb.2.2.2
  clear hra hrb
  by_cases hl : a.length ≤ b.length
  · have hl' : (a.length : Int) ≤ b.length := by omega
    have HR := Lib.hid (show r = true ↔ a = b.take a.length from hr.trans ⟨fun h => h.2, fun h => ⟨hl, h⟩⟩)
    have HL := Lib.hid hl
    clear hr hl
    go_enter Try.func46, Try.ntmps46
    go_wp2_with (go_at_call 42; refine (same_any _ _ a (b.take a.length) _ HA.out (parts_take HB.out HL.out) r HR.out).mono ?_; rintro e w1 ⟨rfl, hb1⟩)
    go_ret
    exact ⟨rfl, hb1⟩
  · have hl' : ¬ (a.length : Int) ≤ b.length := by omega
    obtain rfl : r = false := by
      cases r with
      | false => rfl
      | true => exact absurd (hr.1 rfl).1 hl
    clear hr hl
    go_enter Try.func46, Try.ntmps46
    go_wp2
    go_ret
    exact ⟨rfl, Below.refl _ _⟩
theorem behind_any (S U : ByteArray) (h : S.size ≤ 1000) (hU : U = S ++ ⟨#[255]⟩) (w : World) : Calls Try.prog 39 #[.string S] w fun e w' => e = .returned (.string U) ∧ w = w' := by
  have h' : ¬ (9223372036854775807 : Int) < (S.size : Int) + 1 := by omega
  have HU := Lib.hid hU
  clear hU
  go_enter Try.func39, Try.ntmps39
  go_wp2
  go_ret
  rw [HU.out]
  exact ⟨rfl, rfl⟩

set_option maxRecDepth 100000 in
set_option maxHeartbeats 2000000 in
theorem tupleRanges_walk (va : Value) (a : List Pt) (vb : Value) (b : List Pt) (w : World) (ha : Parts w w.heap.size va a) (hb : Parts w w.heap.size vb b) :
    Calls Try.prog 14 #[va, vb] w fun e w' => e = .returned (.bool true) ∧ Below w.heap.size w w' := by
  have HA := Lib.hid ha
  have HB := Lib.hid hb
  clear ha hb
  obtain ⟨fa, hfa⟩ : ∃ f, f = decide (a.length ≤ 1000) := ⟨_, rfl⟩
  obtain ⟨fb, hfb⟩ : ∃ f, f = decide (b.length ≤ 1000) := ⟨_, rfl⟩
  have HFA := Lib.hid (few_any va a w HA.out fa hfa)
  have HFB := Lib.hid (few_any vb b w HB.out fb hfb)
  have HLA := Lib.hid (show fa = true → a.length ≤ 1000 from fun h => by rw [hfa] at h; simpa using h)
  have HLB := Lib.hid (show fb = true → b.length ≤ 1000 from fun h => by rw [hfb] at h; simpa using h)
  clear hfa hfb
  cases fa
  · go_enter Try.func14, Try.ntmps14
    go_wp2_with (first
      | (go_at_call 45; refine HFA.out.mono ?_; rintro e w' ⟨rfl, rfl⟩)
      | (go_at_call 34; refine (lives2_any _).mono ?_; rintro e w2 ⟨rfl, hl⟩))
    go_ret
    exact ⟨rfl, hl⟩
  cases fb
  · go_enter Try.func14, Try.ntmps14
    go_wp2_with (first
      | (go_at_call_of 45 va; refine HFA.out.mono ?_; rintro e w' ⟨rfl, rfl⟩)
      | (go_at_call_of 45 vb; refine HFB.out.mono ?_; rintro e w' ⟨rfl, rfl⟩)
      | (go_at_call 34; refine (lives2_any _).mono ?_; rintro e w2 ⟨rfl, hl⟩))
    go_ret
    exact ⟨rfl, hl⟩
  have hla := HLA.out rfl
  have hlb := HLB.out rfl
  obtain ⟨S, hS⟩ : ∃ S, encS a = S := ⟨_, rfl⟩
  obtain ⟨T, hT⟩ : ∃ T, encS b = T := ⟨_, rfl⟩
  obtain ⟨ca, hca⟩ : ∃ c, chk a = c := ⟨_, rfl⟩
  obtain ⟨cb, hcb⟩ : ∃ c, chk b = c := ⟨_, rfl⟩
  by_cases h0 : ca = 0 ∧ cb = 0
  · obtain ⟨rfl, rfl⟩ := h0
    obtain ⟨U, hU⟩ : ∃ U : ByteArray, U = S ++ ⟨#[255]⟩ := ⟨_, rfl⟩
    have sl : S.toList = kby a := by rw [← hS, encS_list hca]
    have tl : T.toList = kby b := by rw [← hT, encS_list hcb]
    have ul : U.toList = kby a ++ [255] := by rw [hU, ByteArray.toList_eq, ByteArray.data_append, Array.toList_append, ← ByteArray.toList_eq, sl]
    have hsz : S.size ≤ 1000 := by rw [← hS, encS_size hca]; have := (chk_ok hca).2; omega
    have key : ∃ r x y : Bool, (r = true ↔ isPre a b) ∧ Op.bytesLess T.toList S.toList = x ∧ Op.bytesLess T.toList U.toList = y ∧ ((r = true ∧ x = false ∧ y = true) ∨ (r = false ∧ x = true) ∨ (r = false ∧ x = false ∧ y = false)) := by
      rw [sl, tl, ul]
      rcases range_cases a b (rgt_of hca HA.out.fine) (rgt_of hcb HB.out.fine) with ⟨h1, h2, h3⟩ | ⟨h1, h2⟩ | ⟨h1, h2, h3⟩
      · exact ⟨true, false, true, by simpa using h1, h2, h3, .inl ⟨rfl, rfl, rfl⟩⟩
      · exact ⟨false, true, _, by simpa using h1, h2, rfl, .inr (.inl ⟨rfl, rfl⟩)⟩
      · exact ⟨false, false, false, by simpa using h1, h2, h3, .inr (.inr ⟨rfl, rfl, rfl⟩)⟩
    obtain ⟨r, x, y, hr, hx, hy, hc⟩ := key
    have HS := Lib.hid hS
    have HT := Lib.hid hT
    have HU := Lib.hid hU
    have HR := Lib.hid (fun (W : World) (h1 : Parts W W.heap.size va a) (h2 : Parts W W.heap.size vb b) => begins_any va vb a b W h1 h2 r hr)
    have HCA := Lib.hid hca
    have HCB := Lib.hid hcb
    clear hS hT hU hca hcb sl tl ul hr
    rcases hc with ⟨rfl, rfl, rfl⟩ | ⟨rfl, rfl⟩ | ⟨rfl, rfl, rfl⟩
    all_goals
      go_enter Try.func14, Try.ntmps14
      go_wp2_with (first
        | (go_at_call_of 45 va; refine HFA.out.mono ?_; rintro e w' ⟨rfl, rfl⟩)
        | (go_at_call_of 45 vb; refine HFB.out.mono ?_; rintro e w' ⟨rfl, rfl⟩)
        | (go_at_call_of 35 va; refine (encode_any va a _ HA.out S _ HCA.out HS.out).mono ?_; rintro e w1 ⟨rfl, hb1⟩)
        | (go_at_call_of 35 vb; refine (encode_any vb b _ (HB.out.at_ hb1) T _ HCB.out HT.out).mono ?_; rintro e w2 ⟨rfl, hb2⟩; have hb12 := bthen hb1 hb1.size hb2; clear hb2)
        | (go_at_call 39; refine (behind_any S U hsz HU.out _).mono ?_; rintro e w' ⟨rfl, rfl⟩)
        | (go_at_call 46; refine (HR.out _ (HA.out.at_ hb12) (HB.out.at_ hb12)).mono ?_; rintro e w3 ⟨rfl, hb3⟩; have hb13 := bthen hb12 hb12.size hb3; clear hb3)
        | (go_at_call 34; refine (lives2_any _).mono ?_; rintro e w4 ⟨rfl, hl⟩))
      go_ret
      exact ⟨rfl, bthen hb13 hb13.size hl⟩
  · have hc : ((ca == 0) = false ∧ (ca != 0) = true) ∨ ((ca == 0) = true ∧ (ca != 0) = false ∧ (cb == 0) = false ∧ (cb != 0) = true) := by
      by_cases h1 : ca = 0
      · have h2 : cb ≠ 0 := fun h => h0 ⟨h1, h⟩
        exact .inr ⟨by simpa using h1, by simpa using h1, by simpa using h2, by simpa using h2⟩
      · exact .inl ⟨by simpa using h1, by simpa using h1⟩
    have HS := Lib.hid hS
    have HT := Lib.hid hT
    have HCA := Lib.hid hca
    have HCB := Lib.hid hcb
    clear hS hT hca hcb h0
    rcases hc with ⟨h1, h2⟩ | ⟨h1, h2, h3, h4⟩
    all_goals
      go_enter Try.func14, Try.ntmps14
      go_wp2_with (first
        | (go_at_call_of 45 va; refine HFA.out.mono ?_; rintro e w' ⟨rfl, rfl⟩)
        | (go_at_call_of 45 vb; refine HFB.out.mono ?_; rintro e w' ⟨rfl, rfl⟩)
        | (go_at_call_of 35 va; refine (encode_any va a _ HA.out S _ HCA.out HS.out).mono ?_; rintro e w1 ⟨rfl, hb1⟩)
        | (go_at_call_of 35 vb; refine (encode_any vb b _ (HB.out.at_ hb1) T _ HCB.out HT.out).mono ?_; rintro e w2 ⟨rfl, hb2⟩; have hb12 := bthen hb1 hb1.size hb2; clear hb2)
        | (go_at_call 34; refine (lives2_any _).mono ?_; rintro e w4 ⟨rfl, hl⟩))
      go_ret
      exact ⟨rfl, bthen hb12 hb12.size hl⟩
end Go.Proofs.Ytcebhoilokmhdaa
