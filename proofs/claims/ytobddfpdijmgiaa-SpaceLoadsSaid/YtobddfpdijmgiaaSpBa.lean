/- Layer 14: the statements' few. -/
import Derived.Test.YtobddfpdijmgiaaSpAj
import Derived.Test.YtobddfpdijmgiaaFrameX
namespace Go.Proofs.Ytobddfpdijmgiaa
open Go.RowKit Go.Shelf
set_option linter.unusedVariables false
set_option linter.unusedSimpArgs false
set_option maxRecDepth 100000

/-- Calls and changes, counted. -/
def cn14 (qs : List Ac14) : Nat := (qs.map (fun q => 1 + q.L.length)).sum
theorem cn14_next {qs : List Ac14} {i : Nat} {q : Ac14} (h : qs[i]? = some q) : cn14 (qs.take (i + 1)) = cn14 (qs.take i) + 1 + q.L.length := by
  unfold cn14
  rw [take_next h, List.map_append, List.sum_append]
  simp
  omega
def fw14 (q : Ac14) : Prop := -100 ≤ q.t ∧ q.t ≤ 1099511627776
def FewP (qs : List Ac14) (b : Bool) : Prop := b = true → cn14 qs ≤ 200 ∧ ∀ q ∈ qs, fw14 q
set_option maxHeartbeats 4000000 in
theorem few_14 {w : World} {v : Value} {qs : List Ac14} (h : Acts14 w v qs) (hz : ∀ q ∈ qs, q.L.length ≤ 140737488351232) :
    Calls Try.prog 19 #[v] w fun e w' => ∃ b, e = .returned (.bool b) ∧ FewP qs b ∧ w' = w := by
  obtain ⟨A, c, rfl, hl, hr⟩ := h
  obtain ⟨n, hn⟩ : ∃ n, qs.length = n := ⟨_, rfl⟩
  have HN := Lib.hid hn
  have HZ := Lib.hid hz
  have HR := Lib.hid hr
  rw [hn] at hl ⊢
  clear hn hr hz
  go_enter Try.func19, Try.ntmps19
  go_wp2_with fail
  go_loopw [3, 4, 5] (fun v3 v4 _ wr => ∃ i c : Nat, i ≤ n ∧ v4 = .int .i64 i ∧ v3 = .int .i64 c ∧ c ≤ 200 ∧ Hid (cn14 (qs.take i) = c) ∧ Hid (∀ q ∈ qs.take i, fw14 q) ∧ wr = w) (fun _ v4 _ _ => n - (intOf v4).toNat)
  case atStart => exact ⟨0, 0, Nat.zero_le _, rfl, rfl, Nat.zero_le _, Lib.hid rfl, Lib.hid (fun q hq => by cases hq), rfl⟩
  case round =>
    obtain ⟨i, c, hi, rfl, rfl, hc, HCN, HFW, rfl⟩ := hrel
    obtain ⟨wx, rfl⟩ : ∃ W, W = wr := ⟨_, rfl⟩
    by_cases hlt : i < n
    · have hl1 : (i : Int) < (n : Int) := by omega
      have hl0 : (0 : Int) ≤ (i : Int) := by omega
      have hq := wrap_of ((i : Int) + 1) (by omega) (by omega)
      obtain ⟨q, hx⟩ : ∃ x, qs[i]? = some x := ⟨_, List.getElem?_eq_getElem (by rw [HN.out]; exact hlt)⟩
      have HX := Lib.hid hx
      obtain ⟨b, o, rfl, hb, hcc⟩ := HR.out (by rw [HN.out]; omega)
      obtain ⟨⟨c0, c1, c2⟩, hcx, ht1, ht2⟩ := hcc i q hx
      have hlm := HZ.out q (List.mem_of_getElem? hx)
      obtain ⟨qk, qt, qv, qL⟩ := q
      simp only at c0 c1 c2 hcx hlm ht1 ht2
      obtain ⟨AL, cL, rfl, hll, hlr⟩ := hcx
      obtain ⟨m, hm⟩ : ∃ m, qL.length = m := ⟨_, rfl⟩
      have HM := Lib.hid hm
      have HLR := Lib.hid hlr
      have HCC : Hid (cn14 (qs.take (i + 1)) = c + 1 + m) := Lib.hid (by rw [cn14_next HX.out, HCN.out, ← hm])
      rw [hm] at c2 hll hlm
      have hq1 := wrap_of ((c : Int) + 1) (by omega) (by omega)
      have hq2 := wrap_of ((c : Int) + 1 + (m : Int)) (by omega) (by omega)
      clear hx hb hcc hlr hm
      by_cases hA : (200 : Int) < (c : Int) + 1 + (m : Int)
      · go_wp2_with fail
        exact bodyPost_ret (v := .bool false) (by simp [results, Try.results19, go_sem]) rfl (by first | exact ⟨false, rfl, (fun h => by cases h), rfl⟩ | exact .inl ⟨rfl, (fun h => by cases h), rfl⟩)
      by_cases hB : qt < (-100 : Int)
      · go_wp2_with fail
        exact bodyPost_ret (v := .bool false) (by simp [results, Try.results19, go_sem]) rfl (by first | exact ⟨false, rfl, (fun h => by cases h), rfl⟩ | exact .inl ⟨rfl, (fun h => by cases h), rfl⟩)
      by_cases hC : (1099511627776 : Int) < qt
      · go_wp2_with fail
        exact bodyPost_ret (v := .bool false) (by simp [results, Try.results19, go_sem]) rfl (by first | exact ⟨false, rfl, (fun h => by cases h), rfl⟩ | exact .inl ⟨rfl, (fun h => by cases h), rfl⟩)
      have HF2 : Hid (∀ q ∈ qs.take (i + 1), fw14 q) := Lib.hid (fun q hq => by
        rw [take_next HX.out] at hq
        rcases List.mem_append.1 hq with h | h
        · exact HFW.out q h
        · rw [List.mem_singleton.1 h]
          exact ⟨by show (-100 : Int) ≤ qt; omega, by show qt ≤ (1099511627776 : Int); omega⟩)
      go_wp2_with fail
      go_loopw [5] (fun v5 wy => ∃ j : Nat, j ≤ m ∧ v5 = .int .i64 j ∧ wy = wx) (fun v5 _ => m - (intOf v5).toNat)
      case atStart => exact ⟨0, Nat.zero_le _, rfl, rfl⟩
      case round =>
        obtain ⟨j, hj, rfl, rfl⟩ := hrel
        by_cases hji : j < m
        · have hm1 : (j : Int) < (m : Int) := by omega
          have hm0 : (0 : Int) ≤ (j : Int) := by omega
          have hqj := wrap_of ((j : Int) + 1) (by omega) (by omega)
          obtain ⟨y, hy⟩ : ∃ y, qL[j]? = some y := ⟨_, List.getElem?_eq_getElem (by rw [HM.out]; omega)⟩
          obtain ⟨bL, oL, rfl, hbL, hcL⟩ := HLR.out.chg (by rw [HM.out]; omega)
          obtain ⟨f0, f1, f2⟩ := hcL _ (Turn.refl _ _) j y hy
          obtain ⟨yk, yv, yd⟩ := y
          simp only at f0 f1 f2
          clear hy hbL hcL
          by_cases hD : (1000 : Int) < (yk.size : Int)
          · go_wp2_with fail
            exact bodyPost_ret (v := .bool false) (by simp [results, Try.results19, go_sem]) rfl (by first | exact ⟨false, rfl, (fun h => by cases h), rfl⟩ | exact .inl ⟨rfl, (fun h => by cases h), rfl⟩)
          by_cases hE : (1000 : Int) < (yv.size : Int)
          · go_wp2_with fail
            exact bodyPost_ret (v := .bool false) (by simp [results, Try.results19, go_sem]) rfl (by first | exact ⟨false, rfl, (fun h => by cases h), rfl⟩ | exact .inl ⟨rfl, (fun h => by cases h), rfl⟩)
          go_wp2_with fail
          go_roundw
          case rel => exact ⟨j + 1, by omega, by simp [hqj], by first | rfl | trivial⟩
          case measure => simp [intOf, hqj]; omega
        · obtain rfl : j = m := by omega
          go_wp2_with fail
          go_roundw
          case rel => exact ⟨i + 1, c + 1 + j, by omega, by simp [hq], by simp, by omega, HCC, HF2, by first | rfl | trivial⟩
          case measure => simp [intOf, hq]; omega
    · obtain rfl : i = n := by omega
      go_wp2_with fail
      exact bodyPost_ret (v := .bool true) (by simp [results, Try.results19, go_sem]) rfl (by
        have hfp : FewP qs true := fun _ => ⟨by have := HCN.out; rw [← HN.out, List.take_length] at this; omega, by have := HFW.out; rw [← HN.out, List.take_length] at this; exact this⟩
        first | exact ⟨true, rfl, hfp, rfl⟩ | exact .inr ⟨rfl, hfp, rfl⟩)
end Go.Proofs.Ytobddfpdijmgiaa
