/- Layer 4: are calls few? -/
import Derived.Test.YtbjenimpfblojaaBlkW
import Derived.Test.YtbjenimpfblojaaBlkM
namespace Go.Proofs.Ytbjenimpfblojaa
open Go.RowKit Go.Maps
set_option linter.unusedVariables false

def okB (a : Acv) : Bool := decide (a.zs.length ≤ 300) && decide (a.s.size ≤ 1000)
def fewB (qs : List Acv) : Bool := decide (qs.length ≤ 200) && qs.all okB
theorem few_big {qs : List Acv} (h : 200 < qs.length) : fewB qs = false := by unfold fewB; rw [decide_eq_false (by omega), Bool.false_and]
theorem few_bad {qs : List Acv} {j : Nat} {a : Acv} (h : qs[j]? = some a) (hb : okB a = false) : fewB qs = false := by
  unfold fewB
  rw [Bool.and_eq_false_iff]
  right
  rw [List.all_eq_false]
  exact ⟨a, List.mem_of_getElem? h, by rw [hb]; simp⟩
theorem few_yes {qs : List Acv} (h : qs.length ≤ 200) (hb : qs.all okB = true) : fewB qs = true := by unfold fewB; rw [decide_eq_true h, hb]; rfl
theorem few_len {qs : List Acv} (h : fewB qs = true) : qs.length ≤ 200 := by unfold fewB at h; rw [Bool.and_eq_true] at h; exact of_decide_eq_true h.1
set_option maxRecDepth 100000 in
set_option maxHeartbeats 4000000 in
theorem few_r {B : Nat} {w : World} {v : Value} {qs : List Acv} (h : Acts B w v qs) : Calls Try.prog 12 #[v] w fun e w' => e = .returned (.bool (fewB qs)) ∧ w' = w := by
  have HA := Lib.hid h
  obtain ⟨A, cap, rfl, hle, har⟩ := h
  clear har
  have hn : (qs.length : Int) ≤ 9223372036854775807 := by omega
  by_cases hbig : 200 < qs.length
  · have HB := Lib.hid (few_big hbig)
    have g1 : (200 : Int) < (qs.length : Int) := by omega
    go_enter Try.func12, Try.ntmps12
    go_wp2
    go_ret
    exact ⟨by rw [HB.out]; rfl, rfl⟩
  · have g1 : (qs.length : Int) ≤ 200 := by omega
    go_enter Try.func12, Try.ntmps12
    go_wp2
    go_loopw [3] (fun i wr => ∃ j : Nat, j ≤ qs.length ∧ i = .int .i64 j ∧ wr = w ∧ (qs.take j).all okB = true) (fun i _ => qs.length - (intOf i).toNat)
    case atStart => exact ⟨0, Nat.zero_le _, rfl, rfl, rfl⟩
    case round =>
      obtain ⟨j, hj, rfl, rfl, hall⟩ := hrel
      have HALL := Lib.hid hall
      clear hall
      by_cases hlt : j < qs.length
      · obtain ⟨a, haj⟩ : ∃ a, qs[j]? = some a := ⟨_, List.getElem?_eq_getElem hlt⟩
        obtain ⟨A2, cap2, e2, _, hr⟩ := HA.out
        obtain ⟨b, o, eA, hbB, hc⟩ := hr (by omega)
        injection e2 with e2 e2b e2c
        rw [eA] at e2
        subst e2 e2c
        clear e2b
        obtain ⟨⟨h0, h1, h2, h3⟩, hiv, hi0, hi1⟩ := hc j a haj
        obtain ⟨A3, c3, e3, hz3, hz4⟩ := hiv
        have HT := Lib.hid (take_snoc_ haj)
        have HJ := Lib.hid haj
        rw [e3] at h3
        have g2 : (j : Int) < (qs.length : Int) := by omega
        have g3 : (0 : Int) ≤ (j : Int) := Int.natCast_nonneg _
        have HOK : Hid (okB a = (decide (a.zs.length ≤ 300) && decide (a.s.size ≤ 1000))) := Lib.hid rfl
        generalize a.zs = az at *
        generalize a.s = as_ at *
        clear hr hc haj hz3 hz4 hi0 hi1 h0 h1 e3
        by_cases c1 : az.length ≤ 300
        · have k1 : (az.length : Int) ≤ 300 := by omega
          by_cases c2 : as_.size ≤ 1000
          · have k2 : (as_.size : Int) ≤ 1000 := by omega
            rw [decide_eq_true c1, decide_eq_true c2] at HOK
            clear c1 c2
            go_wp2
            go_roundw
            case rel => exact ⟨j + 1, by omega, by go_num, trivial, by rw [HT.out, List.all_append, HALL.out, List.all_cons, HOK.out]; rfl⟩
            case measure => simp [intOf] <;> omega
          · have k2 : (1000 : Int) < (as_.size : Int) := by omega
            rw [decide_eq_false c2, Bool.and_false] at HOK
            have HF := Lib.hid (few_bad HJ.out HOK.out)
            clear c1 c2
            go_wp2
            go_ret
            exact ⟨by rw [HF.out]; rfl, rfl⟩
        · have k1 : (300 : Int) < (az.length : Int) := by omega
          rw [decide_eq_false c1, Bool.false_and] at HOK
          have HF := Lib.hid (few_bad HJ.out HOK.out)
          clear c1
          go_wp2
          go_ret
          exact ⟨by rw [HF.out]; rfl, rfl⟩
      · obtain rfl : j = qs.length := by omega
        rw [List.take_length] at HALL
        have HF := Lib.hid (few_yes (by omega) HALL.out)
        clear hlt
        go_wp2
        go_ret
        exact ⟨by rw [HF.out]; rfl, rfl⟩
end Go.Proofs.Ytbjenimpfblojaa
