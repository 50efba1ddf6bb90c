/- Layer 8: Concat of rows of texts; changed. -/
import Derived.Test.YtpnnbfojdccfhaaPgO
namespace Go.Proofs.Ytpnnbfojdccfhaa
open Go.RowKit
set_option linter.unusedVariables false
set_option maxRecDepth 100000

def catR (R : Nat → List ByteArray) : Nat → List ByteArray
  | 0 => []
  | j + 1 => catR R j ++ R j
theorem catR_mono (R : Nat → List ByteArray) {i j : Nat} (h : i ≤ j) : (catR R i).length ≤ (catR R j).length := by
  induction j with
  | zero => obtain rfl : i = 0 := by omega
            exact Nat.le_refl _
  | succ j ih =>
    rcases Nat.lt_or_ge i (j + 1) with h1 | h1
    · have := ih (by omega)
      rw [catR, List.length_append]; omega
    · obtain rfl : i = j + 1 := by omega
      exact Nat.le_refl _
set_option maxHeartbeats 2000000 in
theorem concat_any (k g o cap : Nat) (A : Nat → Option Addr) (c : Nat → Nat) (R : Nat → List ByteArray) (w : World) (hk : k ≤ 3) (hg : g < w.heap.size)
    (h1 : ∀ X, Turn (fun _ => False) w X → ∀ j, j < k → X.cell? ⟨g, o + j, none⟩ = some (.slice (A j) (R j).length (c j))) (h2 : ∀ j, j < k → Sr w (A j) (R j)) (h3 : ∀ j, j < k → Cp (A j) (R j).length (c j)) (h4 : (catR R k).length ≤ 50000) :
    Calls Try.prog 61 #[.slice (some ⟨g, o, none⟩) k cap] w fun e w' => ∃ v, e = .returned v ∧ w'.ownsRow w.heap.size 9 1 v (catR R k).length ((catR R k).map Value.string) ∧ Turn (fun _ => False) w w' := by
  have H1 := Lib.hid h1
  have H2 := Lib.hid h2
  have H3 := Lib.hid h3
  have HM := Lib.hid (fun i j (h : i ≤ j) => catR_mono R h)
  have HS : Hid (∀ j, catR R (j + 1) = catR R j ++ R j) := Lib.hid (fun j => rfl)
  have H4 := Lib.hid h4
  have HG := Lib.hid (fun n hn w => grow_any n hn w)
  clear h1 h2 h3 h4
  go_enter Try.func61, Try.ntmps61
  go_wp2_with fail
  go_loopw [3, 5, 11] (fun vs _ vi WR => ∃ (j x : Nat), j ≤ k ∧ vi = .int .i64 j ∧ vs = .int .i64 x ∧ Hid (x = (catR R j).length) ∧ w = WR) (fun _ _ vi _ => k - (intOf vi).toNat)
  case atStart => exact ⟨0, 0, Nat.zero_le _, rfl, rfl, Lib.hid rfl, rfl⟩
  case round =>
    obtain ⟨j, x, hj, rfl, rfl, HX, rfl⟩ := hrel
    by_cases hlt : j < k
    · have y1 := H1.out w (Turn.refl _ w) j hlt
      have hx1 : x + (R j).length ≤ 50000 := by have := HM.out (j + 1) k (by omega); rw [HS.out, List.length_append] at this; have := H4.out; have := HX.out; omega
      have HX2 : Hid (x + (R j).length = (catR R (j + 1)).length) := Lib.hid (by rw [HS.out, List.length_append, HX.out])
      generalize (R j).length = rl at *
      have hi1 : (j : Int) < (k : Int) := by omega
      have hi2 : (0 : Int) ≤ (j : Int) := by omega
      have z1 := wrap_of ((x : Int) + (rl : Int)) (by omega) (by omega)
      have z3 := wrap_of ((j : Int) + 1) (by omega) (by omega)
      have hng : ¬ ((x : Int) + (rl : Int) < 0) := by omega
      go_wp2_with fail
      go_roundw
      case rel => exact ⟨j + 1, x + rl, hlt, by simp, by go_num, HX2, by first | rfl | trivial⟩
      case measure => simp [intOf]; omega
    · obtain rfl : j = k := by omega
      have hi1 : ¬ (j : Int) < (j : Int) := by omega
      have hx1 : x ≤ 100000 := by have := H4.out; have := HX.out; omega
      go_wp2_with fail
      refine (HG.out x hx1 _).mono ?_
      rintro e w1 ⟨v1, rfl, ho1, ht1⟩
      have O1 : Hid (w1.ownsRow w.heap.size 9 1 v1 (catR R 0).length ((catR R 0).map Value.string)) := Lib.hid ho1
      have T1 := Lib.hid ht1
      clear ho1 ht1 HX hx1
      go_wp2_with fail
      go_loopw [6, 8, 27] (fun vv _ vi wr => ∃ (i l cv : Nat) (AV : Option Addr), i ≤ j ∧ vi = .int .i64 i ∧ vv = .slice AV l cv ∧ Hid ((catR R i).length = l) ∧ Hid (wr.ownsRow w.heap.size 9 1 (.slice AV l cv) (catR R i).length ((catR R i).map Value.string)) ∧ Turn (fun _ => False) w wr) (fun _ _ vi _ => j - (intOf vi).toNat)
      case atStart =>
        obtain ⟨A4, c4, hv4⟩ := own_slice8 O1.out
        exact ⟨0, _, c4, A4, Nat.zero_le _, rfl, hv4, Lib.hid rfl, Lib.hid (hv4 ▸ O1.out), T1.out⟩
      case round =>
        obtain ⟨i, l, cv, AV, hi, rfl, rfl, HL, HO, hT⟩ := hrel
        have TT := Lib.hid hT
        by_cases hlt2 : i < j
        · have y1 := H1.out wr hT i hlt2
          have hi3 : (i : Int) < (j : Int) := by omega
          have hi4 : (0 : Int) ≤ (i : Int) := by omega
          have z3 := wrap_of ((i : Int) + 1) (by omega) (by omega)
          have HSR := Lib.hid ((H2.out i hlt2).turn hT)
          have HCP := Lib.hid (H3.out i hlt2)
          have HBD : Hid ((catR R i).length + (R i).length ≤ 100000) := Lib.hid (by have := HM.out (i + 1) j (by omega); rw [HS.out, List.length_append] at this; have := H4.out; omega)
          have hsz : w.heap.size ≤ wr.heap.size := hT.size
          obtain ⟨rl, hrl⟩ : ∃ r, (R i).length = r := ⟨_, rfl⟩
          rw [hrl] at y1 HCP
          have HRL := Lib.hid hrl
          clear hrl hT
          go_wp2_with (at_builtin; refine wpList_app_strs rfl _ _ rfl w.heap.size (.slice AV l cv) (catR R i) (R i) (A i) rl (c i) HRL.out rfl rfl HO.out HSR.out HCP.out HBD.out hsz ?_; intro v3 w3 ho3 hg3; have ht3 := grown_below hg3 HO.out hsz; have O3 : Hid (w3.ownsRow w.heap.size 9 1 v3 (catR R (i + 1)).length ((catR R (i + 1)).map Value.string)) := (Lib.hid (by rw [HS.out]; exact ho3)); have T3 : Hid (Turn (fun _ => False) w w3) := Lib.hid (TT.out.trans_new (Turn.of_below (S := fun k => w.heap.size ≤ k) ht3 (fun k h1 h2 => h2)) (fun k h1 h2 => absurd h2 (by omega))); clear ho3 hg3 ht3)
          go_roundw
          case rel =>
            obtain ⟨A6, c6, hv6⟩ := own_slice8 O3.out
            exact ⟨i + 1, _, c6, A6, hlt2, by simp, hv6, Lib.hid rfl, Lib.hid (hv6 ▸ O3.out), T3.out⟩
          case measure => simp [intOf]; omega
        · obtain rfl : i = j := by omega
          have hi3 : ¬ (i : Int) < (i : Int) := by omega
          clear hT
          go_wp2_with fail
          go_ret
          exact ⟨_, rfl, by have := HO.out; rw [HL.out] at this ⊢; exact this, TT.out⟩
end Go.Proofs.Ytpnnbfojdccfhaa
