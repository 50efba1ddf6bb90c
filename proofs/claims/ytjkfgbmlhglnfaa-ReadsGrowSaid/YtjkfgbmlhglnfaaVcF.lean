/- Layer 13: the document's Add, Same; the statements' own versions. -/
import Derived.Test.YtjkfgbmlhglnfaaVcE
namespace Go.Proofs.Ytjkfgbmlhglnfaa
open Go.RowKit
set_option linter.unusedVariables false
set_option linter.unusedSimpArgs false
set_option maxRecDepth 100000

theorem vr_rows {w : World} {L : List Vn} {A : Option Addr} {c n : Nat} (h : Vr w (.slice A n c) L) : L.length = n := by
  obtain ⟨A', c', e, _⟩ := h
  injection e with _ e2
  exact e2.symm
set_option maxHeartbeats 4000000 in
theorem refSame13 (L : List Vn) (v1 v2 : Value) (w : World) (h1 : Vr w v1 L) (h2 : Vr w v2 L) :
    Calls Try.prog 52 #[v1, v2] w fun e w' => e = .returned (.bool true) ∧ Turn (fun _ => False) w w' := by
  obtain ⟨A1, c1, rfl, hl, hr1⟩ := h1
  obtain ⟨A2, c2, rfl, _, hr2⟩ := h2
  obtain ⟨n, hn⟩ : ∃ n, L.length = n := ⟨_, rfl⟩
  have HN := Lib.hid hn
  have HR1 := Lib.hid hr1
  have HR2 := Lib.hid hr2
  rw [hn] at hl HR1 HR2 ⊢
  clear hn hr1 hr2
  go_enter Try.func52, Try.ntmps52
  go_wp2_with fail
  go_loopw [5] (fun v5 wr => ∃ i : Nat, i ≤ n ∧ v5 = .int .i64 i ∧ Turn (fun _ => False) w wr) (fun v5 _ => n - (intOf v5).toNat)
  case atStart => exact ⟨0, Nat.zero_le _, rfl, Turn.refl _ _⟩
  case round =>
    obtain ⟨i, hi, rfl, ht⟩ := hrel
    obtain ⟨wx, rfl⟩ : ∃ W, W = wr := ⟨_, rfl⟩
    have TT := Lib.hid ht
    clear ht
    by_cases hlt : i < n
    · have hlb1 : (i : Int) < (n : Int) := by omega
      have hlb0 : (0 : Int) ≤ (i : Int) := by omega
      have hq := wrap_of ((i : Int) + 1) (by omega) (by omega)
      obtain ⟨x, hx⟩ : ∃ x, L[i]? = some x := ⟨_, List.getElem?_eq_getElem (by rw [HN.out]; exact hlt)⟩
      obtain ⟨b1, o1, rfl, hb1, hc1⟩ := HR1.out (by omega)
      obtain ⟨b2, o2, rfl, hb2, hc2⟩ := HR2.out (by omega)
      obtain ⟨c10, c11, c12⟩ := hc1 i x hx
      obtain ⟨c20, c21, c22⟩ := hc2 i x hx
      have hk : ∀ b j, b < w.heap.size → wx.cell? ⟨b, j, none⟩ = w.cell? ⟨b, j, none⟩ := fun b j hb => World.cell?_of_block (w := w) (a := ⟨b, j, none⟩) (TT.out.block b hb (fun h => h))
      rw [← hk _ _ hb1] at c10 c11 c12
      rw [← hk _ _ hb2] at c20 c21 c22
      obtain ⟨xt, xs, xd⟩ := x
      simp only at c10 c11 c12 c20 c21 c22
      have hss : (xs.toList == xs.toList) = true := by simp
      clear hx hb1 hb2 hc1 hc2 hk
      go_wp2_with fail
      go_quiet (fail)
      go_wp2_with fail
      trace_state
      go_roundw
      case rel => exact ⟨i + 1, by omega, by simp [hq], by first | exact TT.out.drewN _ | exact TT.out⟩
      case measure => simp [intOf, hq]; omega
    · obtain rfl : i = n := by omega
      go_wp2_with fail
      go_ret
      exact ⟨rfl, TT.out⟩
def add13 (L : List Vn) (x : Vn) : List Vn × Int := if chn L then (if rt x then (match L with
  | [] => ([x], 0)
  | y :: _ => if x.t ≤ y.t then ([], 18) else (x :: L, 0)) else ([], 2)) else ([], 4)
end Go.Proofs.Ytjkfgbmlhglnfaa
