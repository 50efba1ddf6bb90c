/- Layer 8: Split says no. -/
import Derived.Test.YtpnnbfojdccfhaaPgX
namespace Go.Proofs.Ytpnnbfojdccfhaa
open Go.RowKit
set_option linter.unusedVariables false
set_option maxRecDepth 100000

set_option maxHeartbeats 4000000 in
theorem split_no (n : Nd) (A1 : Option Addr) (c1 : Nat) (A2 : Option Addr) (c2 : Nat) (A3 : Option Addr) (c3 : Nat) (w : World) (h : No w A1 c1 A2 c2 A3 c3 n) (hf : Few8 n) (hm : st8 n = false ∨ n.keys.length ≤ 1 + bet8 n.leaf) :
    Calls Try.prog 20 #[nv8 A1 c1 A2 c2 A3 c3 n] w fun e w' => e = .returned (.tuple #[.agg #[.bool false, .slice none 0 0, .slice none 0 0, .slice none 0 0], .string ⟨#[]⟩, .agg #[.bool false, .slice none 0 0, .slice none 0 0, .slice none 0 0], .bool false]) ∧ Turn (fun _ => False) w w' := by
  have HS := Lib.hid (fun X (ht : Turn (fun _ => False) w X) => stands_any n A1 c1 A2 c2 A3 c3 X (h.turn ht) hf)
  have h2000 := hf.nk
  have T0 := Lib.hid ((((Turn.refl (fun _ => False) w).alloc (.cells #[.bool n.leaf, .slice A1 n.keys.length c1, .slice A2 n.vals.length c2, .slice A3 n.kids.length c3] 26)).alloc (.cells #[.bool false, .slice none 0 0, .slice none 0 0, .slice none 0 0] 26)).alloc (.cells #[.bool false, .slice none 0 0, .slice none 0 0, .slice none 0 0] 26))
  have B0 := Lib.hid (box_three w [.bool n.leaf, .slice A1 n.keys.length c1, .slice A2 n.vals.length c2, .slice A3 n.kids.length c3] [.bool false, .slice none 0 0, .slice none 0 0, .slice none 0 0] [.bool false, .slice none 0 0, .slice none 0 0, .slice none 0 0]).1
  have R0 := Lib.hid (box_three w [.bool n.leaf, .slice A1 n.keys.length c1, .slice A2 n.vals.length c2, .slice A3 n.kids.length c3] [.bool false, .slice none 0 0, .slice none 0 0, .slice none 0 0] [.bool false, .slice none 0 0, .slice none 0 0, .slice none 0 0]).2.1
  have S0 := Lib.hid (box_three w [.bool n.leaf, .slice A1 n.keys.length c1, .slice A2 n.vals.length c2, .slice A3 n.kids.length c3] [.bool false, .slice none 0 0, .slice none 0 0, .slice none 0 0] [.bool false, .slice none 0 0, .slice none 0 0, .slice none 0 0]).2.2
  clear h hf
  simp only [nv8] at HS ⊢
  generalize st8 n = ST at *
  generalize n.leaf = leaf at *
  generalize n.keys.length = nk at *
  generalize n.vals.length = nv at *
  generalize n.kids.length = nd at *
  have z1 := wrap_of ((nk : Int) - 1) (by omega) (by omega)
  have z2 := wrap_of ((nk : Int) - 1 - 1) (by omega) (by omega)
  have z3 := wrap_of (nk : Int) (by omega) (by omega)
  cases leaf
  · cases ST
    · clear hm
      go_enter Try.func20, Try.ntmps20
      go_wp2_with fail
      refine (HS.out _ T0.out).mono ?_
      rintro e w1 ⟨rfl, ht1⟩
      have T1 := Lib.hid (T0.out.trans ht1)
      have R1 := Lib.hid (R0.out.turn ht1 (fun h => h))
      have S1 := Lib.hid (S0.out.turn ht1 (fun h => h))
      clear ht1 T0 B0 R0 S0
      have r0 := R1.out.cell 0
      have r1 := R1.out.cell 1
      have r2 := R1.out.cell 2
      have r3 := R1.out.cell 3
      have g0 := R1.out.free 0
      have g1 := R1.out.free 1
      have g2 := R1.out.free 2
      have g3 := R1.out.free 3
      simp only [List.getElem?_cons_zero, List.getElem?_cons_succ] at r0 r1 r2 r3
      have s0 := S1.out.cell 0
      have s1 := S1.out.cell 1
      have s2 := S1.out.cell 2
      have s3 := S1.out.cell 3
      have h0 := S1.out.free 0
      have h1 := S1.out.free 1
      have h2 := S1.out.free 2
      have h3 := S1.out.free 3
      simp only [List.getElem?_cons_zero, List.getElem?_cons_succ] at s0 s1 s2 s3
      go_wp2_with fail
      obtain ⟨hf1, ht1⟩ := put4 R1.out (.bool false) (.slice none 0 0) (.slice none 0 0) (.slice none 0 0)
      have S8 := S1.out.turn ht1 (fun h => by omega)
      obtain ⟨hf2, ht2⟩ := put4 S8 (.bool false) (.slice none 0 0) (.slice none 0 0) (.slice none 0 0)
      have htt := (T1.out.trans_new ht1 (fun k hk e => by omega)).trans_new ht2 (fun k hk e => by omega)
      have hGA := hf1.turn ht2 (fun h => by omega)
      have d0 := hGA.cell 0
      have d1 := hGA.cell 1
      have d2 := hGA.cell 2
      have d3 := hGA.cell 3
      have e0 := hf2.cell 0
      have e1 := hf2.cell 1
      have e2 := hf2.cell 2
      have e3 := hf2.cell 3
      simp only [List.getElem?_cons_zero, List.getElem?_cons_succ] at d0 d1 d2 d3 e0 e1 e2 e3
      clear hGA hf1 hf2 ht1 ht2 S8 r0 r1 r2 r3 g0 g1 g2 g3 s0 s1 s2 s3 h0 h1 h2 h3
      generalize ((((((((w1).setCell ⟨w.heap.size + 1, 0, none⟩ (.bool false)).setCell ⟨w.heap.size + 1, 1, none⟩ (.slice none 0 0)).setCell ⟨w.heap.size + 1, 2, none⟩ (.slice none 0 0)).setCell ⟨w.heap.size + 1, 3, none⟩ (.slice none 0 0)).setCell ⟨w.heap.size + 1 + 1, 0, none⟩ (.bool false)).setCell ⟨w.heap.size + 1 + 1, 1, none⟩ (.slice none 0 0)).setCell ⟨w.heap.size + 1 + 1, 2, none⟩ (.slice none 0 0)).setCell ⟨w.heap.size + 1 + 1, 3, none⟩ (.slice none 0 0) = WF at *
      exact bodyPost_ret (v := .tuple #[.agg #[.bool false, .slice none 0 0, .slice none 0 0, .slice none 0 0], .string ⟨#[]⟩, .agg #[.bool false, .slice none 0 0, .slice none 0 0, .slice none 0 0], .bool false]) (by simp [results, Try.results20, go_sem, d0, d1, d2, d3, e0, e1, e2, e3]) rfl ⟨rfl, htt⟩
    · have hm2 : nk ≤ 1 + 1 := by rcases hm with h | h; cases h; exact h
      have z5 : decide ((nk : Int) - 1 - 1 < 1) = true := decide_eq_true (by omega)
      clear hm
      go_enter Try.func20, Try.ntmps20
      go_wp2_with fail
      refine (HS.out _ T0.out).mono ?_
      rintro e w1 ⟨rfl, ht1⟩
      have T1 := Lib.hid (T0.out.trans ht1)
      have R1 := Lib.hid (R0.out.turn ht1 (fun h => h))
      have S1 := Lib.hid (S0.out.turn ht1 (fun h => h))
      clear ht1 T0 B0 R0 S0
      have r0 := R1.out.cell 0
      have r1 := R1.out.cell 1
      have r2 := R1.out.cell 2
      have r3 := R1.out.cell 3
      have g0 := R1.out.free 0
      have g1 := R1.out.free 1
      have g2 := R1.out.free 2
      have g3 := R1.out.free 3
      simp only [List.getElem?_cons_zero, List.getElem?_cons_succ] at r0 r1 r2 r3
      have s0 := S1.out.cell 0
      have s1 := S1.out.cell 1
      have s2 := S1.out.cell 2
      have s3 := S1.out.cell 3
      have h0 := S1.out.free 0
      have h1 := S1.out.free 1
      have h2 := S1.out.free 2
      have h3 := S1.out.free 3
      simp only [List.getElem?_cons_zero, List.getElem?_cons_succ] at s0 s1 s2 s3
      go_wp2_with fail
      obtain ⟨hf1, ht1⟩ := put4 R1.out (.bool false) (.slice none 0 0) (.slice none 0 0) (.slice none 0 0)
      have S8 := S1.out.turn ht1 (fun h => by omega)
      obtain ⟨hf2, ht2⟩ := put4 S8 (.bool false) (.slice none 0 0) (.slice none 0 0) (.slice none 0 0)
      have htt := (T1.out.trans_new ht1 (fun k hk e => by omega)).trans_new ht2 (fun k hk e => by omega)
      have hGA := hf1.turn ht2 (fun h => by omega)
      have d0 := hGA.cell 0
      have d1 := hGA.cell 1
      have d2 := hGA.cell 2
      have d3 := hGA.cell 3
      have e0 := hf2.cell 0
      have e1 := hf2.cell 1
      have e2 := hf2.cell 2
      have e3 := hf2.cell 3
      simp only [List.getElem?_cons_zero, List.getElem?_cons_succ] at d0 d1 d2 d3 e0 e1 e2 e3
      clear hGA hf1 hf2 ht1 ht2 S8 r0 r1 r2 r3 g0 g1 g2 g3 s0 s1 s2 s3 h0 h1 h2 h3
      generalize ((((((((w1).setCell ⟨w.heap.size + 1, 0, none⟩ (.bool false)).setCell ⟨w.heap.size + 1, 1, none⟩ (.slice none 0 0)).setCell ⟨w.heap.size + 1, 2, none⟩ (.slice none 0 0)).setCell ⟨w.heap.size + 1, 3, none⟩ (.slice none 0 0)).setCell ⟨w.heap.size + 1 + 1, 0, none⟩ (.bool false)).setCell ⟨w.heap.size + 1 + 1, 1, none⟩ (.slice none 0 0)).setCell ⟨w.heap.size + 1 + 1, 2, none⟩ (.slice none 0 0)).setCell ⟨w.heap.size + 1 + 1, 3, none⟩ (.slice none 0 0) = WF at *
      exact bodyPost_ret (v := .tuple #[.agg #[.bool false, .slice none 0 0, .slice none 0 0, .slice none 0 0], .string ⟨#[]⟩, .agg #[.bool false, .slice none 0 0, .slice none 0 0, .slice none 0 0], .bool false]) (by simp [results, Try.results20, go_sem, d0, d1, d2, d3, e0, e1, e2, e3]) rfl ⟨rfl, htt⟩
  · cases ST
    · clear hm
      go_enter Try.func20, Try.ntmps20
      go_wp2_with fail
      refine (HS.out _ T0.out).mono ?_
      rintro e w1 ⟨rfl, ht1⟩
      have T1 := Lib.hid (T0.out.trans ht1)
      have R1 := Lib.hid (R0.out.turn ht1 (fun h => h))
      have S1 := Lib.hid (S0.out.turn ht1 (fun h => h))
      clear ht1 T0 B0 R0 S0
      have r0 := R1.out.cell 0
      have r1 := R1.out.cell 1
      have r2 := R1.out.cell 2
      have r3 := R1.out.cell 3
      have g0 := R1.out.free 0
      have g1 := R1.out.free 1
      have g2 := R1.out.free 2
      have g3 := R1.out.free 3
      simp only [List.getElem?_cons_zero, List.getElem?_cons_succ] at r0 r1 r2 r3
      have s0 := S1.out.cell 0
      have s1 := S1.out.cell 1
      have s2 := S1.out.cell 2
      have s3 := S1.out.cell 3
      have h0 := S1.out.free 0
      have h1 := S1.out.free 1
      have h2 := S1.out.free 2
      have h3 := S1.out.free 3
      simp only [List.getElem?_cons_zero, List.getElem?_cons_succ] at s0 s1 s2 s3
      go_wp2_with fail
      obtain ⟨hf1, ht1⟩ := put4 R1.out (.bool false) (.slice none 0 0) (.slice none 0 0) (.slice none 0 0)
      have S8 := S1.out.turn ht1 (fun h => by omega)
      obtain ⟨hf2, ht2⟩ := put4 S8 (.bool false) (.slice none 0 0) (.slice none 0 0) (.slice none 0 0)
      have htt := (T1.out.trans_new ht1 (fun k hk e => by omega)).trans_new ht2 (fun k hk e => by omega)
      have hGA := hf1.turn ht2 (fun h => by omega)
      have d0 := hGA.cell 0
      have d1 := hGA.cell 1
      have d2 := hGA.cell 2
      have d3 := hGA.cell 3
      have e0 := hf2.cell 0
      have e1 := hf2.cell 1
      have e2 := hf2.cell 2
      have e3 := hf2.cell 3
      simp only [List.getElem?_cons_zero, List.getElem?_cons_succ] at d0 d1 d2 d3 e0 e1 e2 e3
      clear hGA hf1 hf2 ht1 ht2 S8 r0 r1 r2 r3 g0 g1 g2 g3 s0 s1 s2 s3 h0 h1 h2 h3
      generalize ((((((((w1).setCell ⟨w.heap.size + 1, 0, none⟩ (.bool false)).setCell ⟨w.heap.size + 1, 1, none⟩ (.slice none 0 0)).setCell ⟨w.heap.size + 1, 2, none⟩ (.slice none 0 0)).setCell ⟨w.heap.size + 1, 3, none⟩ (.slice none 0 0)).setCell ⟨w.heap.size + 1 + 1, 0, none⟩ (.bool false)).setCell ⟨w.heap.size + 1 + 1, 1, none⟩ (.slice none 0 0)).setCell ⟨w.heap.size + 1 + 1, 2, none⟩ (.slice none 0 0)).setCell ⟨w.heap.size + 1 + 1, 3, none⟩ (.slice none 0 0) = WF at *
      exact bodyPost_ret (v := .tuple #[.agg #[.bool false, .slice none 0 0, .slice none 0 0, .slice none 0 0], .string ⟨#[]⟩, .agg #[.bool false, .slice none 0 0, .slice none 0 0, .slice none 0 0], .bool false]) (by simp [results, Try.results20, go_sem, d0, d1, d2, d3, e0, e1, e2, e3]) rfl ⟨rfl, htt⟩
    · have hm2 : nk ≤ 1 + 0 := by rcases hm with h | h; cases h; exact h
      have z5 : decide ((nk : Int) - 1 < 1) = true := decide_eq_true (by omega)
      clear hm
      go_enter Try.func20, Try.ntmps20
      go_wp2_with fail
      refine (HS.out _ T0.out).mono ?_
      rintro e w1 ⟨rfl, ht1⟩
      have T1 := Lib.hid (T0.out.trans ht1)
      have R1 := Lib.hid (R0.out.turn ht1 (fun h => h))
      have S1 := Lib.hid (S0.out.turn ht1 (fun h => h))
      clear ht1 T0 B0 R0 S0
      have r0 := R1.out.cell 0
      have r1 := R1.out.cell 1
      have r2 := R1.out.cell 2
      have r3 := R1.out.cell 3
      have g0 := R1.out.free 0
      have g1 := R1.out.free 1
      have g2 := R1.out.free 2
      have g3 := R1.out.free 3
      simp only [List.getElem?_cons_zero, List.getElem?_cons_succ] at r0 r1 r2 r3
      have s0 := S1.out.cell 0
      have s1 := S1.out.cell 1
      have s2 := S1.out.cell 2
      have s3 := S1.out.cell 3
      have h0 := S1.out.free 0
      have h1 := S1.out.free 1
      have h2 := S1.out.free 2
      have h3 := S1.out.free 3
      simp only [List.getElem?_cons_zero, List.getElem?_cons_succ] at s0 s1 s2 s3
      go_wp2_with fail
      obtain ⟨hf1, ht1⟩ := put4 R1.out (.bool false) (.slice none 0 0) (.slice none 0 0) (.slice none 0 0)
      have S8 := S1.out.turn ht1 (fun h => by omega)
      obtain ⟨hf2, ht2⟩ := put4 S8 (.bool false) (.slice none 0 0) (.slice none 0 0) (.slice none 0 0)
      have htt := (T1.out.trans_new ht1 (fun k hk e => by omega)).trans_new ht2 (fun k hk e => by omega)
      have hGA := hf1.turn ht2 (fun h => by omega)
      have d0 := hGA.cell 0
      have d1 := hGA.cell 1
      have d2 := hGA.cell 2
      have d3 := hGA.cell 3
      have e0 := hf2.cell 0
      have e1 := hf2.cell 1
      have e2 := hf2.cell 2
      have e3 := hf2.cell 3
      simp only [List.getElem?_cons_zero, List.getElem?_cons_succ] at d0 d1 d2 d3 e0 e1 e2 e3
      clear hGA hf1 hf2 ht1 ht2 S8 r0 r1 r2 r3 g0 g1 g2 g3 s0 s1 s2 s3 h0 h1 h2 h3
      generalize ((((((((w1).setCell ⟨w.heap.size + 1, 0, none⟩ (.bool false)).setCell ⟨w.heap.size + 1, 1, none⟩ (.slice none 0 0)).setCell ⟨w.heap.size + 1, 2, none⟩ (.slice none 0 0)).setCell ⟨w.heap.size + 1, 3, none⟩ (.slice none 0 0)).setCell ⟨w.heap.size + 1 + 1, 0, none⟩ (.bool false)).setCell ⟨w.heap.size + 1 + 1, 1, none⟩ (.slice none 0 0)).setCell ⟨w.heap.size + 1 + 1, 2, none⟩ (.slice none 0 0)).setCell ⟨w.heap.size + 1 + 1, 3, none⟩ (.slice none 0 0) = WF at *
      exact bodyPost_ret (v := .tuple #[.agg #[.bool false, .slice none 0 0, .slice none 0 0, .slice none 0 0], .string ⟨#[]⟩, .agg #[.bool false, .slice none 0 0, .slice none 0 0, .slice none 0 0], .bool false]) (by simp [results, Try.results20, go_sem, d0, d1, d2, d3, e0, e1, e2, e3]) rfl ⟨rfl, htt⟩
end Go.Proofs.Ytpnnbfojdccfhaa
