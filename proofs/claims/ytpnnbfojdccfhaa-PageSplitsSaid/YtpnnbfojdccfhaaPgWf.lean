/- Layer 8: the document's Split. -/
import Derived.Test.YtpnnbfojdccfhaaPgWe
import Derived.Test.YtpnnbfojdccfhaaPgY
namespace Go.Proofs.Ytpnnbfojdccfhaa
open Go.RowKit
set_option linter.unusedVariables false
set_option linter.unusedSimpArgs false
set_option maxRecDepth 100000

theorem size_cap {n : Nd} (hf : Few8 n) : size8 n ≤ 1000000000000000000 := by
  have h1 := hf.sums
  have h2 := hf.nk
  unfold size8 kb8
  split
  · omega
  · omega
/-- Where a node is split. -/
def Ks (n : Nd) (k : Nat) : Prop := 1 ≤ k ∧ k + bet8 n.leaf < n.keys.length ∧ (∀ i, 1 ≤ i → i < k → size8 (part8 n 0 i) < size8 n / 2) ∧ (k + bet8 n.leaf + 1 < n.keys.length → size8 n / 2 ≤ size8 (part8 n 0 k))
theorem Ks.one {n : Nd} {a b : Nat} (h : Ks n a) (g : Ks n b) : a = b := by
  obtain ⟨h1, h2, h3, h4⟩ := h
  obtain ⟨g1, g2, g3, g4⟩ := g
  rcases Nat.lt_trichotomy a b with hl | he | hg
  · have := g3 a h1 hl; have := h4 (by omega); omega
  · exact he
  · have := h3 b g1 hg; have := g4 (by omega); omega
theorem refPart_any (n : Nd) (a b : Nat) (A1 : Option Addr) (c1 : Nat) (A2 : Option Addr) (c2 : Nat) (A3 : Option Addr) (c3 : Nat) (w : World) (h : No w A1 c1 A2 c2 A3 c3 n) (hc1 : Cp A1 n.keys.length c1) (hc2 : Cp A2 n.vals.length c2) (hc3 : Cp A3 n.kids.length c3) (hs : Stands8 n) (h0 : 0 < n.keys.length) (h2 : n.keys.length ≤ 2000) (hab : a < b) (hb : b ≤ n.keys.length) :
    Calls Try.prog 45 #[nv8 A1 c1 A2 c2 A3 c3 n, .int .i64 a, .int .i64 b] w fun e w' => ∃ v, e = .returned v ∧ (NoF w w' v (part8 n a b) ∧ Turn (fun _ => False) w w') := by
  have h3 := hs.2
  cases hlf : n.leaf with
  | true =>
    rw [hlf] at h3
    exact refPartL_any n a b A1 c1 A2 c2 A3 c3 w h hc1 hc2 hc3 hlf h3.2.1 h0 h2 hab hb
  | false =>
    rw [hlf] at h3
    exact refPartK_any n a b A1 c1 A2 c2 A3 c3 w h hc1 hc2 hc3 hlf h3.2.2 h0 h2 hab hb
set_option maxHeartbeats 4000000 in
theorem refSplit_no (n : Nd) (A1 : Option Addr) (c1 : Nat) (A2 : Option Addr) (c2 : Nat) (A3 : Option Addr) (c3 : Nat) (w : World) (h : No w A1 c1 A2 c2 A3 c3 n) (hf : Few8 n) (hm : st8 n = false ∨ n.keys.length ≤ 1 + bet8 n.leaf) :
    Calls Try.prog 21 #[nv8 A1 c1 A2 c2 A3 c3 n] w fun e w' => e = .returned (.tuple #[.agg #[.bool false, .slice none 0 0, .slice none 0 0, .slice none 0 0], .string ⟨#[]⟩, .agg #[.bool false, .slice none 0 0, .slice none 0 0, .slice none 0 0], .bool false]) ∧ Turn (fun _ => False) w w' := by
  have HS := Lib.hid (fun X (ht : Turn (fun _ => False) w X) => refStands_any n A1 c1 A2 c2 A3 c3 X (h.turn ht) hf)
  have h2000 := hf.nk
  have T0 := Lib.hid ((((Turn.refl (fun _ => False) w).alloc (.cells #[.bool n.leaf, .slice A1 n.keys.length c1, .slice A2 n.vals.length c2, .slice A3 n.kids.length c3] 26)).alloc (.cells #[.bool false, .slice none 0 0, .slice none 0 0, .slice none 0 0] 26)).alloc (.cells #[.bool false, .slice none 0 0, .slice none 0 0, .slice none 0 0] 26))
  have B0 := Lib.hid (box_three w [.bool n.leaf, .slice A1 n.keys.length c1, .slice A2 n.vals.length c2, .slice A3 n.kids.length c3] [.bool false, .slice none 0 0, .slice none 0 0, .slice none 0 0] [.bool false, .slice none 0 0, .slice none 0 0, .slice none 0 0]).1
  have R0 := Lib.hid (box_three w [.bool n.leaf, .slice A1 n.keys.length c1, .slice A2 n.vals.length c2, .slice A3 n.kids.length c3] [.bool false, .slice none 0 0, .slice none 0 0, .slice none 0 0] [.bool false, .slice none 0 0, .slice none 0 0, .slice none 0 0]).2.1
  have S0 := Lib.hid (box_three w [.bool n.leaf, .slice A1 n.keys.length c1, .slice A2 n.vals.length c2, .slice A3 n.kids.length c3] [.bool false, .slice none 0 0, .slice none 0 0, .slice none 0 0] [.bool false, .slice none 0 0, .slice none 0 0, .slice none 0 0]).2.2
  clear h hf
  simp only [nv8] at HS ⊢
  generalize st8 n = ST at *
  generalize n.leaf = leaf at *
  generalize n.keys.length = nk at *
  generalize n.vals.length = nv at *
  generalize n.kids.length = nd at *
  have z1 := wrap_of ((nk : Int) - 1) (by omega) (by omega)
  have z2 := wrap_of ((nk : Int) - 1 - 1) (by omega) (by omega)
  have z3 := wrap_of (nk : Int) (by omega) (by omega)
  cases leaf
  · cases ST
    · clear hm
      go_enter Try.func21, Try.ntmps21
      go_wp2_with fail
      refine (HS.out _ T0.out).mono ?_
      rintro e w1 ⟨rfl, ht1⟩
      have T1 := Lib.hid (T0.out.trans ht1)
      have R1 := Lib.hid (R0.out.turn ht1 (fun h => h))
      have S1 := Lib.hid (S0.out.turn ht1 (fun h => h))
      clear ht1 T0 B0 R0 S0
      have r0 := R1.out.cell 0
      have r1 := R1.out.cell 1
      have r2 := R1.out.cell 2
      have r3 := R1.out.cell 3
      have g0 := R1.out.free 0
      have g1 := R1.out.free 1
      have g2 := R1.out.free 2
      have g3 := R1.out.free 3
      simp only [List.getElem?_cons_zero, List.getElem?_cons_succ] at r0 r1 r2 r3
      have s0 := S1.out.cell 0
      have s1 := S1.out.cell 1
      have s2 := S1.out.cell 2
      have s3 := S1.out.cell 3
      have h0 := S1.out.free 0
      have h1 := S1.out.free 1
      have h2 := S1.out.free 2
      have h3 := S1.out.free 3
      simp only [List.getElem?_cons_zero, List.getElem?_cons_succ] at s0 s1 s2 s3
      go_wp2_with fail
      obtain ⟨hf1, ht1⟩ := put4 R1.out (.bool false) (.slice none 0 0) (.slice none 0 0) (.slice none 0 0)
      have S8 := S1.out.turn ht1 (fun h => by omega)
      obtain ⟨hf2, ht2⟩ := put4 S8 (.bool false) (.slice none 0 0) (.slice none 0 0) (.slice none 0 0)
      have htt := (T1.out.trans_new ht1 (fun k hk e => by omega)).trans_new ht2 (fun k hk e => by omega)
      have hGA := hf1.turn ht2 (fun h => by omega)
      have d0 := hGA.cell 0
      have d1 := hGA.cell 1
      have d2 := hGA.cell 2
      have d3 := hGA.cell 3
      have e0 := hf2.cell 0
      have e1 := hf2.cell 1
      have e2 := hf2.cell 2
      have e3 := hf2.cell 3
      simp only [List.getElem?_cons_zero, List.getElem?_cons_succ] at d0 d1 d2 d3 e0 e1 e2 e3
      clear hGA hf1 hf2 ht1 ht2 S8 r0 r1 r2 r3 g0 g1 g2 g3 s0 s1 s2 s3 h0 h1 h2 h3
      generalize ((((((((w1).setCell ⟨w.heap.size + 1, 0, none⟩ (.bool false)).setCell ⟨w.heap.size + 1, 1, none⟩ (.slice none 0 0)).setCell ⟨w.heap.size + 1, 2, none⟩ (.slice none 0 0)).setCell ⟨w.heap.size + 1, 3, none⟩ (.slice none 0 0)).setCell ⟨w.heap.size + 1 + 1, 0, none⟩ (.bool false)).setCell ⟨w.heap.size + 1 + 1, 1, none⟩ (.slice none 0 0)).setCell ⟨w.heap.size + 1 + 1, 2, none⟩ (.slice none 0 0)).setCell ⟨w.heap.size + 1 + 1, 3, none⟩ (.slice none 0 0) = WF at *
      exact bodyPost_ret (v := .tuple #[.agg #[.bool false, .slice none 0 0, .slice none 0 0, .slice none 0 0], .string ⟨#[]⟩, .agg #[.bool false, .slice none 0 0, .slice none 0 0, .slice none 0 0], .bool false]) (by simp [results, Try.results21, go_sem, d0, d1, d2, d3, e0, e1, e2, e3]) rfl ⟨rfl, htt⟩
    · have hm2 : nk ≤ 1 + 1 := by rcases hm with h | h; cases h; exact h
      have z5 : decide ((nk : Int) - 1 - 1 < 1) = true := decide_eq_true (by omega)
      clear hm
      go_enter Try.func21, Try.ntmps21
      go_wp2_with fail
      refine (HS.out _ T0.out).mono ?_
      rintro e w1 ⟨rfl, ht1⟩
      have T1 := Lib.hid (T0.out.trans ht1)
      have R1 := Lib.hid (R0.out.turn ht1 (fun h => h))
      have S1 := Lib.hid (S0.out.turn ht1 (fun h => h))
      clear ht1 T0 B0 R0 S0
      have r0 := R1.out.cell 0
      have r1 := R1.out.cell 1
      have r2 := R1.out.cell 2
      have r3 := R1.out.cell 3
      have g0 := R1.out.free 0
      have g1 := R1.out.free 1
      have g2 := R1.out.free 2
      have g3 := R1.out.free 3
      simp only [List.getElem?_cons_zero, List.getElem?_cons_succ] at r0 r1 r2 r3
      have s0 := S1.out.cell 0
      have s1 := S1.out.cell 1
      have s2 := S1.out.cell 2
      have s3 := S1.out.cell 3
      have h0 := S1.out.free 0
      have h1 := S1.out.free 1
      have h2 := S1.out.free 2
      have h3 := S1.out.free 3
      simp only [List.getElem?_cons_zero, List.getElem?_cons_succ] at s0 s1 s2 s3
      go_wp2_with fail
      obtain ⟨hf1, ht1⟩ := put4 R1.out (.bool false) (.slice none 0 0) (.slice none 0 0) (.slice none 0 0)
      have S8 := S1.out.turn ht1 (fun h => by omega)
      obtain ⟨hf2, ht2⟩ := put4 S8 (.bool false) (.slice none 0 0) (.slice none 0 0) (.slice none 0 0)
      have htt := (T1.out.trans_new ht1 (fun k hk e => by omega)).trans_new ht2 (fun k hk e => by omega)
      have hGA := hf1.turn ht2 (fun h => by omega)
      have d0 := hGA.cell 0
      have d1 := hGA.cell 1
      have d2 := hGA.cell 2
      have d3 := hGA.cell 3
      have e0 := hf2.cell 0
      have e1 := hf2.cell 1
      have e2 := hf2.cell 2
      have e3 := hf2.cell 3
      simp only [List.getElem?_cons_zero, List.getElem?_cons_succ] at d0 d1 d2 d3 e0 e1 e2 e3
      clear hGA hf1 hf2 ht1 ht2 S8 r0 r1 r2 r3 g0 g1 g2 g3 s0 s1 s2 s3 h0 h1 h2 h3
      generalize ((((((((w1).setCell ⟨w.heap.size + 1, 0, none⟩ (.bool false)).setCell ⟨w.heap.size + 1, 1, none⟩ (.slice none 0 0)).setCell ⟨w.heap.size + 1, 2, none⟩ (.slice none 0 0)).setCell ⟨w.heap.size + 1, 3, none⟩ (.slice none 0 0)).setCell ⟨w.heap.size + 1 + 1, 0, none⟩ (.bool false)).setCell ⟨w.heap.size + 1 + 1, 1, none⟩ (.slice none 0 0)).setCell ⟨w.heap.size + 1 + 1, 2, none⟩ (.slice none 0 0)).setCell ⟨w.heap.size + 1 + 1, 3, none⟩ (.slice none 0 0) = WF at *
      exact bodyPost_ret (v := .tuple #[.agg #[.bool false, .slice none 0 0, .slice none 0 0, .slice none 0 0], .string ⟨#[]⟩, .agg #[.bool false, .slice none 0 0, .slice none 0 0, .slice none 0 0], .bool false]) (by simp [results, Try.results21, go_sem, d0, d1, d2, d3, e0, e1, e2, e3]) rfl ⟨rfl, htt⟩
  · cases ST
    · clear hm
      go_enter Try.func21, Try.ntmps21
      go_wp2_with fail
      refine (HS.out _ T0.out).mono ?_
      rintro e w1 ⟨rfl, ht1⟩
      have T1 := Lib.hid (T0.out.trans ht1)
      have R1 := Lib.hid (R0.out.turn ht1 (fun h => h))
      have S1 := Lib.hid (S0.out.turn ht1 (fun h => h))
      clear ht1 T0 B0 R0 S0
      have r0 := R1.out.cell 0
      have r1 := R1.out.cell 1
      have r2 := R1.out.cell 2
      have r3 := R1.out.cell 3
      have g0 := R1.out.free 0
      have g1 := R1.out.free 1
      have g2 := R1.out.free 2
      have g3 := R1.out.free 3
      simp only [List.getElem?_cons_zero, List.getElem?_cons_succ] at r0 r1 r2 r3
      have s0 := S1.out.cell 0
      have s1 := S1.out.cell 1
      have s2 := S1.out.cell 2
      have s3 := S1.out.cell 3
      have h0 := S1.out.free 0
      have h1 := S1.out.free 1
      have h2 := S1.out.free 2
      have h3 := S1.out.free 3
      simp only [List.getElem?_cons_zero, List.getElem?_cons_succ] at s0 s1 s2 s3
      go_wp2_with fail
      obtain ⟨hf1, ht1⟩ := put4 R1.out (.bool false) (.slice none 0 0) (.slice none 0 0) (.slice none 0 0)
      have S8 := S1.out.turn ht1 (fun h => by omega)
      obtain ⟨hf2, ht2⟩ := put4 S8 (.bool false) (.slice none 0 0) (.slice none 0 0) (.slice none 0 0)
      have htt := (T1.out.trans_new ht1 (fun k hk e => by omega)).trans_new ht2 (fun k hk e => by omega)
      have hGA := hf1.turn ht2 (fun h => by omega)
      have d0 := hGA.cell 0
      have d1 := hGA.cell 1
      have d2 := hGA.cell 2
      have d3 := hGA.cell 3
      have e0 := hf2.cell 0
      have e1 := hf2.cell 1
      have e2 := hf2.cell 2
      have e3 := hf2.cell 3
      simp only [List.getElem?_cons_zero, List.getElem?_cons_succ] at d0 d1 d2 d3 e0 e1 e2 e3
      clear hGA hf1 hf2 ht1 ht2 S8 r0 r1 r2 r3 g0 g1 g2 g3 s0 s1 s2 s3 h0 h1 h2 h3
      generalize ((((((((w1).setCell ⟨w.heap.size + 1, 0, none⟩ (.bool false)).setCell ⟨w.heap.size + 1, 1, none⟩ (.slice none 0 0)).setCell ⟨w.heap.size + 1, 2, none⟩ (.slice none 0 0)).setCell ⟨w.heap.size + 1, 3, none⟩ (.slice none 0 0)).setCell ⟨w.heap.size + 1 + 1, 0, none⟩ (.bool false)).setCell ⟨w.heap.size + 1 + 1, 1, none⟩ (.slice none 0 0)).setCell ⟨w.heap.size + 1 + 1, 2, none⟩ (.slice none 0 0)).setCell ⟨w.heap.size + 1 + 1, 3, none⟩ (.slice none 0 0) = WF at *
      exact bodyPost_ret (v := .tuple #[.agg #[.bool false, .slice none 0 0, .slice none 0 0, .slice none 0 0], .string ⟨#[]⟩, .agg #[.bool false, .slice none 0 0, .slice none 0 0, .slice none 0 0], .bool false]) (by simp [results, Try.results21, go_sem, d0, d1, d2, d3, e0, e1, e2, e3]) rfl ⟨rfl, htt⟩
    · have hm2 : nk ≤ 1 + 0 := by rcases hm with h | h; cases h; exact h
      have z5 : decide ((nk : Int) - 1 < 1) = true := decide_eq_true (by omega)
      clear hm
      go_enter Try.func21, Try.ntmps21
      go_wp2_with fail
      refine (HS.out _ T0.out).mono ?_
      rintro e w1 ⟨rfl, ht1⟩
      have T1 := Lib.hid (T0.out.trans ht1)
      have R1 := Lib.hid (R0.out.turn ht1 (fun h => h))
      have S1 := Lib.hid (S0.out.turn ht1 (fun h => h))
      clear ht1 T0 B0 R0 S0
      have r0 := R1.out.cell 0
      have r1 := R1.out.cell 1
      have r2 := R1.out.cell 2
      have r3 := R1.out.cell 3
      have g0 := R1.out.free 0
      have g1 := R1.out.free 1
      have g2 := R1.out.free 2
      have g3 := R1.out.free 3
      simp only [List.getElem?_cons_zero, List.getElem?_cons_succ] at r0 r1 r2 r3
      have s0 := S1.out.cell 0
      have s1 := S1.out.cell 1
      have s2 := S1.out.cell 2
      have s3 := S1.out.cell 3
      have h0 := S1.out.free 0
      have h1 := S1.out.free 1
      have h2 := S1.out.free 2
      have h3 := S1.out.free 3
      simp only [List.getElem?_cons_zero, List.getElem?_cons_succ] at s0 s1 s2 s3
      go_wp2_with fail
      obtain ⟨hf1, ht1⟩ := put4 R1.out (.bool false) (.slice none 0 0) (.slice none 0 0) (.slice none 0 0)
      have S8 := S1.out.turn ht1 (fun h => by omega)
      obtain ⟨hf2, ht2⟩ := put4 S8 (.bool false) (.slice none 0 0) (.slice none 0 0) (.slice none 0 0)
      have htt := (T1.out.trans_new ht1 (fun k hk e => by omega)).trans_new ht2 (fun k hk e => by omega)
      have hGA := hf1.turn ht2 (fun h => by omega)
      have d0 := hGA.cell 0
      have d1 := hGA.cell 1
      have d2 := hGA.cell 2
      have d3 := hGA.cell 3
      have e0 := hf2.cell 0
      have e1 := hf2.cell 1
      have e2 := hf2.cell 2
      have e3 := hf2.cell 3
      simp only [List.getElem?_cons_zero, List.getElem?_cons_succ] at d0 d1 d2 d3 e0 e1 e2 e3
      clear hGA hf1 hf2 ht1 ht2 S8 r0 r1 r2 r3 g0 g1 g2 g3 s0 s1 s2 s3 h0 h1 h2 h3
      generalize ((((((((w1).setCell ⟨w.heap.size + 1, 0, none⟩ (.bool false)).setCell ⟨w.heap.size + 1, 1, none⟩ (.slice none 0 0)).setCell ⟨w.heap.size + 1, 2, none⟩ (.slice none 0 0)).setCell ⟨w.heap.size + 1, 3, none⟩ (.slice none 0 0)).setCell ⟨w.heap.size + 1 + 1, 0, none⟩ (.bool false)).setCell ⟨w.heap.size + 1 + 1, 1, none⟩ (.slice none 0 0)).setCell ⟨w.heap.size + 1 + 1, 2, none⟩ (.slice none 0 0)).setCell ⟨w.heap.size + 1 + 1, 3, none⟩ (.slice none 0 0) = WF at *
      exact bodyPost_ret (v := .tuple #[.agg #[.bool false, .slice none 0 0, .slice none 0 0, .slice none 0 0], .string ⟨#[]⟩, .agg #[.bool false, .slice none 0 0, .slice none 0 0, .slice none 0 0], .bool false]) (by simp [results, Try.results21, go_sem, d0, d1, d2, d3, e0, e1, e2, e3]) rfl ⟨rfl, htt⟩
set_option maxHeartbeats 16000000 in
theorem refSplit_yes (n : Nd) (A1 : Option Addr) (c1 : Nat) (A2 : Option Addr) (c2 : Nat) (A3 : Option Addr) (c3 : Nat) (w : World) (h : No w A1 c1 A2 c2 A3 c3 n) (hc1 : Cp A1 n.keys.length c1) (hc2 : Cp A2 n.vals.length c2) (hc3 : Cp A3 n.kids.length c3) (hf : Few8 n) (hs : Stands8 n) (hm : 1 + bet8 n.leaf < n.keys.length) :
    Calls Try.prog 21 #[nv8 A1 c1 A2 c2 A3 c3 n] w fun e w' => ∃ k va vb, e = .returned (.tuple #[va, .string (key8 n.keys k), vb, .bool true]) ∧ Ks n k ∧ NoO w' va (part8 n 0 k) ∧ NoO w' vb (part8 n (k + bet8 n.leaf) n.keys.length) ∧ Turn (fun _ => False) w w' := by
  have HS := Lib.hid (fun X (ht : Turn (fun _ => False) w X) => refStands_any n A1 c1 A2 c2 A3 c3 X (h.turn ht) hf)
  rw [st8_yes hs] at HS
  have h2000 := hf.nk
  have HPA := Lib.hid (fun X (a b : Nat) (ht : Turn (fun _ => False) w X) (hab : a < b) (hb : b ≤ n.keys.length) => refPart_any n a b A1 c1 A2 c2 A3 c3 X (h.turn ht) hc1 hc2 hc3 hs (by omega) h2000 hab hb)
  have HSZ : Hid (∀ X, Turn (fun _ => False) w X → Calls Try.prog 44 #[nv8 A1 c1 A2 c2 A3 c3 n] X fun e w' => ∃ v, e = .returned v ∧ (v = .int .i64 (size8 n : Nat) ∧ Turn (fun _ => False) X w')) := Lib.hid (fun X ht => (refSize_any n A1 c1 A2 c2 A3 c3 X (h.turn ht) hf).mono (fun e w' h => ⟨_, h.1, rfl, h.2⟩))
  have HSP : Hid (∀ (a b : Nat) X B1 d1 B2 d2 B3 d3, No X B1 d1 B2 d2 B3 d3 (part8 n a b) → Calls Try.prog 44 #[nv8 B1 d1 B2 d2 B3 d3 (part8 n a b)] X fun e w' => ∃ v, e = .returned v ∧ (v = .int .i64 (size8 (part8 n a b) : Nat) ∧ Turn (fun _ => False) X w')) := Lib.hid (fun a b X B1 d1 B2 d2 B3 d3 hh => (refSize_any (part8 n a b) B1 d1 B2 d2 B3 d3 X hh (few_part hf a b)).mono (fun e w' h => ⟨_, h.1, rfl, h.2⟩))
  obtain ⟨b1, o1, rfl, _, hcc⟩ := h.keys (by omega)
  have HCC := Lib.hid hcc
  have T0 := Lib.hid ((((Turn.refl (fun _ => False) w).alloc (.cells #[.bool n.leaf, .slice (some ⟨b1, o1, none⟩) n.keys.length c1, .slice A2 n.vals.length c2, .slice A3 n.kids.length c3] 26)).alloc (.cells #[.bool false, .slice none 0 0, .slice none 0 0, .slice none 0 0] 26)).alloc (.cells #[.bool false, .slice none 0 0, .slice none 0 0, .slice none 0 0] 26))
  have BX := Lib.hid (box_three w [.bool n.leaf, .slice (some ⟨b1, o1, none⟩) n.keys.length c1, .slice A2 n.vals.length c2, .slice A3 n.kids.length c3] [.bool false, .slice none 0 0, .slice none 0 0, .slice none 0 0] [.bool false, .slice none 0 0, .slice none 0 0, .slice none 0 0])
  have hz8 := size_cap hf
  have hzp : Hid (∀ k, size8 (part8 n 0 k) ≤ 1000000000000000000) := Lib.hid (fun k => size_cap (few_part hf 0 k))
  clear h hc1 hc2 hc3 hf hs hcc
  have HBE : Hid (bet8 n.leaf = if n.leaf then 0 else 1) := Lib.hid rfl
  obtain ⟨be, hbe⟩ : ∃ x, bet8 n.leaf = x := ⟨_, rfl⟩
  obtain ⟨SZ, hSZ⟩ : ∃ x, size8 n = x := ⟨_, rfl⟩
  have HKS : Hid (∀ k, Ks n k ↔ (1 ≤ k ∧ k + be < n.keys.length ∧ (∀ i, 1 ≤ i → i < k → size8 (part8 n 0 i) < SZ / 2) ∧ (k + be + 1 < n.keys.length → SZ / 2 ≤ size8 (part8 n 0 k)))) := Lib.hid (fun k => by unfold Ks; rw [hbe, hSZ])
  rw [hbe] at HBE hm ⊢
  rw [hSZ] at HSZ hz8
  have hbe1 : be ≤ 1 := by rw [HBE.out]; split <;> omega
  clear hbe hSZ
  simp only [nv8] at HS HSZ HPA ⊢
  generalize n.leaf = lf at *
  generalize hnk : n.keys.length = nk at *
  have HNK := Lib.hid hnk
  clear hnk
  generalize n.vals.length = nv at *
  generalize n.kids.length = nd at *
  obtain ⟨most, hmost⟩ : ∃ m, m + 1 + be = nk := ⟨nk - 1 - be, by omega⟩
  have z0 : ((nk : Int) - 1) - (be : Int) = (most : Int) := by omega
  have z1 := wrap_of ((nk : Int) - 1) (by omega) (by omega)
  have z2 := wrap_of (most : Int) (by omega) (by omega)
  have z3 : (1 : Int) ≤ (most : Int) := by omega
  have HB : Hid (be = if lf then 0 else 1) := HBE
  have HKC := Lib.hid HCC
  cases lf
  · obtain rfl : be = 1 := HBE.out
    go_enter Try.func21, Try.ntmps21
    go_wp2_with fail
    generalize hW : (((w.alloc (.cells #[.bool false, .slice (some ⟨b1, o1, none⟩) nk c1, .slice A2 nv c2, .slice A3 nd c3] 26)).alloc (.cells #[.bool false, .slice none 0 0, .slice none 0 0, .slice none 0 0] 26)).alloc (.cells #[.bool false, .slice none 0 0, .slice none 0 0, .slice none 0 0] 26)) = W at *
    have y0 : W.cell? ⟨w.heap.size, 0, none⟩ = some (.bool false) := BX.out.1.cell 0
    have y1 : W.cell? ⟨w.heap.size, 1, none⟩ = some (.slice (some ⟨b1, o1, none⟩) nk c1) := BX.out.1.cell 1
    have y2 : W.cell? ⟨w.heap.size, 2, none⟩ = some (.slice A2 nv c2) := BX.out.1.cell 2
    have y3 : W.cell? ⟨w.heap.size, 3, none⟩ = some (.slice A3 nd c3) := BX.out.1.cell 3
    rw [← hW] at y0 y1 y2 y3
    have zz : (nk : Int) - 1 - 1 = (most : Int) := by omega
    have hWW := Lib.hid hW
    clear hW
    refine (HS.out _ T0.out).mono ?_
    rintro e w1 ⟨rfl, ht1⟩
    have T1 := Lib.hid (T0.out.trans ht1)
    have B1 := Lib.hid (BX.out.1.turn ht1 (fun h => h))
    have R1 := Lib.hid (BX.out.2.1.turn ht1 (fun h => h))
    have S1 := Lib.hid (BX.out.2.2.turn ht1 (fun h => h))
    clear ht1 T0 BX hWW y0 y1 y2 y3
    go_wp2_with fail
    go_loopw [8] (fun v8 wr => ∃ k : Nat, 1 ≤ k ∧ k ≤ most ∧ v8 = .int .i64 k ∧ Hid (∀ i, 1 ≤ i → i < k → size8 (part8 n 0 i) < SZ / 2) ∧ Blk wr w.heap.size 26 [.bool false, .slice (some ⟨b1, o1, none⟩) nk c1, .slice A2 nv c2, .slice A3 nd c3] ∧ Blk wr (w.heap.size + 1) 26 [.bool false, .slice none 0 0, .slice none 0 0, .slice none 0 0] ∧ Blk wr (w.heap.size + 1 + 1) 26 [.bool false, .slice none 0 0, .slice none 0 0, .slice none 0 0] ∧ Turn (fun _ => False) w wr) (fun v8 _ => most - (intOf v8).toNat)
    case atStart => exact ⟨1, Nat.le_refl _, by omega, rfl, Lib.hid (fun i h1 h2 => by omega), B1.out, R1.out, S1.out, T1.out⟩
    case round =>
      obtain ⟨k, hk1, hk2, rfl, HLO, hB, hR, hS, hT⟩ := hrel
      have BB := Lib.hid hB
      have RR := Lib.hid hR
      have SS := Lib.hid hS
      have TT := Lib.hid hT
      have hsz := hT.size
      have hsl := hS.lt
      clear hB hR hS hT B1 R1 S1 T1
      by_cases hlt : k < most
      · have hlt1 : (k : Int) < (most : Int) := by omega
        by_cases hsm : size8 (part8 n 0 k) < SZ / 2
        · have HSM := Lib.hid hsm
          have hzk := hzp.out k
          have hs1 : ((size8 (part8 n 0 k) : Nat) : Int) < ((SZ / 2 : Nat) : Int) := by omega
          have hs2 : ((size8 (part8 n 0 k) : Nat) : Int) < (SZ : Int) / 2 := by omega
          have q0 : (SZ : Int) ≤ 9223372036854775807 := by omega
          have q1 : (0 : Int) ≤ (SZ : Int) := by omega
          have q2 := wrap_of ((k : Int) + 1) (by omega) (by omega)
          have q3 : IntKind.i64.wrap ((SZ : Int) / 2) = ((SZ / 2 : Nat) : Int) := by rw [wrap_of _ (by omega) (by omega)]; omega
          clear hsm
          go_wp2_with fail
          refine wp_region_noPanic ?_
          refine wp_region_held_drew (S := fun X => Turn (fun _ => False) wr X) (by kernel_rfl) ((Turn.refl (fun _ => False) wr).drew) (fun hHeld => ?_)
          refine wpAnyH_named (fun X0 hX0 => ?_)
          clear hHeld
          have T0 : Hid (Turn (fun _ => False) wr X0) := Lib.hid (by rw [hX0]; exact (Turn.refl (fun _ => False) wr).drew)
          have hH0 := T0.out
          clear hX0
          have B0_1 := Lib.hid ((BB.out).turn T0.out (fun h => h))
          have B0_2 := Lib.hid ((RR.out).turn T0.out (fun h => h))
          have B0_4 := Lib.hid ((SS.out).turn T0.out (fun h => h))
          refine wpAnyH_take (i := 0) (v := ?_) rfl (by kernel_rfl) (by kernel_rfl) (by kernel_rfl) (fun _ _ _ h => h) (Or.inl ⟨by rfl, ?_⟩) (by assumption) ?_
          rotate_left 1
          · intro w' hSw
            go_simp
            all_goals first | with_reducible rfl | (rw [if_neg (by omega)]; done) | (rw [if_pos (by omega)]; done) | (rw [if_neg (by omega)]; with_reducible rfl) | (rw [if_pos (by omega)]; with_reducible rfl)
          try simp only [List.getElem_toArray, List.getElem_cons_zero, List.getElem_cons_succ, Act.put, List.setIfInBounds_toArray, List.set_cons_zero, List.set_cons_succ]
          refine wpAnyH_take (i := 1) (v := ?_) rfl (by kernel_rfl) (by kernel_rfl) (by kernel_rfl) (fun _ _ _ h => h) (Or.inl ⟨by rfl, ?_⟩) (by assumption) ?_
          rotate_left 1
          · intro w' hSw
            go_simp
            all_goals first | with_reducible rfl | (rw [if_neg (by omega)]; done) | (rw [if_pos (by omega)]; done) | (rw [if_neg (by omega)]; with_reducible rfl) | (rw [if_pos (by omega)]; with_reducible rfl)
          try simp only [List.getElem_toArray, List.getElem_cons_zero, List.getElem_cons_succ, Act.put, List.setIfInBounds_toArray, List.set_cons_zero, List.set_cons_succ]
          refine wpAnyH_take (i := 2) (v := ?_) rfl (by kernel_rfl) (by kernel_rfl) (by kernel_rfl) (fun _ _ _ h => h) (Or.inl ⟨by rfl, ?_⟩) (by assumption) ?_
          rotate_left 1
          · intro w' hSw
            go_simp
            all_goals first | with_reducible rfl | (rw [if_neg (by omega)]; done) | (rw [if_pos (by omega)]; done) | (rw [if_neg (by omega)]; with_reducible rfl) | (rw [if_pos (by omega)]; with_reducible rfl)
          try simp only [List.getElem_toArray, List.getElem_cons_zero, List.getElem_cons_succ, Act.put, List.setIfInBounds_toArray, List.set_cons_zero, List.set_cons_succ]
          refine wpAnyH_take (i := 3) (v := ?_) rfl (by kernel_rfl) (by kernel_rfl) (by kernel_rfl) (fun _ _ _ h => h) (Or.inl ⟨by rfl, ?_⟩) (by assumption) ?_
          rotate_left 1
          · intro w' hSw
            go_simp
            all_goals first | with_reducible rfl | (rw [if_neg (by omega)]; done) | (rw [if_pos (by omega)]; done) | (rw [if_neg (by omega)]; with_reducible rfl) | (rw [if_pos (by omega)]; with_reducible rfl)
          try simp only [List.getElem_toArray, List.getElem_cons_zero, List.getElem_cons_succ, Act.put, List.setIfInBounds_toArray, List.set_cons_zero, List.set_cons_succ]
          refine wpAnyH_take (i := 4) (v := ?_) rfl (by kernel_rfl) (by kernel_rfl) (by kernel_rfl) (fun _ _ _ h => h) (Or.inl ⟨by rfl, ?_⟩) (by assumption) ?_
          rotate_left 1
          · intro w' hSw
            have x0 : w'.cell? ⟨w.heap.size, 0, none⟩ = some (.bool false) := (BB.out.turn hSw (fun h => h)).cell 0
            have x1 : w'.cell? ⟨w.heap.size, 1, none⟩ = some (.slice (some ⟨b1, o1, none⟩) nk c1) := (BB.out.turn hSw (fun h => h)).cell 1
            have x2 : w'.cell? ⟨w.heap.size, 2, none⟩ = some (.slice A2 nv c2) := (BB.out.turn hSw (fun h => h)).cell 2
            have x3 : w'.cell? ⟨w.heap.size, 3, none⟩ = some (.slice A3 nd c3) := (BB.out.turn hSw (fun h => h)).cell 3
            go_simp
            all_goals first | with_reducible rfl | (rw [if_neg (by omega)]; done) | (rw [if_pos (by omega)]; done) | (rw [if_neg (by omega)]; with_reducible rfl) | (rw [if_pos (by omega)]; with_reducible rfl)
          try simp only [List.getElem_toArray, List.getElem_cons_zero, List.getElem_cons_succ, Act.put, List.setIfInBounds_toArray, List.set_cons_zero, List.set_cons_succ]
          refine wpAnyH_take (i := 5) (v := ?_) rfl (by kernel_rfl) (by kernel_rfl) (by kernel_rfl) (fun _ _ _ h => h) (Or.inl ⟨by rfl, ?_⟩) (by assumption) ?_
          rotate_left 1
          · intro w' hSw
            go_simp
            all_goals first | with_reducible rfl | (rw [if_neg (by omega)]; done) | (rw [if_pos (by omega)]; done) | (rw [if_neg (by omega)]; with_reducible rfl) | (rw [if_pos (by omega)]; with_reducible rfl)
          try simp only [List.getElem_toArray, List.getElem_cons_zero, List.getElem_cons_succ, Act.put, List.setIfInBounds_toArray, List.set_cons_zero, List.set_cons_succ]
          refine wpAnyH_take (i := 8) (v := ?_) rfl (by kernel_rfl) (by kernel_rfl) (by kernel_rfl) (fun _ _ _ h => h) (Or.inl ⟨by rfl, ?_⟩) (by assumption) ?_
          rotate_left 1
          · intro w' hSw
            have x0 : w'.cell? ⟨w.heap.size, 0, none⟩ = some (.bool false) := (BB.out.turn hSw (fun h => h)).cell 0
            have x1 : w'.cell? ⟨w.heap.size, 1, none⟩ = some (.slice (some ⟨b1, o1, none⟩) nk c1) := (BB.out.turn hSw (fun h => h)).cell 1
            have x2 : w'.cell? ⟨w.heap.size, 2, none⟩ = some (.slice A2 nv c2) := (BB.out.turn hSw (fun h => h)).cell 2
            have x3 : w'.cell? ⟨w.heap.size, 3, none⟩ = some (.slice A3 nd c3) := (BB.out.turn hSw (fun h => h)).cell 3
            go_simp
            all_goals first | with_reducible rfl | (rw [if_neg (by omega)]; done) | (rw [if_pos (by omega)]; done) | (rw [if_neg (by omega)]; with_reducible rfl) | (rw [if_pos (by omega)]; with_reducible rfl)
          try simp only [List.getElem_toArray, List.getElem_cons_zero, List.getElem_cons_succ, Act.put, List.setIfInBounds_toArray, List.set_cons_zero, List.set_cons_succ]
          refine wpAnyH_ready (rs := [6]) (by kernel_rfl) (by simp) ?_
          refine AllReadyH.cons rfl (fun K hK => ?_) AllReadyH.nil
          refine step_call_on 45 Try.f45 _ _ rfl Try.func45 (by kernel_rfl) (by kernel_rfl) _ _ (HPA.out X0 0 k (TT.out.trans T0.out) (by omega) (by omega)) (by go_simp) (by first | (go_simp; done) | rfl) ?_
          rintro v X1 ⟨⟨E1, Ea, E2, Eb, E3, Ec, rfl, hn, hq⟩, ht⟩
          have T1 := Lib.hid (T0.out.trans ht)
          have hH1 := T1.out
          have hz1 := ht.size
          have hy1 := T0.out.size
          have B1_1 := Lib.hid (B0_1.out.turn ht (fun h => h))
          have B1_2 := Lib.hid (B0_2.out.turn ht (fun h => h))
          have B1_4 := Lib.hid (B0_4.out.turn ht (fun h => h))
          have hm1_1 := B0_1.out.lt
          have hm1_2 := B0_2.out.lt
          have hm1_4 := B0_4.out.lt
          have N1_E := Lib.hid (hn _ (Turn.refl _ _))
          have F_E := Lib.hid hn
          have Q_E := Lib.hid hq
          have hb_E : wr.heap.size ≤ X0.heap.size := T0.out.size
          clear hn hq
          clear T0 hH0 B0_1 B0_2 B0_4 ht
          refine hK.out _ _ hH1 (fun hHeld => ?_)
          clear hK K hHeld
          try simp only [List.getElem_toArray, List.getElem_cons_zero, List.getElem_cons_succ, Act.put, List.setIfInBounds_toArray, List.set_cons_zero, List.set_cons_succ]
          refine wpAnyH_ready (rs := [7]) (by kernel_rfl) (by simp) ?_
          refine AllReadyH.cons rfl (fun K hK => ?_) AllReadyH.nil
          refine step_call_on 44 Try.f44 _ _ rfl Try.func44 (by kernel_rfl) (by kernel_rfl) _ _ (HSP.out 0 k _ E1 Ea E2 Eb E3 Ec N1_E.out) (by go_simp) (by first | (go_simp; done) | rfl) ?_
          rintro v X2 ⟨rfl, ht⟩
          have T2 := Lib.hid (T1.out.trans ht)
          have hH2 := T2.out
          have hz2 := ht.size
          have hy2 := T1.out.size
          have B2_1 := Lib.hid (B1_1.out.turn ht (fun h => h))
          have B2_2 := Lib.hid (B1_2.out.turn ht (fun h => h))
          have B2_4 := Lib.hid (B1_4.out.turn ht (fun h => h))
          have hm2_1 := B1_1.out.lt
          have hm2_2 := B1_2.out.lt
          have hm2_4 := B1_4.out.lt
          have N2_E := Lib.hid (N1_E.out.turn ht)
          clear T1 hH1 B1_1 B1_2 B1_4 ht
          refine hK.out _ _ hH2 (fun hHeld => ?_)
          clear hK K hHeld
          try simp only [List.getElem_toArray, List.getElem_cons_zero, List.getElem_cons_succ, Act.put, List.setIfInBounds_toArray, List.set_cons_zero, List.set_cons_succ]
          refine wpAnyH_ready (rs := [9]) (by kernel_rfl) (by simp) ?_
          refine AllReadyH.cons rfl (fun K hK => ?_) AllReadyH.nil
          refine step_call_on 44 Try.f44 _ _ rfl Try.func44 (by kernel_rfl) (by kernel_rfl) _ _ (HSZ.out _ (TT.out.trans T2.out)) (by go_simp) (by first | (go_simp; done) | rfl) ?_
          rintro v X3 ⟨rfl, ht⟩
          have T3 := Lib.hid (T2.out.trans ht)
          have hH3 := T3.out
          have hz3 := ht.size
          have hy3 := T2.out.size
          have B3_1 := Lib.hid (B2_1.out.turn ht (fun h => h))
          have B3_2 := Lib.hid (B2_2.out.turn ht (fun h => h))
          have B3_4 := Lib.hid (B2_4.out.turn ht (fun h => h))
          have hm3_1 := B2_1.out.lt
          have hm3_2 := B2_2.out.lt
          have hm3_4 := B2_4.out.lt
          have N3_E := Lib.hid (N2_E.out.turn ht)
          clear T2 hH2 B2_1 B2_2 B2_4 ht
          refine hK.out _ _ hH3 (fun hHeld => ?_)
          clear hK K hHeld
          try simp only [List.getElem_toArray, List.getElem_cons_zero, List.getElem_cons_succ, Act.put, List.setIfInBounds_toArray, List.set_cons_zero, List.set_cons_succ]
          refine wpAnyH_take (i := 10) (v := ?_) rfl (by kernel_rfl) (by kernel_rfl) (by kernel_rfl) (fun _ _ _ h => h) (Or.inl ⟨by rfl, ?_⟩) (by assumption) ?_
          rotate_left 1
          · intro w' hSw
            go_simp
            all_goals first | with_reducible rfl | (rw [if_neg (by omega)]; done) | (rw [if_pos (by omega)]; done) | (rw [if_neg (by omega)]; with_reducible rfl) | (rw [if_pos (by omega)]; with_reducible rfl)
          try simp only [List.getElem_toArray, List.getElem_cons_zero, List.getElem_cons_succ, Act.put, List.setIfInBounds_toArray, List.set_cons_zero, List.set_cons_succ]
          refine wpAnyH_take (i := 11) (v := ?_) rfl (by kernel_rfl) (by kernel_rfl) (by kernel_rfl) (fun _ _ _ h => h) (Or.inl ⟨by rfl, ?_⟩) (by assumption) ?_
          rotate_left 1
          · intro w' hSw
            go_simp
            all_goals first | with_reducible rfl | (rw [if_neg (by omega)]; done) | (rw [if_pos (by omega)]; done) | (rw [if_neg (by omega)]; with_reducible rfl) | (rw [if_pos (by omega)]; with_reducible rfl)
          try simp only [List.getElem_toArray, List.getElem_cons_zero, List.getElem_cons_succ, Act.put, List.setIfInBounds_toArray, List.set_cons_zero, List.set_cons_succ]
          refine wpAnyH_take (i := 12) (v := ?_) rfl (by kernel_rfl) (by kernel_rfl) (by kernel_rfl) (fun _ _ _ h => h) (Or.inl ⟨by rfl, ?_⟩) (by assumption) ?_
          rotate_left 1
          · intro w' hSw
            go_simp
            all_goals first | with_reducible rfl | (rw [if_neg (by omega)]; done) | (rw [if_pos (by omega)]; done) | (rw [if_neg (by omega)]; with_reducible rfl) | (rw [if_pos (by omega)]; with_reducible rfl)
          try simp only [List.getElem_toArray, List.getElem_cons_zero, List.getElem_cons_succ, Act.put, List.setIfInBounds_toArray, List.set_cons_zero, List.set_cons_succ]
          refine wpAnyH_done (by kernel_rfl) ?_ _
          refine NoPanic.normal ?_
          go_wp2_with fail
          go_roundw
          case rel => exact ⟨k + 1, by omega, by omega, by simp, Lib.hid (fun i h1 h2 => by rcases Nat.lt_or_ge i k with h | h <;> first | exact HLO.out i h1 h | (obtain rfl : i = k := (by omega); exact HSM.out)), B3_1.out, B3_2.out, B3_4.out, TT.out.trans T3.out⟩
          case measure => simp [intOf]; omega
        · have HSM := Lib.hid hsm
          have hzk := hzp.out k
          have hs1 : ¬ ((size8 (part8 n 0 k) : Nat) : Int) < ((SZ / 2 : Nat) : Int) := by omega
          have hs2 : ¬ ((size8 (part8 n 0 k) : Nat) : Int) < (SZ : Int) / 2 := by omega
          have q0 : (SZ : Int) ≤ 9223372036854775807 := by omega
          have q1 : (0 : Int) ≤ (SZ : Int) := by omega
          have q3 : IntKind.i64.wrap ((SZ : Int) / 2) = ((SZ / 2 : Nat) : Int) := by rw [wrap_of _ (by omega) (by omega)]; omega
          have hd1 : decide (((size8 (part8 n 0 k) : Nat) : Int) < ((SZ / 2 : Nat) : Int)) = false := decide_eq_false hs1
          have hd2 : decide (((size8 (part8 n 0 k) : Nat) : Int) < (SZ : Int) / 2) = false := decide_eq_false hs2
          clear hsm
          have HKS2 : Hid (Ks n k) := Lib.hid ((HKS.out k).2 ⟨hk1, by omega, HLO.out, fun _ => by have := HSM.out; omega⟩)
          go_wp2_with fail
          refine wp_region_noPanic ?_
          refine wp_region_held_drew (S := fun X => Turn (fun _ => False) wr X) (by kernel_rfl) ((Turn.refl (fun _ => False) wr).drew) (fun hHeld => ?_)
          refine wpAnyH_named (fun X0 hX0 => ?_)
          clear hHeld
          have T0 : Hid (Turn (fun _ => False) wr X0) := Lib.hid (by rw [hX0]; exact (Turn.refl (fun _ => False) wr).drew)
          have hH0 := T0.out
          clear hX0
          have B0_1 := Lib.hid ((BB.out).turn T0.out (fun h => h))
          have B0_2 := Lib.hid ((RR.out).turn T0.out (fun h => h))
          have B0_4 := Lib.hid ((SS.out).turn T0.out (fun h => h))
          refine wpAnyH_take (i := 0) (v := ?_) rfl (by kernel_rfl) (by kernel_rfl) (by kernel_rfl) (fun _ _ _ h => h) (Or.inl ⟨by rfl, ?_⟩) (by assumption) ?_
          rotate_left 1
          · intro w' hSw
            go_simp
            all_goals first | with_reducible rfl | (rw [if_neg (by omega)]; done) | (rw [if_pos (by omega)]; done) | (rw [if_neg (by omega)]; with_reducible rfl) | (rw [if_pos (by omega)]; with_reducible rfl)
          try simp only [List.getElem_toArray, List.getElem_cons_zero, List.getElem_cons_succ, Act.put, List.setIfInBounds_toArray, List.set_cons_zero, List.set_cons_succ]
          refine wpAnyH_take (i := 1) (v := ?_) rfl (by kernel_rfl) (by kernel_rfl) (by kernel_rfl) (fun _ _ _ h => h) (Or.inl ⟨by rfl, ?_⟩) (by assumption) ?_
          rotate_left 1
          · intro w' hSw
            go_simp
            all_goals first | with_reducible rfl | (rw [if_neg (by omega)]; done) | (rw [if_pos (by omega)]; done) | (rw [if_neg (by omega)]; with_reducible rfl) | (rw [if_pos (by omega)]; with_reducible rfl)
          try simp only [List.getElem_toArray, List.getElem_cons_zero, List.getElem_cons_succ, Act.put, List.setIfInBounds_toArray, List.set_cons_zero, List.set_cons_succ]
          refine wpAnyH_take (i := 2) (v := ?_) rfl (by kernel_rfl) (by kernel_rfl) (by kernel_rfl) (fun _ _ _ h => h) (Or.inl ⟨by rfl, ?_⟩) (by assumption) ?_
          rotate_left 1
          · intro w' hSw
            go_simp
            all_goals first | with_reducible rfl | (rw [if_neg (by omega)]; done) | (rw [if_pos (by omega)]; done) | (rw [if_neg (by omega)]; with_reducible rfl) | (rw [if_pos (by omega)]; with_reducible rfl)
          try simp only [List.getElem_toArray, List.getElem_cons_zero, List.getElem_cons_succ, Act.put, List.setIfInBounds_toArray, List.set_cons_zero, List.set_cons_succ]
          refine wpAnyH_take (i := 3) (v := ?_) rfl (by kernel_rfl) (by kernel_rfl) (by kernel_rfl) (fun _ _ _ h => h) (Or.inl ⟨by rfl, ?_⟩) (by assumption) ?_
          rotate_left 1
          · intro w' hSw
            go_simp
            all_goals first | with_reducible rfl | (rw [if_neg (by omega)]; done) | (rw [if_pos (by omega)]; done) | (rw [if_neg (by omega)]; with_reducible rfl) | (rw [if_pos (by omega)]; with_reducible rfl)
          try simp only [List.getElem_toArray, List.getElem_cons_zero, List.getElem_cons_succ, Act.put, List.setIfInBounds_toArray, List.set_cons_zero, List.set_cons_succ]
          refine wpAnyH_take (i := 4) (v := ?_) rfl (by kernel_rfl) (by kernel_rfl) (by kernel_rfl) (fun _ _ _ h => h) (Or.inl ⟨by rfl, ?_⟩) (by assumption) ?_
          rotate_left 1
          · intro w' hSw
            have x0 : w'.cell? ⟨w.heap.size, 0, none⟩ = some (.bool false) := (BB.out.turn hSw (fun h => h)).cell 0
            have x1 : w'.cell? ⟨w.heap.size, 1, none⟩ = some (.slice (some ⟨b1, o1, none⟩) nk c1) := (BB.out.turn hSw (fun h => h)).cell 1
            have x2 : w'.cell? ⟨w.heap.size, 2, none⟩ = some (.slice A2 nv c2) := (BB.out.turn hSw (fun h => h)).cell 2
            have x3 : w'.cell? ⟨w.heap.size, 3, none⟩ = some (.slice A3 nd c3) := (BB.out.turn hSw (fun h => h)).cell 3
            go_simp
            all_goals first | with_reducible rfl | (rw [if_neg (by omega)]; done) | (rw [if_pos (by omega)]; done) | (rw [if_neg (by omega)]; with_reducible rfl) | (rw [if_pos (by omega)]; with_reducible rfl)
          try simp only [List.getElem_toArray, List.getElem_cons_zero, List.getElem_cons_succ, Act.put, List.setIfInBounds_toArray, List.set_cons_zero, List.set_cons_succ]
          refine wpAnyH_take (i := 5) (v := ?_) rfl (by kernel_rfl) (by kernel_rfl) (by kernel_rfl) (fun _ _ _ h => h) (Or.inl ⟨by rfl, ?_⟩) (by assumption) ?_
          rotate_left 1
          · intro w' hSw
            go_simp
            all_goals first | with_reducible rfl | (rw [if_neg (by omega)]; done) | (rw [if_pos (by omega)]; done) | (rw [if_neg (by omega)]; with_reducible rfl) | (rw [if_pos (by omega)]; with_reducible rfl)
          try simp only [List.getElem_toArray, List.getElem_cons_zero, List.getElem_cons_succ, Act.put, List.setIfInBounds_toArray, List.set_cons_zero, List.set_cons_succ]
          refine wpAnyH_take (i := 8) (v := ?_) rfl (by kernel_rfl) (by kernel_rfl) (by kernel_rfl) (fun _ _ _ h => h) (Or.inl ⟨by rfl, ?_⟩) (by assumption) ?_
          rotate_left 1
          · intro w' hSw
            have x0 : w'.cell? ⟨w.heap.size, 0, none⟩ = some (.bool false) := (BB.out.turn hSw (fun h => h)).cell 0
            have x1 : w'.cell? ⟨w.heap.size, 1, none⟩ = some (.slice (some ⟨b1, o1, none⟩) nk c1) := (BB.out.turn hSw (fun h => h)).cell 1
            have x2 : w'.cell? ⟨w.heap.size, 2, none⟩ = some (.slice A2 nv c2) := (BB.out.turn hSw (fun h => h)).cell 2
            have x3 : w'.cell? ⟨w.heap.size, 3, none⟩ = some (.slice A3 nd c3) := (BB.out.turn hSw (fun h => h)).cell 3
            go_simp
            all_goals first | with_reducible rfl | (rw [if_neg (by omega)]; done) | (rw [if_pos (by omega)]; done) | (rw [if_neg (by omega)]; with_reducible rfl) | (rw [if_pos (by omega)]; with_reducible rfl)
          try simp only [List.getElem_toArray, List.getElem_cons_zero, List.getElem_cons_succ, Act.put, List.setIfInBounds_toArray, List.set_cons_zero, List.set_cons_succ]
          refine wpAnyH_ready (rs := [6]) (by kernel_rfl) (by simp) ?_
          refine AllReadyH.cons rfl (fun K hK => ?_) AllReadyH.nil
          refine step_call_on 45 Try.f45 _ _ rfl Try.func45 (by kernel_rfl) (by kernel_rfl) _ _ (HPA.out X0 0 k (TT.out.trans T0.out) (by omega) (by omega)) (by go_simp) (by first | (go_simp; done) | rfl) ?_
          rintro v X1 ⟨⟨E1, Ea, E2, Eb, E3, Ec, rfl, hn, hq⟩, ht⟩
          have T1 := Lib.hid (T0.out.trans ht)
          have hH1 := T1.out
          have hz1 := ht.size
          have hy1 := T0.out.size
          have B1_1 := Lib.hid (B0_1.out.turn ht (fun h => h))
          have B1_2 := Lib.hid (B0_2.out.turn ht (fun h => h))
          have B1_4 := Lib.hid (B0_4.out.turn ht (fun h => h))
          have hm1_1 := B0_1.out.lt
          have hm1_2 := B0_2.out.lt
          have hm1_4 := B0_4.out.lt
          have N1_E := Lib.hid (hn _ (Turn.refl _ _))
          have F_E := Lib.hid hn
          have Q_E := Lib.hid hq
          have hb_E : wr.heap.size ≤ X0.heap.size := T0.out.size
          clear hn hq
          clear T0 hH0 B0_1 B0_2 B0_4 ht
          refine hK.out _ _ hH1 (fun hHeld => ?_)
          clear hK K hHeld
          try simp only [List.getElem_toArray, List.getElem_cons_zero, List.getElem_cons_succ, Act.put, List.setIfInBounds_toArray, List.set_cons_zero, List.set_cons_succ]
          refine wpAnyH_ready (rs := [7]) (by kernel_rfl) (by simp) ?_
          refine AllReadyH.cons rfl (fun K hK => ?_) AllReadyH.nil
          refine step_call_on 44 Try.f44 _ _ rfl Try.func44 (by kernel_rfl) (by kernel_rfl) _ _ (HSP.out 0 k _ E1 Ea E2 Eb E3 Ec N1_E.out) (by go_simp) (by first | (go_simp; done) | rfl) ?_
          rintro v X2 ⟨rfl, ht⟩
          have T2 := Lib.hid (T1.out.trans ht)
          have hH2 := T2.out
          have hz2 := ht.size
          have hy2 := T1.out.size
          have B2_1 := Lib.hid (B1_1.out.turn ht (fun h => h))
          have B2_2 := Lib.hid (B1_2.out.turn ht (fun h => h))
          have B2_4 := Lib.hid (B1_4.out.turn ht (fun h => h))
          have hm2_1 := B1_1.out.lt
          have hm2_2 := B1_2.out.lt
          have hm2_4 := B1_4.out.lt
          have N2_E := Lib.hid (N1_E.out.turn ht)
          clear T1 hH1 B1_1 B1_2 B1_4 ht
          refine hK.out _ _ hH2 (fun hHeld => ?_)
          clear hK K hHeld
          try simp only [List.getElem_toArray, List.getElem_cons_zero, List.getElem_cons_succ, Act.put, List.setIfInBounds_toArray, List.set_cons_zero, List.set_cons_succ]
          refine wpAnyH_ready (rs := [9]) (by kernel_rfl) (by simp) ?_
          refine AllReadyH.cons rfl (fun K hK => ?_) AllReadyH.nil
          refine step_call_on 44 Try.f44 _ _ rfl Try.func44 (by kernel_rfl) (by kernel_rfl) _ _ (HSZ.out _ (TT.out.trans T2.out)) (by go_simp) (by first | (go_simp; done) | rfl) ?_
          rintro v X3 ⟨rfl, ht⟩
          have T3 := Lib.hid (T2.out.trans ht)
          have hH3 := T3.out
          have hz3 := ht.size
          have hy3 := T2.out.size
          have B3_1 := Lib.hid (B2_1.out.turn ht (fun h => h))
          have B3_2 := Lib.hid (B2_2.out.turn ht (fun h => h))
          have B3_4 := Lib.hid (B2_4.out.turn ht (fun h => h))
          have hm3_1 := B2_1.out.lt
          have hm3_2 := B2_2.out.lt
          have hm3_4 := B2_4.out.lt
          have N3_E := Lib.hid (N2_E.out.turn ht)
          clear T2 hH2 B2_1 B2_2 B2_4 ht
          refine hK.out _ _ hH3 (fun hHeld => ?_)
          clear hK K hHeld
          try simp only [List.getElem_toArray, List.getElem_cons_zero, List.getElem_cons_succ, Act.put, List.setIfInBounds_toArray, List.set_cons_zero, List.set_cons_succ]
          refine wpAnyH_take (i := 10) (v := ?_) rfl (by kernel_rfl) (by kernel_rfl) (by kernel_rfl) (fun _ _ _ h => h) (Or.inl ⟨by rfl, ?_⟩) (by assumption) ?_
          rotate_left 1
          · intro w' hSw
            go_simp
            all_goals first | with_reducible rfl | (rw [if_neg (by omega)]; done) | (rw [if_pos (by omega)]; done) | (rw [if_neg (by omega)]; with_reducible rfl) | (rw [if_pos (by omega)]; with_reducible rfl)
          try simp only [List.getElem_toArray, List.getElem_cons_zero, List.getElem_cons_succ, Act.put, List.setIfInBounds_toArray, List.set_cons_zero, List.set_cons_succ]
          refine wpAnyH_take (i := 11) (v := ?_) rfl (by kernel_rfl) (by kernel_rfl) (by kernel_rfl) (fun _ _ _ h => h) (Or.inl ⟨by rfl, ?_⟩) (by assumption) ?_
          rotate_left 1
          · intro w' hSw
            go_simp
            all_goals first | with_reducible rfl | (rw [if_neg (by omega)]; done) | (rw [if_pos (by omega)]; done) | (rw [if_neg (by omega)]; with_reducible rfl) | (rw [if_pos (by omega)]; with_reducible rfl)
          try simp only [List.getElem_toArray, List.getElem_cons_zero, List.getElem_cons_succ, Act.put, List.setIfInBounds_toArray, List.set_cons_zero, List.set_cons_succ]
          refine wpAnyH_take (i := 12) (v := ?_) rfl (by kernel_rfl) (by kernel_rfl) (by kernel_rfl) (fun _ _ _ h => h) (Or.inl ⟨by rfl, ?_⟩) (by assumption) ?_
          rotate_left 1
          · intro w' hSw
            go_simp
            all_goals first | with_reducible rfl | (rw [if_neg (by omega)]; done) | (rw [if_pos (by omega)]; done) | (rw [if_neg (by omega)]; with_reducible rfl) | (rw [if_pos (by omega)]; with_reducible rfl)
          try simp only [List.getElem_toArray, List.getElem_cons_zero, List.getElem_cons_succ, Act.put, List.setIfInBounds_toArray, List.set_cons_zero, List.set_cons_succ]
          refine wpAnyH_done (by kernel_rfl) ?_ _
          refine NoPanic.normal ?_
          have T9 := Lib.hid (TT.out.trans T3.out)
          have B9 := B3_1
          have R9 := B3_2
          have S9 := B3_4
          generalize X3 = w9 at *
          have hkl : k < n.keys.length := by rw [HNK.out]; omega
          have hkc : w9.cell? ⟨b1, o1 + k, none⟩ = some (.string (key8 n.keys k)) := HCC.out w9 T9.out k _ (by unfold key8; rw [List.getD_eq_getElem?_getD, List.getElem?_eq_getElem hkl]; rfl)
          have HKC9 := Lib.hid hkc
          have hb19 : b1 < w9.heap.size := by have := T9.out.size; omega
          have h9l := S9.out.lt
          have hw9 := T9.out.size
          have i1 : (0 : Int) ≤ (k : Int) := by omega
          have i2 : (k : Int) < (nk : Int) := by omega
          obtain ⟨kb, hkb⟩ : ∃ x, k + 1 = x := ⟨_, rfl⟩
          have i3 : (k : Int) + 1 = (kb : Int) := by omega
          have i4 := wrap_of (kb : Int) (by omega) (by omega)
          have i5 : kb < nk := by omega
          have HKB := Lib.hid hkb
          clear hkb
          clear hkc hkl
          go_wp2_with fail
          refine wp_region_noPanic ?_
          refine wp_region_held_drew (S := fun X => Turn (fun k => k = w.heap.size + 1 ∨ k = w.heap.size + 1 + 1) w9 X) (by kernel_rfl) ((Turn.refl (fun k => k = w.heap.size + 1 ∨ k = w.heap.size + 1 + 1) w9).drew) (fun hHeld => ?_)
          refine wpAnyH_named (fun X0 hX0 => ?_)
          clear hHeld
          have T0 : Hid (Turn (fun _ => False) w9 X0) := Lib.hid (by rw [hX0]; exact (Turn.refl (fun _ => False) w9).drew)
          have hH0 := T0.out.mono (T := (fun k => k = w.heap.size + 1 ∨ k = w.heap.size + 1 + 1)) (fun _ _ h => h.elim)
          clear hX0
          have B0_1 := Lib.hid ((B9.out).turn T0.out (fun h => h))
          have B0_2 := Lib.hid ((R9.out).turn T0.out (fun h => h))
          have B0_4 := Lib.hid ((S9.out).turn T0.out (fun h => h))
          refine wpAnyH_take (i := 0) (v := ?_) rfl (by kernel_rfl) (by kernel_rfl) (by kernel_rfl) (fun _ _ _ h => h) (Or.inl ⟨by rfl, ?_⟩) (by assumption) ?_
          rotate_left 1
          · intro w' hSw
            have x0 : w'.cell? ⟨w.heap.size, 0, none⟩ = some (.bool false) := (B9.out.turn hSw (by omega)).cell 0
            have x1 : w'.cell? ⟨w.heap.size, 1, none⟩ = some (.slice (some ⟨b1, o1, none⟩) nk c1) := (B9.out.turn hSw (by omega)).cell 1
            have x2 : w'.cell? ⟨w.heap.size, 2, none⟩ = some (.slice A2 nv c2) := (B9.out.turn hSw (by omega)).cell 2
            have x3 : w'.cell? ⟨w.heap.size, 3, none⟩ = some (.slice A3 nd c3) := (B9.out.turn hSw (by omega)).cell 3
            go_simp
            all_goals first | with_reducible rfl | (rw [if_neg (by omega)]; done) | (rw [if_pos (by omega)]; done) | (rw [if_neg (by omega)]; with_reducible rfl) | (rw [if_pos (by omega)]; with_reducible rfl)
          try simp only [List.getElem_toArray, List.getElem_cons_zero, List.getElem_cons_succ, Act.put, List.setIfInBounds_toArray, List.set_cons_zero, List.set_cons_succ]
          refine wpAnyH_take (i := 1) (v := ?_) rfl (by kernel_rfl) (by kernel_rfl) (by kernel_rfl) (fun _ _ _ h => h) (Or.inl ⟨by rfl, ?_⟩) (by assumption) ?_
          rotate_left 1
          · intro w' hSw
            go_simp
            all_goals first | with_reducible rfl | (rw [if_neg (by omega)]; done) | (rw [if_pos (by omega)]; done) | (rw [if_neg (by omega)]; with_reducible rfl) | (rw [if_pos (by omega)]; with_reducible rfl)
          try simp only [List.getElem_toArray, List.getElem_cons_zero, List.getElem_cons_succ, Act.put, List.setIfInBounds_toArray, List.set_cons_zero, List.set_cons_succ]
          refine wpAnyH_take (i := 3) (v := ?_) rfl (by kernel_rfl) (by kernel_rfl) (by kernel_rfl) (fun _ _ _ h => h) (Or.inl ⟨by rfl, ?_⟩) (by assumption) ?_
          rotate_left 1
          · intro w' hSw
            go_simp
            all_goals first | with_reducible rfl | (rw [if_neg (by omega)]; done) | (rw [if_pos (by omega)]; done) | (rw [if_neg (by omega)]; with_reducible rfl) | (rw [if_pos (by omega)]; with_reducible rfl)
          try simp only [List.getElem_toArray, List.getElem_cons_zero, List.getElem_cons_succ, Act.put, List.setIfInBounds_toArray, List.set_cons_zero, List.set_cons_succ]
          refine wpAnyH_take (i := 4) (v := ?_) rfl (by kernel_rfl) (by kernel_rfl) (by kernel_rfl) (fun _ _ _ h => h) (Or.inl ⟨by rfl, ?_⟩) (by assumption) ?_
          rotate_left 1
          · intro w' hSw
            have x1 : w'.cell? ⟨w.heap.size, 1, none⟩ = some (.slice (some ⟨b1, o1, none⟩) nk c1) := (B9.out.turn hSw (by omega)).cell 1
            go_simp
            all_goals first | with_reducible rfl | (rw [if_neg (by omega)]; done) | (rw [if_pos (by omega)]; done) | (rw [if_neg (by omega)]; with_reducible rfl) | (rw [if_pos (by omega)]; with_reducible rfl)
          try simp only [List.getElem_toArray, List.getElem_cons_zero, List.getElem_cons_succ, Act.put, List.setIfInBounds_toArray, List.set_cons_zero, List.set_cons_succ]
          refine wpAnyH_take (i := 5) (v := ?_) rfl (by kernel_rfl) (by kernel_rfl) (by kernel_rfl) (fun _ _ _ h => h) (Or.inl ⟨by rfl, ?_⟩) (by assumption) ?_
          rotate_left 1
          · intro w' hSw
            go_simp
            all_goals first | with_reducible rfl | (rw [if_neg (by omega)]; done) | (rw [if_pos (by omega)]; done) | (rw [if_neg (by omega)]; with_reducible rfl) | (rw [if_pos (by omega)]; with_reducible rfl)
          try simp only [List.getElem_toArray, List.getElem_cons_zero, List.getElem_cons_succ, Act.put, List.setIfInBounds_toArray, List.set_cons_zero, List.set_cons_succ]
          refine wpAnyH_take (i := 6) (v := ?_) rfl (by kernel_rfl) (by kernel_rfl) (by kernel_rfl) (fun _ _ _ h => h) (Or.inl ⟨by rfl, ?_⟩) (by assumption) ?_
          rotate_left 1
          · intro w' hSw
            go_simp
            all_goals first | with_reducible rfl | (rw [if_neg (by omega)]; done) | (rw [if_pos (by omega)]; done) | (rw [if_neg (by omega)]; with_reducible rfl) | (rw [if_pos (by omega)]; with_reducible rfl)
          try simp only [List.getElem_toArray, List.getElem_cons_zero, List.getElem_cons_succ, Act.put, List.setIfInBounds_toArray, List.set_cons_zero, List.set_cons_succ]
          refine wpAnyH_take (i := 7) (v := ?_) rfl (by kernel_rfl) (by kernel_rfl) (by kernel_rfl) (fun _ _ _ h => h) (Or.inl ⟨by rfl, ?_⟩) (by assumption) ?_
          rotate_left 1
          · intro w' hSw
            have xk : w'.cell? ⟨b1, o1 + k, none⟩ = some (.string (key8 n.keys k)) := (World.cell?_of_block (w := w9) (a := ⟨b1, o1 + k, none⟩) (hSw.block b1 hb19 (by omega))).trans HKC9.out
            go_simp
            all_goals first | with_reducible rfl | (rw [if_neg (by omega)]; done) | (rw [if_pos (by omega)]; done) | (rw [if_neg (by omega)]; with_reducible rfl) | (rw [if_pos (by omega)]; with_reducible rfl)
          try simp only [List.getElem_toArray, List.getElem_cons_zero, List.getElem_cons_succ, Act.put, List.setIfInBounds_toArray, List.set_cons_zero, List.set_cons_succ]
          refine wpAnyH_take (i := 8) (v := ?_) rfl (by kernel_rfl) (by kernel_rfl) (by kernel_rfl) (fun _ _ _ h => h) (Or.inl ⟨by rfl, ?_⟩) (by assumption) ?_
          rotate_left 1
          · intro w' hSw
            have x0 : w'.cell? ⟨w.heap.size, 0, none⟩ = some (.bool false) := (B9.out.turn hSw (by omega)).cell 0
            have x1 : w'.cell? ⟨w.heap.size, 1, none⟩ = some (.slice (some ⟨b1, o1, none⟩) nk c1) := (B9.out.turn hSw (by omega)).cell 1
            have x2 : w'.cell? ⟨w.heap.size, 2, none⟩ = some (.slice A2 nv c2) := (B9.out.turn hSw (by omega)).cell 2
            have x3 : w'.cell? ⟨w.heap.size, 3, none⟩ = some (.slice A3 nd c3) := (B9.out.turn hSw (by omega)).cell 3
            go_simp
            all_goals first | with_reducible rfl | (rw [if_neg (by omega)]; done) | (rw [if_pos (by omega)]; done) | (rw [if_neg (by omega)]; with_reducible rfl) | (rw [if_pos (by omega)]; with_reducible rfl)
          try simp only [List.getElem_toArray, List.getElem_cons_zero, List.getElem_cons_succ, Act.put, List.setIfInBounds_toArray, List.set_cons_zero, List.set_cons_succ]
          refine wpAnyH_take (i := 9) (v := ?_) rfl (by kernel_rfl) (by kernel_rfl) (by kernel_rfl) (fun _ _ _ h => h) (Or.inl ⟨by rfl, ?_⟩) (by assumption) ?_
          rotate_left 1
          · intro w' hSw
            go_simp
            all_goals first | with_reducible rfl | (rw [if_neg (by omega)]; done) | (rw [if_pos (by omega)]; done) | (rw [if_neg (by omega)]; with_reducible rfl) | (rw [if_pos (by omega)]; with_reducible rfl)
          try simp only [List.getElem_toArray, List.getElem_cons_zero, List.getElem_cons_succ, Act.put, List.setIfInBounds_toArray, List.set_cons_zero, List.set_cons_succ]
          refine wpAnyH_take (i := 10) (v := ?_) rfl (by kernel_rfl) (by kernel_rfl) (by kernel_rfl) (fun _ _ _ h => h) (Or.inl ⟨by rfl, ?_⟩) (by assumption) ?_
          rotate_left 1
          · intro w' hSw
            go_simp
            all_goals first | with_reducible rfl | (rw [if_neg (by omega)]; done) | (rw [if_pos (by omega)]; done) | (rw [if_neg (by omega)]; with_reducible rfl) | (rw [if_pos (by omega)]; with_reducible rfl)
          try simp only [List.getElem_toArray, List.getElem_cons_zero, List.getElem_cons_succ, Act.put, List.setIfInBounds_toArray, List.set_cons_zero, List.set_cons_succ]
          refine wpAnyH_take (i := 11) (v := ?_) rfl (by kernel_rfl) (by kernel_rfl) (by kernel_rfl) (fun _ _ _ h => h) (Or.inl ⟨by rfl, ?_⟩) (by assumption) ?_
          rotate_left 1
          · intro w' hSw
            go_simp
            all_goals first | with_reducible rfl | (rw [if_neg (by omega)]; done) | (rw [if_pos (by omega)]; done) | (rw [if_neg (by omega)]; with_reducible rfl) | (rw [if_pos (by omega)]; with_reducible rfl)
          try simp only [List.getElem_toArray, List.getElem_cons_zero, List.getElem_cons_succ, Act.put, List.setIfInBounds_toArray, List.set_cons_zero, List.set_cons_succ]
          refine wpAnyH_take (i := 12) (v := ?_) rfl (by kernel_rfl) (by kernel_rfl) (by kernel_rfl) (fun _ _ _ h => h) (Or.inl ⟨by rfl, ?_⟩) (by assumption) ?_
          rotate_left 1
          · intro w' hSw
            go_simp
            all_goals first | with_reducible rfl | (rw [if_neg (by omega)]; done) | (rw [if_pos (by omega)]; done) | (rw [if_neg (by omega)]; with_reducible rfl) | (rw [if_pos (by omega)]; with_reducible rfl)
          try simp only [List.getElem_toArray, List.getElem_cons_zero, List.getElem_cons_succ, Act.put, List.setIfInBounds_toArray, List.set_cons_zero, List.set_cons_succ]
          refine wpAnyH_take (i := 13) (v := ?_) rfl (by kernel_rfl) (by kernel_rfl) (by kernel_rfl) (fun _ _ _ h => h) (Or.inl ⟨by rfl, ?_⟩) (by assumption) ?_
          rotate_left 1
          · intro w' hSw
            have x1 : w'.cell? ⟨w.heap.size, 1, none⟩ = some (.slice (some ⟨b1, o1, none⟩) nk c1) := (B9.out.turn hSw (by omega)).cell 1
            go_simp
            all_goals first | with_reducible rfl | (rw [if_neg (by omega)]; done) | (rw [if_pos (by omega)]; done) | (rw [if_neg (by omega)]; with_reducible rfl) | (rw [if_pos (by omega)]; with_reducible rfl)
          try simp only [List.getElem_toArray, List.getElem_cons_zero, List.getElem_cons_succ, Act.put, List.setIfInBounds_toArray, List.set_cons_zero, List.set_cons_succ]
          refine wpAnyH_take (i := 14) (v := ?_) rfl (by kernel_rfl) (by kernel_rfl) (by kernel_rfl) (fun _ _ _ h => h) (Or.inl ⟨by rfl, ?_⟩) (by assumption) ?_
          rotate_left 1
          · intro w' hSw
            go_simp
            all_goals first | with_reducible rfl | (rw [if_neg (by omega)]; done) | (rw [if_pos (by omega)]; done) | (rw [if_neg (by omega)]; with_reducible rfl) | (rw [if_pos (by omega)]; with_reducible rfl)
          try simp only [List.getElem_toArray, List.getElem_cons_zero, List.getElem_cons_succ, Act.put, List.setIfInBounds_toArray, List.set_cons_zero, List.set_cons_succ]
          refine wpAnyH_ready (rs := [2]) (by kernel_rfl) (by simp) ?_
          refine AllReadyH.cons rfl (fun K hK => ?_) AllReadyH.nil
          refine step_call rfl 45 Try.f45 _ _ rfl Try.func45 (by kernel_rfl) (by kernel_rfl) _ _ (HPA.out X0 0 k (T9.out.trans T0.out) (by omega) (by omega)) (by go_simp) ?_
          rintro v X1 ⟨⟨E1, Ea, E2, Eb, E3, Ec, rfl, hn, hq⟩, ht⟩
          simp only [nv8]
          have T1 := Lib.hid (T0.out.trans ht)
          have hH1 := T1.out.mono (T := (fun k => k = w.heap.size + 1 ∨ k = w.heap.size + 1 + 1)) (fun _ _ h => h.elim)
          have hz1 := ht.size
          have hy1 := T0.out.size
          have B1_1 := Lib.hid (B0_1.out.turn ht (fun h => h))
          have B1_2 := Lib.hid (B0_2.out.turn ht (fun h => h))
          have B1_4 := Lib.hid (B0_4.out.turn ht (fun h => h))
          have hm1_1 := B0_1.out.lt
          have hm1_2 := B0_2.out.lt
          have hm1_4 := B0_4.out.lt
          have F_E := Lib.hid hn
          have Q_E := Lib.hid hq
          have D1_E := Lib.hid (Turn.refl (fun k => k < X0.heap.size) X1)
          have hz_E := T0.out.size
          have hw_E := ht.size
          clear hn hq
          clear T0 hH0 B0_1 B0_2 B0_4 ht
          refine hK.out _ _ hH1 (fun hHeld => ?_)
          clear hK K hHeld
          try simp only [List.getElem_toArray, List.getElem_cons_zero, List.getElem_cons_succ, Act.put, List.setIfInBounds_toArray, List.set_cons_zero, List.set_cons_succ]
          refine wpAnyH_ready (rs := [15]) (by kernel_rfl) (by simp) ?_
          refine AllReadyH.cons rfl (fun K hK => ?_) AllReadyH.nil
          refine step_call rfl 45 Try.f45 _ _ rfl Try.func45 (by kernel_rfl) (by kernel_rfl) _ _ (HPA.out X1 kb nk (T9.out.trans T1.out) (by omega) (by omega)) (by go_simp) ?_
          rintro v X2 ⟨⟨G1, Ga, G2, Gb, G3, Gc, rfl, hn, hq⟩, ht⟩
          simp only [nv8]
          have T2 := Lib.hid (T1.out.trans ht)
          have hH2 := T2.out.mono (T := (fun k => k = w.heap.size + 1 ∨ k = w.heap.size + 1 + 1)) (fun _ _ h => h.elim)
          have hz2 := ht.size
          have hy2 := T1.out.size
          have B2_1 := Lib.hid (B1_1.out.turn ht (fun h => h))
          have B2_2 := Lib.hid (B1_2.out.turn ht (fun h => h))
          have B2_4 := Lib.hid (B1_4.out.turn ht (fun h => h))
          have hm2_1 := B1_1.out.lt
          have hm2_2 := B1_2.out.lt
          have hm2_4 := B1_4.out.lt
          have D2_E := Lib.hid (D1_E.out.trans_new (S := fun k => k < X0.heap.size) ht (fun _ _ h => h.elim))
          have F_G := Lib.hid hn
          have Q_G := Lib.hid hq
          have D2_G := Lib.hid (Turn.refl (fun k => k < X1.heap.size) X2)
          have hz_G := T1.out.size
          have hw_G := ht.size
          clear hn hq
          clear D1_E
          clear T1 hH1 B1_1 B1_2 B1_4 ht
          refine hK.out _ _ hH2 (fun hHeld => ?_)
          clear hK K hHeld
          try simp only [List.getElem_toArray, List.getElem_cons_zero, List.getElem_cons_succ, Act.put, List.setIfInBounds_toArray, List.set_cons_zero, List.set_cons_succ]
          refine wpAnyH_ready (rs := [16]) (by kernel_rfl) (by simp) ?_
          refine AllReadyH.cons rfl (fun K hK => ?_) AllReadyH.nil
          have r0 := B2_2.out.cell 0
          have f0 := B2_2.out.free 0
          have r1 := B2_2.out.cell 1
          have f1 := B2_2.out.free 1
          have r2 := B2_2.out.cell 2
          have f2 := B2_2.out.free 2
          have r3 := B2_2.out.cell 3
          have f3 := B2_2.out.free 3
          simp only [List.getElem?_cons_zero, List.getElem?_cons_succ] at r0 r1 r2 r3
          obtain ⟨hb, hs⟩ := put4 B2_2.out (.bool (part8 n 0 k).leaf) (.slice E1 (part8 n 0 k).keys.length Ea) (.slice E2 (part8 n 0 k).vals.length Eb) (.slice E3 (part8 n 0 k).kids.length Ec)
          have hx := T2.out.size
          have hS := (T2.out.mono (T := (fun k => k = w.heap.size + 1 ∨ k = w.heap.size + 1 + 1)) (fun _ _ h => h.elim)).trans_new (S := (fun k => k = w.heap.size + 1 ∨ k = w.heap.size + 1 + 1)) hs (fun k hk e => by omega)
          go_simp
          refine hK.out _ _ hS (fun hHeld => ?_)
          clear hK K
          try simp only [List.getElem_toArray, List.getElem_cons_zero, List.getElem_cons_succ, Act.put, List.setIfInBounds_toArray, List.set_cons_zero, List.set_cons_succ]
          refine wpAnyH_named (fun X3 e => ?_)
          clear hHeld
          have T3 := Lib.hid (e ▸ hS)
          have hH3 := T3.out
          have B3_2 := Lib.hid (e ▸ hb)
          rw [← e] at hs
          have B3_1 := Lib.hid (B2_1.out.turn hs (by omega))
          have B3_4 := Lib.hid (B2_4.out.turn hs (by omega))
          have D3_E := Lib.hid (D2_E.out.trans_new (S := fun k => k < X0.heap.size) hs (fun k hk e => by omega))
          clear D2_E
          have D3_G := Lib.hid (D2_G.out.trans_new (S := fun k => k < X1.heap.size) hs (fun k hk e => by omega))
          clear D2_G
          clear T2 hH2 B2_1 B2_2 B2_4 r0 f0 r1 f1 r2 f2 r3 f3 hS hb hs e
          refine wpAnyH_take (i := 17) (v := ?_) rfl (by kernel_rfl) (by kernel_rfl) (by kernel_rfl) (fun _ _ _ h => h) (Or.inl ⟨by rfl, ?_⟩) (by assumption) ?_
          rotate_left 1
          · intro w' hSw
            go_simp
            all_goals first | with_reducible rfl | (rw [if_neg (by omega)]; done) | (rw [if_pos (by omega)]; done) | (rw [if_neg (by omega)]; with_reducible rfl) | (rw [if_pos (by omega)]; with_reducible rfl)
          try simp only [List.getElem_toArray, List.getElem_cons_zero, List.getElem_cons_succ, Act.put, List.setIfInBounds_toArray, List.set_cons_zero, List.set_cons_succ]
          refine wpAnyH_ready (rs := [18]) (by kernel_rfl) (by simp) ?_
          refine AllReadyH.cons rfl (fun K hK => ?_) AllReadyH.nil
          have r0 := B3_4.out.cell 0
          have f0 := B3_4.out.free 0
          have r1 := B3_4.out.cell 1
          have f1 := B3_4.out.free 1
          have r2 := B3_4.out.cell 2
          have f2 := B3_4.out.free 2
          have r3 := B3_4.out.cell 3
          have f3 := B3_4.out.free 3
          simp only [List.getElem?_cons_zero, List.getElem?_cons_succ] at r0 r1 r2 r3
          obtain ⟨hb, hs⟩ := put4 B3_4.out (.bool (part8 n kb nk).leaf) (.slice G1 (part8 n kb nk).keys.length Ga) (.slice G2 (part8 n kb nk).vals.length Gb) (.slice G3 (part8 n kb nk).kids.length Gc)
          have hx := T3.out.size
          have hS := (T3.out).trans_new (S := (fun k => k = w.heap.size + 1 ∨ k = w.heap.size + 1 + 1)) hs (fun k hk e => by omega)
          go_simp
          refine hK.out _ _ hS (fun hHeld => ?_)
          clear hK K
          try simp only [List.getElem_toArray, List.getElem_cons_zero, List.getElem_cons_succ, Act.put, List.setIfInBounds_toArray, List.set_cons_zero, List.set_cons_succ]
          refine wpAnyH_named (fun X4 e => ?_)
          clear hHeld
          have T4 := Lib.hid (e ▸ hS)
          have hH4 := T4.out
          have B4_4 := Lib.hid (e ▸ hb)
          rw [← e] at hs
          have B4_1 := Lib.hid (B3_1.out.turn hs (by omega))
          have B4_2 := Lib.hid (B3_2.out.turn hs (by omega))
          have D4_E := Lib.hid (D3_E.out.trans_new (S := fun k => k < X0.heap.size) hs (fun k hk e => by omega))
          clear D3_E
          have D4_G := Lib.hid (D3_G.out.trans_new (S := fun k => k < X1.heap.size) hs (fun k hk e => by omega))
          clear D3_G
          clear T3 hH3 B3_1 B3_2 B3_4 r0 f0 r1 f1 r2 f2 r3 f3 hS hb hs e
          refine wpAnyH_take (i := 19) (v := ?_) rfl (by kernel_rfl) (by kernel_rfl) (by kernel_rfl) (fun _ _ _ h => h) (Or.inl ⟨by rfl, ?_⟩) (by assumption) ?_
          rotate_left 1
          · intro w' hSw
            go_simp
            all_goals first | with_reducible rfl | (rw [if_neg (by omega)]; done) | (rw [if_pos (by omega)]; done) | (rw [if_neg (by omega)]; with_reducible rfl) | (rw [if_pos (by omega)]; with_reducible rfl)
          try simp only [List.getElem_toArray, List.getElem_cons_zero, List.getElem_cons_succ, Act.put, List.setIfInBounds_toArray, List.set_cons_zero, List.set_cons_succ]
          refine wpAnyH_done (by kernel_rfl) ?_ _
          refine NoPanic.normal ?_
          go_wp2_with fail
          have d0 := B4_2.out.cell 0
          have e0 := B4_4.out.cell 0
          have d1 := B4_2.out.cell 1
          have e1 := B4_4.out.cell 1
          have d2 := B4_2.out.cell 2
          have e2 := B4_4.out.cell 2
          have d3 := B4_2.out.cell 3
          have e3 := B4_4.out.cell 3
          simp only [List.getElem?_cons_zero, List.getElem?_cons_succ] at d0 d1 d2 d3 e0 e1 e2 e3
          have hkb := HKB.out
          subst hkb
          have htt := T9.out.trans_new T4.out (fun k hk e => by omega)
          have hnE := F_E.out _ D4_E.out
          have hnG := F_G.out _ D4_G.out
          exact bodyPost_ret (v := .tuple #[.agg #[(.bool (part8 n 0 k).leaf), (.slice E1 (part8 n 0 k).keys.length Ea), (.slice E2 (part8 n 0 k).vals.length Eb), (.slice E3 (part8 n 0 k).kids.length Ec)], .string (key8 n.keys k), .agg #[(.bool (part8 n (k + 1) nk).leaf), (.slice G1 (part8 n (k + 1) nk).keys.length Ga), (.slice G2 (part8 n (k + 1) nk).vals.length Gb), (.slice G3 (part8 n (k + 1) nk).kids.length Gc)], .bool true]) (by simp [results, Try.results21, go_sem, d0, d1, d2, d3, e0, e1, e2, e3]) rfl ⟨k, _, _, rfl, HKS2.out, ⟨E1, Ea, E2, Eb, E3, Ec, rfl, hnE, Q_E.out⟩, ⟨G1, Ga, G2, Gb, G3, Gc, rfl, hnG, Q_G.out⟩, htt⟩
      · have hlt1 : ¬ (k : Int) < (most : Int) := by omega
        have HKS2 : Hid (Ks n k) := Lib.hid ((HKS.out k).2 ⟨hk1, by omega, HLO.out, fun _ => by omega⟩)
        go_wp2_with fail
        refine wp_region_noPanic ?_
        refine wp_region_held_drew (S := fun X => Turn (fun _ => False) wr X) (by kernel_rfl) ((Turn.refl (fun _ => False) wr).drew) (fun hHeld => ?_)
        refine wpAnyH_named (fun X0 hX0 => ?_)
        clear hHeld
        have T0 : Hid (Turn (fun _ => False) wr X0) := Lib.hid (by rw [hX0]; exact (Turn.refl (fun _ => False) wr).drew)
        have hH0 := T0.out
        clear hX0
        have B0_1 := Lib.hid ((BB.out).turn T0.out (fun h => h))
        have B0_2 := Lib.hid ((RR.out).turn T0.out (fun h => h))
        have B0_4 := Lib.hid ((SS.out).turn T0.out (fun h => h))
        refine wpAnyH_take (i := 0) (v := ?_) rfl (by kernel_rfl) (by kernel_rfl) (by kernel_rfl) (fun _ _ _ h => h) (Or.inl ⟨by rfl, ?_⟩) (by assumption) ?_
        rotate_left 1
        · intro w' hSw
          go_simp
          all_goals first | with_reducible rfl | (rw [if_neg (by omega)]; done) | (rw [if_pos (by omega)]; done) | (rw [if_neg (by omega)]; with_reducible rfl) | (rw [if_pos (by omega)]; with_reducible rfl)
        try simp only [List.getElem_toArray, List.getElem_cons_zero, List.getElem_cons_succ, Act.put, List.setIfInBounds_toArray, List.set_cons_zero, List.set_cons_succ]
        refine wpAnyH_take (i := 1) (v := ?_) rfl (by kernel_rfl) (by kernel_rfl) (by kernel_rfl) (fun _ _ _ h => h) (Or.inl ⟨by rfl, ?_⟩) (by assumption) ?_
        rotate_left 1
        · intro w' hSw
          go_simp
          all_goals first | with_reducible rfl | (rw [if_neg (by omega)]; done) | (rw [if_pos (by omega)]; done) | (rw [if_neg (by omega)]; with_reducible rfl) | (rw [if_pos (by omega)]; with_reducible rfl)
        try simp only [List.getElem_toArray, List.getElem_cons_zero, List.getElem_cons_succ, Act.put, List.setIfInBounds_toArray, List.set_cons_zero, List.set_cons_succ]
        refine wpAnyH_take (i := 2) (v := ?_) rfl (by kernel_rfl) (by kernel_rfl) (by kernel_rfl) (fun _ _ _ h => h) (Or.inl ⟨by rfl, ?_⟩) (by assumption) ?_
        rotate_left 1
        · intro w' hSw
          go_simp
          all_goals first | with_reducible rfl | (rw [if_neg (by omega)]; done) | (rw [if_pos (by omega)]; done) | (rw [if_neg (by omega)]; with_reducible rfl) | (rw [if_pos (by omega)]; with_reducible rfl)
        try simp only [List.getElem_toArray, List.getElem_cons_zero, List.getElem_cons_succ, Act.put, List.setIfInBounds_toArray, List.set_cons_zero, List.set_cons_succ]
        refine wpAnyH_take (i := 3) (v := ?_) rfl (by kernel_rfl) (by kernel_rfl) (by kernel_rfl) (fun _ _ _ h => h) (Or.inl ⟨by rfl, ?_⟩) (by assumption) ?_
        rotate_left 1
        · intro w' hSw
          go_simp
          all_goals first | with_reducible rfl | (rw [if_neg (by omega)]; done) | (rw [if_pos (by omega)]; done) | (rw [if_neg (by omega)]; with_reducible rfl) | (rw [if_pos (by omega)]; with_reducible rfl)
        try simp only [List.getElem_toArray, List.getElem_cons_zero, List.getElem_cons_succ, Act.put, List.setIfInBounds_toArray, List.set_cons_zero, List.set_cons_succ]
        refine wpAnyH_take (i := 4) (v := undef) rfl (by kernel_rfl) (by kernel_rfl) (by kernel_rfl) (fun _ _ _ h => h) (Or.inr ⟨by rfl, rfl⟩) (by assumption) ?_
        try simp only [List.getElem_toArray, List.getElem_cons_zero, List.getElem_cons_succ, Act.put, List.setIfInBounds_toArray, List.set_cons_zero, List.set_cons_succ]
        refine wpAnyH_take (i := 5) (v := undef) rfl (by kernel_rfl) (by kernel_rfl) (by kernel_rfl) (fun _ _ _ h => h) (Or.inr ⟨by rfl, rfl⟩) (by assumption) ?_
        try simp only [List.getElem_toArray, List.getElem_cons_zero, List.getElem_cons_succ, Act.put, List.setIfInBounds_toArray, List.set_cons_zero, List.set_cons_succ]
        refine wpAnyH_take (i := 6) (v := undef) rfl (by kernel_rfl) (by kernel_rfl) (by kernel_rfl) (fun _ _ _ h => h) (Or.inr ⟨by rfl, rfl⟩) (by assumption) ?_
        try simp only [List.getElem_toArray, List.getElem_cons_zero, List.getElem_cons_succ, Act.put, List.setIfInBounds_toArray, List.set_cons_zero, List.set_cons_succ]
        refine wpAnyH_take (i := 7) (v := undef) rfl (by kernel_rfl) (by kernel_rfl) (by kernel_rfl) (fun _ _ _ h => h) (Or.inr ⟨by rfl, rfl⟩) (by assumption) ?_
        try simp only [List.getElem_toArray, List.getElem_cons_zero, List.getElem_cons_succ, Act.put, List.setIfInBounds_toArray, List.set_cons_zero, List.set_cons_succ]
        refine wpAnyH_take (i := 8) (v := undef) rfl (by kernel_rfl) (by kernel_rfl) (by kernel_rfl) (fun _ _ _ h => h) (Or.inr ⟨by rfl, rfl⟩) (by assumption) ?_
        try simp only [List.getElem_toArray, List.getElem_cons_zero, List.getElem_cons_succ, Act.put, List.setIfInBounds_toArray, List.set_cons_zero, List.set_cons_succ]
        refine wpAnyH_take (i := 9) (v := undef) rfl (by kernel_rfl) (by kernel_rfl) (by kernel_rfl) (fun _ _ _ h => h) (Or.inr ⟨by rfl, rfl⟩) (by assumption) ?_
        try simp only [List.getElem_toArray, List.getElem_cons_zero, List.getElem_cons_succ, Act.put, List.setIfInBounds_toArray, List.set_cons_zero, List.set_cons_succ]
        refine wpAnyH_take (i := 10) (v := undef) rfl (by kernel_rfl) (by kernel_rfl) (by kernel_rfl) (fun _ _ _ h => h) (Or.inr ⟨by rfl, rfl⟩) (by assumption) ?_
        try simp only [List.getElem_toArray, List.getElem_cons_zero, List.getElem_cons_succ, Act.put, List.setIfInBounds_toArray, List.set_cons_zero, List.set_cons_succ]
        refine wpAnyH_take (i := 11) (v := undef) rfl (by kernel_rfl) (by kernel_rfl) (by kernel_rfl) (fun _ _ _ h => h) (Or.inr ⟨by rfl, rfl⟩) (by assumption) ?_
        try simp only [List.getElem_toArray, List.getElem_cons_zero, List.getElem_cons_succ, Act.put, List.setIfInBounds_toArray, List.set_cons_zero, List.set_cons_succ]
        refine wpAnyH_take (i := 12) (v := ?_) rfl (by kernel_rfl) (by kernel_rfl) (by kernel_rfl) (fun _ _ _ h => h) (Or.inl ⟨by rfl, ?_⟩) (by assumption) ?_
        rotate_left 1
        · intro w' hSw
          go_simp
          all_goals first | with_reducible rfl | (rw [if_neg (by omega)]; done) | (rw [if_pos (by omega)]; done) | (rw [if_neg (by omega)]; with_reducible rfl) | (rw [if_pos (by omega)]; with_reducible rfl)
        try simp only [List.getElem_toArray, List.getElem_cons_zero, List.getElem_cons_succ, Act.put, List.setIfInBounds_toArray, List.set_cons_zero, List.set_cons_succ]
        refine wpAnyH_done (by kernel_rfl) ?_ _
        refine NoPanic.normal ?_
        have T9 := Lib.hid (TT.out.trans T0.out)
        have B9 := B0_1
        have R9 := B0_2
        have S9 := B0_4
        generalize X0 = w9 at *
        have hkl : k < n.keys.length := by rw [HNK.out]; omega
        have hkc : w9.cell? ⟨b1, o1 + k, none⟩ = some (.string (key8 n.keys k)) := HCC.out w9 T9.out k _ (by unfold key8; rw [List.getD_eq_getElem?_getD, List.getElem?_eq_getElem hkl]; rfl)
        have HKC9 := Lib.hid hkc
        have hb19 : b1 < w9.heap.size := by have := T9.out.size; omega
        have h9l := S9.out.lt
        have hw9 := T9.out.size
        have i1 : (0 : Int) ≤ (k : Int) := by omega
        have i2 : (k : Int) < (nk : Int) := by omega
        obtain ⟨kb, hkb⟩ : ∃ x, k + 1 = x := ⟨_, rfl⟩
        have i3 : (k : Int) + 1 = (kb : Int) := by omega
        have i4 := wrap_of (kb : Int) (by omega) (by omega)
        have i5 : kb < nk := by omega
        have HKB := Lib.hid hkb
        clear hkb
        clear hkc hkl
        go_wp2_with fail
        refine wp_region_noPanic ?_
        refine wp_region_held_drew (S := fun X => Turn (fun k => k = w.heap.size + 1 ∨ k = w.heap.size + 1 + 1) w9 X) (by kernel_rfl) ((Turn.refl (fun k => k = w.heap.size + 1 ∨ k = w.heap.size + 1 + 1) w9).drew) (fun hHeld => ?_)
        refine wpAnyH_named (fun X0 hX0 => ?_)
        clear hHeld
        have T0 : Hid (Turn (fun _ => False) w9 X0) := Lib.hid (by rw [hX0]; exact (Turn.refl (fun _ => False) w9).drew)
        have hH0 := T0.out.mono (T := (fun k => k = w.heap.size + 1 ∨ k = w.heap.size + 1 + 1)) (fun _ _ h => h.elim)
        clear hX0
        have B0_1 := Lib.hid ((B9.out).turn T0.out (fun h => h))
        have B0_2 := Lib.hid ((R9.out).turn T0.out (fun h => h))
        have B0_4 := Lib.hid ((S9.out).turn T0.out (fun h => h))
        refine wpAnyH_take (i := 0) (v := ?_) rfl (by kernel_rfl) (by kernel_rfl) (by kernel_rfl) (fun _ _ _ h => h) (Or.inl ⟨by rfl, ?_⟩) (by assumption) ?_
        rotate_left 1
        · intro w' hSw
          have x0 : w'.cell? ⟨w.heap.size, 0, none⟩ = some (.bool false) := (B9.out.turn hSw (by omega)).cell 0
          have x1 : w'.cell? ⟨w.heap.size, 1, none⟩ = some (.slice (some ⟨b1, o1, none⟩) nk c1) := (B9.out.turn hSw (by omega)).cell 1
          have x2 : w'.cell? ⟨w.heap.size, 2, none⟩ = some (.slice A2 nv c2) := (B9.out.turn hSw (by omega)).cell 2
          have x3 : w'.cell? ⟨w.heap.size, 3, none⟩ = some (.slice A3 nd c3) := (B9.out.turn hSw (by omega)).cell 3
          go_simp
          all_goals first | with_reducible rfl | (rw [if_neg (by omega)]; done) | (rw [if_pos (by omega)]; done) | (rw [if_neg (by omega)]; with_reducible rfl) | (rw [if_pos (by omega)]; with_reducible rfl)
        try simp only [List.getElem_toArray, List.getElem_cons_zero, List.getElem_cons_succ, Act.put, List.setIfInBounds_toArray, List.set_cons_zero, List.set_cons_succ]
        refine wpAnyH_take (i := 1) (v := ?_) rfl (by kernel_rfl) (by kernel_rfl) (by kernel_rfl) (fun _ _ _ h => h) (Or.inl ⟨by rfl, ?_⟩) (by assumption) ?_
        rotate_left 1
        · intro w' hSw
          go_simp
          all_goals first | with_reducible rfl | (rw [if_neg (by omega)]; done) | (rw [if_pos (by omega)]; done) | (rw [if_neg (by omega)]; with_reducible rfl) | (rw [if_pos (by omega)]; with_reducible rfl)
        try simp only [List.getElem_toArray, List.getElem_cons_zero, List.getElem_cons_succ, Act.put, List.setIfInBounds_toArray, List.set_cons_zero, List.set_cons_succ]
        refine wpAnyH_take (i := 3) (v := ?_) rfl (by kernel_rfl) (by kernel_rfl) (by kernel_rfl) (fun _ _ _ h => h) (Or.inl ⟨by rfl, ?_⟩) (by assumption) ?_
        rotate_left 1
        · intro w' hSw
          go_simp
          all_goals first | with_reducible rfl | (rw [if_neg (by omega)]; done) | (rw [if_pos (by omega)]; done) | (rw [if_neg (by omega)]; with_reducible rfl) | (rw [if_pos (by omega)]; with_reducible rfl)
        try simp only [List.getElem_toArray, List.getElem_cons_zero, List.getElem_cons_succ, Act.put, List.setIfInBounds_toArray, List.set_cons_zero, List.set_cons_succ]
        refine wpAnyH_take (i := 4) (v := ?_) rfl (by kernel_rfl) (by kernel_rfl) (by kernel_rfl) (fun _ _ _ h => h) (Or.inl ⟨by rfl, ?_⟩) (by assumption) ?_
        rotate_left 1
        · intro w' hSw
          have x1 : w'.cell? ⟨w.heap.size, 1, none⟩ = some (.slice (some ⟨b1, o1, none⟩) nk c1) := (B9.out.turn hSw (by omega)).cell 1
          go_simp
          all_goals first | with_reducible rfl | (rw [if_neg (by omega)]; done) | (rw [if_pos (by omega)]; done) | (rw [if_neg (by omega)]; with_reducible rfl) | (rw [if_pos (by omega)]; with_reducible rfl)
        try simp only [List.getElem_toArray, List.getElem_cons_zero, List.getElem_cons_succ, Act.put, List.setIfInBounds_toArray, List.set_cons_zero, List.set_cons_succ]
        refine wpAnyH_take (i := 5) (v := ?_) rfl (by kernel_rfl) (by kernel_rfl) (by kernel_rfl) (fun _ _ _ h => h) (Or.inl ⟨by rfl, ?_⟩) (by assumption) ?_
        rotate_left 1
        · intro w' hSw
          go_simp
          all_goals first | with_reducible rfl | (rw [if_neg (by omega)]; done) | (rw [if_pos (by omega)]; done) | (rw [if_neg (by omega)]; with_reducible rfl) | (rw [if_pos (by omega)]; with_reducible rfl)
        try simp only [List.getElem_toArray, List.getElem_cons_zero, List.getElem_cons_succ, Act.put, List.setIfInBounds_toArray, List.set_cons_zero, List.set_cons_succ]
        refine wpAnyH_take (i := 6) (v := ?_) rfl (by kernel_rfl) (by kernel_rfl) (by kernel_rfl) (fun _ _ _ h => h) (Or.inl ⟨by rfl, ?_⟩) (by assumption) ?_
        rotate_left 1
        · intro w' hSw
          go_simp
          all_goals first | with_reducible rfl | (rw [if_neg (by omega)]; done) | (rw [if_pos (by omega)]; done) | (rw [if_neg (by omega)]; with_reducible rfl) | (rw [if_pos (by omega)]; with_reducible rfl)
        try simp only [List.getElem_toArray, List.getElem_cons_zero, List.getElem_cons_succ, Act.put, List.setIfInBounds_toArray, List.set_cons_zero, List.set_cons_succ]
        refine wpAnyH_take (i := 7) (v := ?_) rfl (by kernel_rfl) (by kernel_rfl) (by kernel_rfl) (fun _ _ _ h => h) (Or.inl ⟨by rfl, ?_⟩) (by assumption) ?_
        rotate_left 1
        · intro w' hSw
          have xk : w'.cell? ⟨b1, o1 + k, none⟩ = some (.string (key8 n.keys k)) := (World.cell?_of_block (w := w9) (a := ⟨b1, o1 + k, none⟩) (hSw.block b1 hb19 (by omega))).trans HKC9.out
          go_simp
          all_goals first | with_reducible rfl | (rw [if_neg (by omega)]; done) | (rw [if_pos (by omega)]; done) | (rw [if_neg (by omega)]; with_reducible rfl) | (rw [if_pos (by omega)]; with_reducible rfl)
        try simp only [List.getElem_toArray, List.getElem_cons_zero, List.getElem_cons_succ, Act.put, List.setIfInBounds_toArray, List.set_cons_zero, List.set_cons_succ]
        refine wpAnyH_take (i := 8) (v := ?_) rfl (by kernel_rfl) (by kernel_rfl) (by kernel_rfl) (fun _ _ _ h => h) (Or.inl ⟨by rfl, ?_⟩) (by assumption) ?_
        rotate_left 1
        · intro w' hSw
          have x0 : w'.cell? ⟨w.heap.size, 0, none⟩ = some (.bool false) := (B9.out.turn hSw (by omega)).cell 0
          have x1 : w'.cell? ⟨w.heap.size, 1, none⟩ = some (.slice (some ⟨b1, o1, none⟩) nk c1) := (B9.out.turn hSw (by omega)).cell 1
          have x2 : w'.cell? ⟨w.heap.size, 2, none⟩ = some (.slice A2 nv c2) := (B9.out.turn hSw (by omega)).cell 2
          have x3 : w'.cell? ⟨w.heap.size, 3, none⟩ = some (.slice A3 nd c3) := (B9.out.turn hSw (by omega)).cell 3
          go_simp
          all_goals first | with_reducible rfl | (rw [if_neg (by omega)]; done) | (rw [if_pos (by omega)]; done) | (rw [if_neg (by omega)]; with_reducible rfl) | (rw [if_pos (by omega)]; with_reducible rfl)
        try simp only [List.getElem_toArray, List.getElem_cons_zero, List.getElem_cons_succ, Act.put, List.setIfInBounds_toArray, List.set_cons_zero, List.set_cons_succ]
        refine wpAnyH_take (i := 9) (v := ?_) rfl (by kernel_rfl) (by kernel_rfl) (by kernel_rfl) (fun _ _ _ h => h) (Or.inl ⟨by rfl, ?_⟩) (by assumption) ?_
        rotate_left 1
        · intro w' hSw
          go_simp
          all_goals first | with_reducible rfl | (rw [if_neg (by omega)]; done) | (rw [if_pos (by omega)]; done) | (rw [if_neg (by omega)]; with_reducible rfl) | (rw [if_pos (by omega)]; with_reducible rfl)
        try simp only [List.getElem_toArray, List.getElem_cons_zero, List.getElem_cons_succ, Act.put, List.setIfInBounds_toArray, List.set_cons_zero, List.set_cons_succ]
        refine wpAnyH_take (i := 10) (v := ?_) rfl (by kernel_rfl) (by kernel_rfl) (by kernel_rfl) (fun _ _ _ h => h) (Or.inl ⟨by rfl, ?_⟩) (by assumption) ?_
        rotate_left 1
        · intro w' hSw
          go_simp
          all_goals first | with_reducible rfl | (rw [if_neg (by omega)]; done) | (rw [if_pos (by omega)]; done) | (rw [if_neg (by omega)]; with_reducible rfl) | (rw [if_pos (by omega)]; with_reducible rfl)
        try simp only [List.getElem_toArray, List.getElem_cons_zero, List.getElem_cons_succ, Act.put, List.setIfInBounds_toArray, List.set_cons_zero, List.set_cons_succ]
        refine wpAnyH_take (i := 11) (v := ?_) rfl (by kernel_rfl) (by kernel_rfl) (by kernel_rfl) (fun _ _ _ h => h) (Or.inl ⟨by rfl, ?_⟩) (by assumption) ?_
        rotate_left 1
        · intro w' hSw
          go_simp
          all_goals first | with_reducible rfl | (rw [if_neg (by omega)]; done) | (rw [if_pos (by omega)]; done) | (rw [if_neg (by omega)]; with_reducible rfl) | (rw [if_pos (by omega)]; with_reducible rfl)
        try simp only [List.getElem_toArray, List.getElem_cons_zero, List.getElem_cons_succ, Act.put, List.setIfInBounds_toArray, List.set_cons_zero, List.set_cons_succ]
        refine wpAnyH_take (i := 12) (v := ?_) rfl (by kernel_rfl) (by kernel_rfl) (by kernel_rfl) (fun _ _ _ h => h) (Or.inl ⟨by rfl, ?_⟩) (by assumption) ?_
        rotate_left 1
        · intro w' hSw
          go_simp
          all_goals first | with_reducible rfl | (rw [if_neg (by omega)]; done) | (rw [if_pos (by omega)]; done) | (rw [if_neg (by omega)]; with_reducible rfl) | (rw [if_pos (by omega)]; with_reducible rfl)
        try simp only [List.getElem_toArray, List.getElem_cons_zero, List.getElem_cons_succ, Act.put, List.setIfInBounds_toArray, List.set_cons_zero, List.set_cons_succ]
        refine wpAnyH_take (i := 13) (v := ?_) rfl (by kernel_rfl) (by kernel_rfl) (by kernel_rfl) (fun _ _ _ h => h) (Or.inl ⟨by rfl, ?_⟩) (by assumption) ?_
        rotate_left 1
        · intro w' hSw
          have x1 : w'.cell? ⟨w.heap.size, 1, none⟩ = some (.slice (some ⟨b1, o1, none⟩) nk c1) := (B9.out.turn hSw (by omega)).cell 1
          go_simp
          all_goals first | with_reducible rfl | (rw [if_neg (by omega)]; done) | (rw [if_pos (by omega)]; done) | (rw [if_neg (by omega)]; with_reducible rfl) | (rw [if_pos (by omega)]; with_reducible rfl)
        try simp only [List.getElem_toArray, List.getElem_cons_zero, List.getElem_cons_succ, Act.put, List.setIfInBounds_toArray, List.set_cons_zero, List.set_cons_succ]
        refine wpAnyH_take (i := 14) (v := ?_) rfl (by kernel_rfl) (by kernel_rfl) (by kernel_rfl) (fun _ _ _ h => h) (Or.inl ⟨by rfl, ?_⟩) (by assumption) ?_
        rotate_left 1
        · intro w' hSw
          go_simp
          all_goals first | with_reducible rfl | (rw [if_neg (by omega)]; done) | (rw [if_pos (by omega)]; done) | (rw [if_neg (by omega)]; with_reducible rfl) | (rw [if_pos (by omega)]; with_reducible rfl)
        try simp only [List.getElem_toArray, List.getElem_cons_zero, List.getElem_cons_succ, Act.put, List.setIfInBounds_toArray, List.set_cons_zero, List.set_cons_succ]
        refine wpAnyH_ready (rs := [2]) (by kernel_rfl) (by simp) ?_
        refine AllReadyH.cons rfl (fun K hK => ?_) AllReadyH.nil
        refine step_call rfl 45 Try.f45 _ _ rfl Try.func45 (by kernel_rfl) (by kernel_rfl) _ _ (HPA.out X0 0 k (T9.out.trans T0.out) (by omega) (by omega)) (by go_simp) ?_
        rintro v X1 ⟨⟨E1, Ea, E2, Eb, E3, Ec, rfl, hn, hq⟩, ht⟩
        simp only [nv8]
        have T1 := Lib.hid (T0.out.trans ht)
        have hH1 := T1.out.mono (T := (fun k => k = w.heap.size + 1 ∨ k = w.heap.size + 1 + 1)) (fun _ _ h => h.elim)
        have hz1 := ht.size
        have hy1 := T0.out.size
        have B1_1 := Lib.hid (B0_1.out.turn ht (fun h => h))
        have B1_2 := Lib.hid (B0_2.out.turn ht (fun h => h))
        have B1_4 := Lib.hid (B0_4.out.turn ht (fun h => h))
        have hm1_1 := B0_1.out.lt
        have hm1_2 := B0_2.out.lt
        have hm1_4 := B0_4.out.lt
        have F_E := Lib.hid hn
        have Q_E := Lib.hid hq
        have D1_E := Lib.hid (Turn.refl (fun k => k < X0.heap.size) X1)
        have hz_E := T0.out.size
        have hw_E := ht.size
        clear hn hq
        clear T0 hH0 B0_1 B0_2 B0_4 ht
        refine hK.out _ _ hH1 (fun hHeld => ?_)
        clear hK K hHeld
        try simp only [List.getElem_toArray, List.getElem_cons_zero, List.getElem_cons_succ, Act.put, List.setIfInBounds_toArray, List.set_cons_zero, List.set_cons_succ]
        refine wpAnyH_ready (rs := [15]) (by kernel_rfl) (by simp) ?_
        refine AllReadyH.cons rfl (fun K hK => ?_) AllReadyH.nil
        refine step_call rfl 45 Try.f45 _ _ rfl Try.func45 (by kernel_rfl) (by kernel_rfl) _ _ (HPA.out X1 kb nk (T9.out.trans T1.out) (by omega) (by omega)) (by go_simp) ?_
        rintro v X2 ⟨⟨G1, Ga, G2, Gb, G3, Gc, rfl, hn, hq⟩, ht⟩
        simp only [nv8]
        have T2 := Lib.hid (T1.out.trans ht)
        have hH2 := T2.out.mono (T := (fun k => k = w.heap.size + 1 ∨ k = w.heap.size + 1 + 1)) (fun _ _ h => h.elim)
        have hz2 := ht.size
        have hy2 := T1.out.size
        have B2_1 := Lib.hid (B1_1.out.turn ht (fun h => h))
        have B2_2 := Lib.hid (B1_2.out.turn ht (fun h => h))
        have B2_4 := Lib.hid (B1_4.out.turn ht (fun h => h))
        have hm2_1 := B1_1.out.lt
        have hm2_2 := B1_2.out.lt
        have hm2_4 := B1_4.out.lt
        have D2_E := Lib.hid (D1_E.out.trans_new (S := fun k => k < X0.heap.size) ht (fun _ _ h => h.elim))
        have F_G := Lib.hid hn
        have Q_G := Lib.hid hq
        have D2_G := Lib.hid (Turn.refl (fun k => k < X1.heap.size) X2)
        have hz_G := T1.out.size
        have hw_G := ht.size
        clear hn hq
        clear D1_E
        clear T1 hH1 B1_1 B1_2 B1_4 ht
        refine hK.out _ _ hH2 (fun hHeld => ?_)
        clear hK K hHeld
        try simp only [List.getElem_toArray, List.getElem_cons_zero, List.getElem_cons_succ, Act.put, List.setIfInBounds_toArray, List.set_cons_zero, List.set_cons_succ]
        refine wpAnyH_ready (rs := [16]) (by kernel_rfl) (by simp) ?_
        refine AllReadyH.cons rfl (fun K hK => ?_) AllReadyH.nil
        have r0 := B2_2.out.cell 0
        have f0 := B2_2.out.free 0
        have r1 := B2_2.out.cell 1
        have f1 := B2_2.out.free 1
        have r2 := B2_2.out.cell 2
        have f2 := B2_2.out.free 2
        have r3 := B2_2.out.cell 3
        have f3 := B2_2.out.free 3
        simp only [List.getElem?_cons_zero, List.getElem?_cons_succ] at r0 r1 r2 r3
        obtain ⟨hb, hs⟩ := put4 B2_2.out (.bool (part8 n 0 k).leaf) (.slice E1 (part8 n 0 k).keys.length Ea) (.slice E2 (part8 n 0 k).vals.length Eb) (.slice E3 (part8 n 0 k).kids.length Ec)
        have hx := T2.out.size
        have hS := (T2.out.mono (T := (fun k => k = w.heap.size + 1 ∨ k = w.heap.size + 1 + 1)) (fun _ _ h => h.elim)).trans_new (S := (fun k => k = w.heap.size + 1 ∨ k = w.heap.size + 1 + 1)) hs (fun k hk e => by omega)
        go_simp
        refine hK.out _ _ hS (fun hHeld => ?_)
        clear hK K
        try simp only [List.getElem_toArray, List.getElem_cons_zero, List.getElem_cons_succ, Act.put, List.setIfInBounds_toArray, List.set_cons_zero, List.set_cons_succ]
        refine wpAnyH_named (fun X3 e => ?_)
        clear hHeld
        have T3 := Lib.hid (e ▸ hS)
        have hH3 := T3.out
        have B3_2 := Lib.hid (e ▸ hb)
        rw [← e] at hs
        have B3_1 := Lib.hid (B2_1.out.turn hs (by omega))
        have B3_4 := Lib.hid (B2_4.out.turn hs (by omega))
        have D3_E := Lib.hid (D2_E.out.trans_new (S := fun k => k < X0.heap.size) hs (fun k hk e => by omega))
        clear D2_E
        have D3_G := Lib.hid (D2_G.out.trans_new (S := fun k => k < X1.heap.size) hs (fun k hk e => by omega))
        clear D2_G
        clear T2 hH2 B2_1 B2_2 B2_4 r0 f0 r1 f1 r2 f2 r3 f3 hS hb hs e
        refine wpAnyH_take (i := 17) (v := ?_) rfl (by kernel_rfl) (by kernel_rfl) (by kernel_rfl) (fun _ _ _ h => h) (Or.inl ⟨by rfl, ?_⟩) (by assumption) ?_
        rotate_left 1
        · intro w' hSw
          go_simp
          all_goals first | with_reducible rfl | (rw [if_neg (by omega)]; done) | (rw [if_pos (by omega)]; done) | (rw [if_neg (by omega)]; with_reducible rfl) | (rw [if_pos (by omega)]; with_reducible rfl)
        try simp only [List.getElem_toArray, List.getElem_cons_zero, List.getElem_cons_succ, Act.put, List.setIfInBounds_toArray, List.set_cons_zero, List.set_cons_succ]
        refine wpAnyH_ready (rs := [18]) (by kernel_rfl) (by simp) ?_
        refine AllReadyH.cons rfl (fun K hK => ?_) AllReadyH.nil
        have r0 := B3_4.out.cell 0
        have f0 := B3_4.out.free 0
        have r1 := B3_4.out.cell 1
        have f1 := B3_4.out.free 1
        have r2 := B3_4.out.cell 2
        have f2 := B3_4.out.free 2
        have r3 := B3_4.out.cell 3
        have f3 := B3_4.out.free 3
        simp only [List.getElem?_cons_zero, List.getElem?_cons_succ] at r0 r1 r2 r3
        obtain ⟨hb, hs⟩ := put4 B3_4.out (.bool (part8 n kb nk).leaf) (.slice G1 (part8 n kb nk).keys.length Ga) (.slice G2 (part8 n kb nk).vals.length Gb) (.slice G3 (part8 n kb nk).kids.length Gc)
        have hx := T3.out.size
        have hS := (T3.out).trans_new (S := (fun k => k = w.heap.size + 1 ∨ k = w.heap.size + 1 + 1)) hs (fun k hk e => by omega)
        go_simp
        refine hK.out _ _ hS (fun hHeld => ?_)
        clear hK K
        try simp only [List.getElem_toArray, List.getElem_cons_zero, List.getElem_cons_succ, Act.put, List.setIfInBounds_toArray, List.set_cons_zero, List.set_cons_succ]
        refine wpAnyH_named (fun X4 e => ?_)
        clear hHeld
        have T4 := Lib.hid (e ▸ hS)
        have hH4 := T4.out
        have B4_4 := Lib.hid (e ▸ hb)
        rw [← e] at hs
        have B4_1 := Lib.hid (B3_1.out.turn hs (by omega))
        have B4_2 := Lib.hid (B3_2.out.turn hs (by omega))
        have D4_E := Lib.hid (D3_E.out.trans_new (S := fun k => k < X0.heap.size) hs (fun k hk e => by omega))
        clear D3_E
        have D4_G := Lib.hid (D3_G.out.trans_new (S := fun k => k < X1.heap.size) hs (fun k hk e => by omega))
        clear D3_G
        clear T3 hH3 B3_1 B3_2 B3_4 r0 f0 r1 f1 r2 f2 r3 f3 hS hb hs e
        refine wpAnyH_take (i := 19) (v := ?_) rfl (by kernel_rfl) (by kernel_rfl) (by kernel_rfl) (fun _ _ _ h => h) (Or.inl ⟨by rfl, ?_⟩) (by assumption) ?_
        rotate_left 1
        · intro w' hSw
          go_simp
          all_goals first | with_reducible rfl | (rw [if_neg (by omega)]; done) | (rw [if_pos (by omega)]; done) | (rw [if_neg (by omega)]; with_reducible rfl) | (rw [if_pos (by omega)]; with_reducible rfl)
        try simp only [List.getElem_toArray, List.getElem_cons_zero, List.getElem_cons_succ, Act.put, List.setIfInBounds_toArray, List.set_cons_zero, List.set_cons_succ]
        refine wpAnyH_done (by kernel_rfl) ?_ _
        refine NoPanic.normal ?_
        go_wp2_with fail
        have d0 := B4_2.out.cell 0
        have e0 := B4_4.out.cell 0
        have d1 := B4_2.out.cell 1
        have e1 := B4_4.out.cell 1
        have d2 := B4_2.out.cell 2
        have e2 := B4_4.out.cell 2
        have d3 := B4_2.out.cell 3
        have e3 := B4_4.out.cell 3
        simp only [List.getElem?_cons_zero, List.getElem?_cons_succ] at d0 d1 d2 d3 e0 e1 e2 e3
        have hkb := HKB.out
        subst hkb
        have htt := T9.out.trans_new T4.out (fun k hk e => by omega)
        have hnE := F_E.out _ D4_E.out
        have hnG := F_G.out _ D4_G.out
        exact bodyPost_ret (v := .tuple #[.agg #[(.bool (part8 n 0 k).leaf), (.slice E1 (part8 n 0 k).keys.length Ea), (.slice E2 (part8 n 0 k).vals.length Eb), (.slice E3 (part8 n 0 k).kids.length Ec)], .string (key8 n.keys k), .agg #[(.bool (part8 n (k + 1) nk).leaf), (.slice G1 (part8 n (k + 1) nk).keys.length Ga), (.slice G2 (part8 n (k + 1) nk).vals.length Gb), (.slice G3 (part8 n (k + 1) nk).kids.length Gc)], .bool true]) (by simp [results, Try.results21, go_sem, d0, d1, d2, d3, e0, e1, e2, e3]) rfl ⟨k, _, _, rfl, HKS2.out, ⟨E1, Ea, E2, Eb, E3, Ec, rfl, hnE, Q_E.out⟩, ⟨G1, Ga, G2, Gb, G3, Gc, rfl, hnG, Q_G.out⟩, htt⟩
  · obtain rfl : be = 0 := HBE.out
    go_enter Try.func21, Try.ntmps21
    go_wp2_with fail
    generalize hW : (((w.alloc (.cells #[.bool true, .slice (some ⟨b1, o1, none⟩) nk c1, .slice A2 nv c2, .slice A3 nd c3] 26)).alloc (.cells #[.bool false, .slice none 0 0, .slice none 0 0, .slice none 0 0] 26)).alloc (.cells #[.bool false, .slice none 0 0, .slice none 0 0, .slice none 0 0] 26)) = W at *
    have y0 : W.cell? ⟨w.heap.size, 0, none⟩ = some (.bool true) := BX.out.1.cell 0
    have y1 : W.cell? ⟨w.heap.size, 1, none⟩ = some (.slice (some ⟨b1, o1, none⟩) nk c1) := BX.out.1.cell 1
    have y2 : W.cell? ⟨w.heap.size, 2, none⟩ = some (.slice A2 nv c2) := BX.out.1.cell 2
    have y3 : W.cell? ⟨w.heap.size, 3, none⟩ = some (.slice A3 nd c3) := BX.out.1.cell 3
    rw [← hW] at y0 y1 y2 y3
    have zz : (nk : Int) - 1 = (most : Int) := by omega
    have hWW := Lib.hid hW
    clear hW
    refine (HS.out _ T0.out).mono ?_
    rintro e w1 ⟨rfl, ht1⟩
    have T1 := Lib.hid (T0.out.trans ht1)
    have B1 := Lib.hid (BX.out.1.turn ht1 (fun h => h))
    have R1 := Lib.hid (BX.out.2.1.turn ht1 (fun h => h))
    have S1 := Lib.hid (BX.out.2.2.turn ht1 (fun h => h))
    clear ht1 T0 BX hWW y0 y1 y2 y3
    go_wp2_with fail
    go_loopw [8] (fun v8 wr => ∃ k : Nat, 1 ≤ k ∧ k ≤ most ∧ v8 = .int .i64 k ∧ Hid (∀ i, 1 ≤ i → i < k → size8 (part8 n 0 i) < SZ / 2) ∧ Blk wr w.heap.size 26 [.bool true, .slice (some ⟨b1, o1, none⟩) nk c1, .slice A2 nv c2, .slice A3 nd c3] ∧ Blk wr (w.heap.size + 1) 26 [.bool false, .slice none 0 0, .slice none 0 0, .slice none 0 0] ∧ Blk wr (w.heap.size + 1 + 1) 26 [.bool false, .slice none 0 0, .slice none 0 0, .slice none 0 0] ∧ Turn (fun _ => False) w wr) (fun v8 _ => most - (intOf v8).toNat)
    case atStart => exact ⟨1, Nat.le_refl _, by omega, rfl, Lib.hid (fun i h1 h2 => by omega), B1.out, R1.out, S1.out, T1.out⟩
    case round =>
      obtain ⟨k, hk1, hk2, rfl, HLO, hB, hR, hS, hT⟩ := hrel
      have BB := Lib.hid hB
      have RR := Lib.hid hR
      have SS := Lib.hid hS
      have TT := Lib.hid hT
      have hsz := hT.size
      have hsl := hS.lt
      clear hB hR hS hT B1 R1 S1 T1
      by_cases hlt : k < most
      · have hlt1 : (k : Int) < (most : Int) := by omega
        by_cases hsm : size8 (part8 n 0 k) < SZ / 2
        · have HSM := Lib.hid hsm
          have hzk := hzp.out k
          have hs1 : ((size8 (part8 n 0 k) : Nat) : Int) < ((SZ / 2 : Nat) : Int) := by omega
          have hs2 : ((size8 (part8 n 0 k) : Nat) : Int) < (SZ : Int) / 2 := by omega
          have q0 : (SZ : Int) ≤ 9223372036854775807 := by omega
          have q1 : (0 : Int) ≤ (SZ : Int) := by omega
          have q2 := wrap_of ((k : Int) + 1) (by omega) (by omega)
          have q3 : IntKind.i64.wrap ((SZ : Int) / 2) = ((SZ / 2 : Nat) : Int) := by rw [wrap_of _ (by omega) (by omega)]; omega
          clear hsm
          go_wp2_with fail
          refine wp_region_noPanic ?_
          refine wp_region_held_drew (S := fun X => Turn (fun _ => False) wr X) (by kernel_rfl) ((Turn.refl (fun _ => False) wr).drew) (fun hHeld => ?_)
          refine wpAnyH_named (fun X0 hX0 => ?_)
          clear hHeld
          have T0 : Hid (Turn (fun _ => False) wr X0) := Lib.hid (by rw [hX0]; exact (Turn.refl (fun _ => False) wr).drew)
          have hH0 := T0.out
          clear hX0
          have B0_1 := Lib.hid ((BB.out).turn T0.out (fun h => h))
          have B0_2 := Lib.hid ((RR.out).turn T0.out (fun h => h))
          have B0_4 := Lib.hid ((SS.out).turn T0.out (fun h => h))
          refine wpAnyH_take (i := 0) (v := ?_) rfl (by kernel_rfl) (by kernel_rfl) (by kernel_rfl) (fun _ _ _ h => h) (Or.inl ⟨by rfl, ?_⟩) (by assumption) ?_
          rotate_left 1
          · intro w' hSw
            go_simp
            all_goals first | with_reducible rfl | (rw [if_neg (by omega)]; done) | (rw [if_pos (by omega)]; done) | (rw [if_neg (by omega)]; with_reducible rfl) | (rw [if_pos (by omega)]; with_reducible rfl)
          try simp only [List.getElem_toArray, List.getElem_cons_zero, List.getElem_cons_succ, Act.put, List.setIfInBounds_toArray, List.set_cons_zero, List.set_cons_succ]
          refine wpAnyH_take (i := 1) (v := ?_) rfl (by kernel_rfl) (by kernel_rfl) (by kernel_rfl) (fun _ _ _ h => h) (Or.inl ⟨by rfl, ?_⟩) (by assumption) ?_
          rotate_left 1
          · intro w' hSw
            go_simp
            all_goals first | with_reducible rfl | (rw [if_neg (by omega)]; done) | (rw [if_pos (by omega)]; done) | (rw [if_neg (by omega)]; with_reducible rfl) | (rw [if_pos (by omega)]; with_reducible rfl)
          try simp only [List.getElem_toArray, List.getElem_cons_zero, List.getElem_cons_succ, Act.put, List.setIfInBounds_toArray, List.set_cons_zero, List.set_cons_succ]
          refine wpAnyH_take (i := 2) (v := ?_) rfl (by kernel_rfl) (by kernel_rfl) (by kernel_rfl) (fun _ _ _ h => h) (Or.inl ⟨by rfl, ?_⟩) (by assumption) ?_
          rotate_left 1
          · intro w' hSw
            go_simp
            all_goals first | with_reducible rfl | (rw [if_neg (by omega)]; done) | (rw [if_pos (by omega)]; done) | (rw [if_neg (by omega)]; with_reducible rfl) | (rw [if_pos (by omega)]; with_reducible rfl)
          try simp only [List.getElem_toArray, List.getElem_cons_zero, List.getElem_cons_succ, Act.put, List.setIfInBounds_toArray, List.set_cons_zero, List.set_cons_succ]
          refine wpAnyH_take (i := 3) (v := ?_) rfl (by kernel_rfl) (by kernel_rfl) (by kernel_rfl) (fun _ _ _ h => h) (Or.inl ⟨by rfl, ?_⟩) (by assumption) ?_
          rotate_left 1
          · intro w' hSw
            go_simp
            all_goals first | with_reducible rfl | (rw [if_neg (by omega)]; done) | (rw [if_pos (by omega)]; done) | (rw [if_neg (by omega)]; with_reducible rfl) | (rw [if_pos (by omega)]; with_reducible rfl)
          try simp only [List.getElem_toArray, List.getElem_cons_zero, List.getElem_cons_succ, Act.put, List.setIfInBounds_toArray, List.set_cons_zero, List.set_cons_succ]
          refine wpAnyH_take (i := 4) (v := ?_) rfl (by kernel_rfl) (by kernel_rfl) (by kernel_rfl) (fun _ _ _ h => h) (Or.inl ⟨by rfl, ?_⟩) (by assumption) ?_
          rotate_left 1
          · intro w' hSw
            have x0 : w'.cell? ⟨w.heap.size, 0, none⟩ = some (.bool true) := (BB.out.turn hSw (fun h => h)).cell 0
            have x1 : w'.cell? ⟨w.heap.size, 1, none⟩ = some (.slice (some ⟨b1, o1, none⟩) nk c1) := (BB.out.turn hSw (fun h => h)).cell 1
            have x2 : w'.cell? ⟨w.heap.size, 2, none⟩ = some (.slice A2 nv c2) := (BB.out.turn hSw (fun h => h)).cell 2
            have x3 : w'.cell? ⟨w.heap.size, 3, none⟩ = some (.slice A3 nd c3) := (BB.out.turn hSw (fun h => h)).cell 3
            go_simp
            all_goals first | with_reducible rfl | (rw [if_neg (by omega)]; done) | (rw [if_pos (by omega)]; done) | (rw [if_neg (by omega)]; with_reducible rfl) | (rw [if_pos (by omega)]; with_reducible rfl)
          try simp only [List.getElem_toArray, List.getElem_cons_zero, List.getElem_cons_succ, Act.put, List.setIfInBounds_toArray, List.set_cons_zero, List.set_cons_succ]
          refine wpAnyH_take (i := 5) (v := ?_) rfl (by kernel_rfl) (by kernel_rfl) (by kernel_rfl) (fun _ _ _ h => h) (Or.inl ⟨by rfl, ?_⟩) (by assumption) ?_
          rotate_left 1
          · intro w' hSw
            go_simp
            all_goals first | with_reducible rfl | (rw [if_neg (by omega)]; done) | (rw [if_pos (by omega)]; done) | (rw [if_neg (by omega)]; with_reducible rfl) | (rw [if_pos (by omega)]; with_reducible rfl)
          try simp only [List.getElem_toArray, List.getElem_cons_zero, List.getElem_cons_succ, Act.put, List.setIfInBounds_toArray, List.set_cons_zero, List.set_cons_succ]
          refine wpAnyH_take (i := 8) (v := ?_) rfl (by kernel_rfl) (by kernel_rfl) (by kernel_rfl) (fun _ _ _ h => h) (Or.inl ⟨by rfl, ?_⟩) (by assumption) ?_
          rotate_left 1
          · intro w' hSw
            have x0 : w'.cell? ⟨w.heap.size, 0, none⟩ = some (.bool true) := (BB.out.turn hSw (fun h => h)).cell 0
            have x1 : w'.cell? ⟨w.heap.size, 1, none⟩ = some (.slice (some ⟨b1, o1, none⟩) nk c1) := (BB.out.turn hSw (fun h => h)).cell 1
            have x2 : w'.cell? ⟨w.heap.size, 2, none⟩ = some (.slice A2 nv c2) := (BB.out.turn hSw (fun h => h)).cell 2
            have x3 : w'.cell? ⟨w.heap.size, 3, none⟩ = some (.slice A3 nd c3) := (BB.out.turn hSw (fun h => h)).cell 3
            go_simp
            all_goals first | with_reducible rfl | (rw [if_neg (by omega)]; done) | (rw [if_pos (by omega)]; done) | (rw [if_neg (by omega)]; with_reducible rfl) | (rw [if_pos (by omega)]; with_reducible rfl)
          try simp only [List.getElem_toArray, List.getElem_cons_zero, List.getElem_cons_succ, Act.put, List.setIfInBounds_toArray, List.set_cons_zero, List.set_cons_succ]
          refine wpAnyH_ready (rs := [6]) (by kernel_rfl) (by simp) ?_
          refine AllReadyH.cons rfl (fun K hK => ?_) AllReadyH.nil
          refine step_call_on 45 Try.f45 _ _ rfl Try.func45 (by kernel_rfl) (by kernel_rfl) _ _ (HPA.out X0 0 k (TT.out.trans T0.out) (by omega) (by omega)) (by go_simp) (by first | (go_simp; done) | rfl) ?_
          rintro v X1 ⟨⟨E1, Ea, E2, Eb, E3, Ec, rfl, hn, hq⟩, ht⟩
          have T1 := Lib.hid (T0.out.trans ht)
          have hH1 := T1.out
          have hz1 := ht.size
          have hy1 := T0.out.size
          have B1_1 := Lib.hid (B0_1.out.turn ht (fun h => h))
          have B1_2 := Lib.hid (B0_2.out.turn ht (fun h => h))
          have B1_4 := Lib.hid (B0_4.out.turn ht (fun h => h))
          have hm1_1 := B0_1.out.lt
          have hm1_2 := B0_2.out.lt
          have hm1_4 := B0_4.out.lt
          have N1_E := Lib.hid (hn _ (Turn.refl _ _))
          have F_E := Lib.hid hn
          have Q_E := Lib.hid hq
          have hb_E : wr.heap.size ≤ X0.heap.size := T0.out.size
          clear hn hq
          clear T0 hH0 B0_1 B0_2 B0_4 ht
          refine hK.out _ _ hH1 (fun hHeld => ?_)
          clear hK K hHeld
          try simp only [List.getElem_toArray, List.getElem_cons_zero, List.getElem_cons_succ, Act.put, List.setIfInBounds_toArray, List.set_cons_zero, List.set_cons_succ]
          refine wpAnyH_ready (rs := [7]) (by kernel_rfl) (by simp) ?_
          refine AllReadyH.cons rfl (fun K hK => ?_) AllReadyH.nil
          refine step_call_on 44 Try.f44 _ _ rfl Try.func44 (by kernel_rfl) (by kernel_rfl) _ _ (HSP.out 0 k _ E1 Ea E2 Eb E3 Ec N1_E.out) (by go_simp) (by first | (go_simp; done) | rfl) ?_
          rintro v X2 ⟨rfl, ht⟩
          have T2 := Lib.hid (T1.out.trans ht)
          have hH2 := T2.out
          have hz2 := ht.size
          have hy2 := T1.out.size
          have B2_1 := Lib.hid (B1_1.out.turn ht (fun h => h))
          have B2_2 := Lib.hid (B1_2.out.turn ht (fun h => h))
          have B2_4 := Lib.hid (B1_4.out.turn ht (fun h => h))
          have hm2_1 := B1_1.out.lt
          have hm2_2 := B1_2.out.lt
          have hm2_4 := B1_4.out.lt
          have N2_E := Lib.hid (N1_E.out.turn ht)
          clear T1 hH1 B1_1 B1_2 B1_4 ht
          refine hK.out _ _ hH2 (fun hHeld => ?_)
          clear hK K hHeld
          try simp only [List.getElem_toArray, List.getElem_cons_zero, List.getElem_cons_succ, Act.put, List.setIfInBounds_toArray, List.set_cons_zero, List.set_cons_succ]
          refine wpAnyH_ready (rs := [9]) (by kernel_rfl) (by simp) ?_
          refine AllReadyH.cons rfl (fun K hK => ?_) AllReadyH.nil
          refine step_call_on 44 Try.f44 _ _ rfl Try.func44 (by kernel_rfl) (by kernel_rfl) _ _ (HSZ.out _ (TT.out.trans T2.out)) (by go_simp) (by first | (go_simp; done) | rfl) ?_
          rintro v X3 ⟨rfl, ht⟩
          have T3 := Lib.hid (T2.out.trans ht)
          have hH3 := T3.out
          have hz3 := ht.size
          have hy3 := T2.out.size
          have B3_1 := Lib.hid (B2_1.out.turn ht (fun h => h))
          have B3_2 := Lib.hid (B2_2.out.turn ht (fun h => h))
          have B3_4 := Lib.hid (B2_4.out.turn ht (fun h => h))
          have hm3_1 := B2_1.out.lt
          have hm3_2 := B2_2.out.lt
          have hm3_4 := B2_4.out.lt
          have N3_E := Lib.hid (N2_E.out.turn ht)
          clear T2 hH2 B2_1 B2_2 B2_4 ht
          refine hK.out _ _ hH3 (fun hHeld => ?_)
          clear hK K hHeld
          try simp only [List.getElem_toArray, List.getElem_cons_zero, List.getElem_cons_succ, Act.put, List.setIfInBounds_toArray, List.set_cons_zero, List.set_cons_succ]
          refine wpAnyH_take (i := 10) (v := ?_) rfl (by kernel_rfl) (by kernel_rfl) (by kernel_rfl) (fun _ _ _ h => h) (Or.inl ⟨by rfl, ?_⟩) (by assumption) ?_
          rotate_left 1
          · intro w' hSw
            go_simp
            all_goals first | with_reducible rfl | (rw [if_neg (by omega)]; done) | (rw [if_pos (by omega)]; done) | (rw [if_neg (by omega)]; with_reducible rfl) | (rw [if_pos (by omega)]; with_reducible rfl)
          try simp only [List.getElem_toArray, List.getElem_cons_zero, List.getElem_cons_succ, Act.put, List.setIfInBounds_toArray, List.set_cons_zero, List.set_cons_succ]
          refine wpAnyH_take (i := 11) (v := ?_) rfl (by kernel_rfl) (by kernel_rfl) (by kernel_rfl) (fun _ _ _ h => h) (Or.inl ⟨by rfl, ?_⟩) (by assumption) ?_
          rotate_left 1
          · intro w' hSw
            go_simp
            all_goals first | with_reducible rfl | (rw [if_neg (by omega)]; done) | (rw [if_pos (by omega)]; done) | (rw [if_neg (by omega)]; with_reducible rfl) | (rw [if_pos (by omega)]; with_reducible rfl)
          try simp only [List.getElem_toArray, List.getElem_cons_zero, List.getElem_cons_succ, Act.put, List.setIfInBounds_toArray, List.set_cons_zero, List.set_cons_succ]
          refine wpAnyH_take (i := 12) (v := ?_) rfl (by kernel_rfl) (by kernel_rfl) (by kernel_rfl) (fun _ _ _ h => h) (Or.inl ⟨by rfl, ?_⟩) (by assumption) ?_
          rotate_left 1
          · intro w' hSw
            go_simp
            all_goals first | with_reducible rfl | (rw [if_neg (by omega)]; done) | (rw [if_pos (by omega)]; done) | (rw [if_neg (by omega)]; with_reducible rfl) | (rw [if_pos (by omega)]; with_reducible rfl)
          try simp only [List.getElem_toArray, List.getElem_cons_zero, List.getElem_cons_succ, Act.put, List.setIfInBounds_toArray, List.set_cons_zero, List.set_cons_succ]
          refine wpAnyH_done (by kernel_rfl) ?_ _
          refine NoPanic.normal ?_
          go_wp2_with fail
          go_roundw
          case rel => exact ⟨k + 1, by omega, by omega, by simp, Lib.hid (fun i h1 h2 => by rcases Nat.lt_or_ge i k with h | h <;> first | exact HLO.out i h1 h | (obtain rfl : i = k := (by omega); exact HSM.out)), B3_1.out, B3_2.out, B3_4.out, TT.out.trans T3.out⟩
          case measure => simp [intOf]; omega
        · have HSM := Lib.hid hsm
          have hzk := hzp.out k
          have hs1 : ¬ ((size8 (part8 n 0 k) : Nat) : Int) < ((SZ / 2 : Nat) : Int) := by omega
          have hs2 : ¬ ((size8 (part8 n 0 k) : Nat) : Int) < (SZ : Int) / 2 := by omega
          have q0 : (SZ : Int) ≤ 9223372036854775807 := by omega
          have q1 : (0 : Int) ≤ (SZ : Int) := by omega
          have q3 : IntKind.i64.wrap ((SZ : Int) / 2) = ((SZ / 2 : Nat) : Int) := by rw [wrap_of _ (by omega) (by omega)]; omega
          have hd1 : decide (((size8 (part8 n 0 k) : Nat) : Int) < ((SZ / 2 : Nat) : Int)) = false := decide_eq_false hs1
          have hd2 : decide (((size8 (part8 n 0 k) : Nat) : Int) < (SZ : Int) / 2) = false := decide_eq_false hs2
          clear hsm
          have HKS2 : Hid (Ks n k) := Lib.hid ((HKS.out k).2 ⟨hk1, by omega, HLO.out, fun _ => by have := HSM.out; omega⟩)
          go_wp2_with fail
          refine wp_region_noPanic ?_
          refine wp_region_held_drew (S := fun X => Turn (fun _ => False) wr X) (by kernel_rfl) ((Turn.refl (fun _ => False) wr).drew) (fun hHeld => ?_)
          refine wpAnyH_named (fun X0 hX0 => ?_)
          clear hHeld
          have T0 : Hid (Turn (fun _ => False) wr X0) := Lib.hid (by rw [hX0]; exact (Turn.refl (fun _ => False) wr).drew)
          have hH0 := T0.out
          clear hX0
          have B0_1 := Lib.hid ((BB.out).turn T0.out (fun h => h))
          have B0_2 := Lib.hid ((RR.out).turn T0.out (fun h => h))
          have B0_4 := Lib.hid ((SS.out).turn T0.out (fun h => h))
          refine wpAnyH_take (i := 0) (v := ?_) rfl (by kernel_rfl) (by kernel_rfl) (by kernel_rfl) (fun _ _ _ h => h) (Or.inl ⟨by rfl, ?_⟩) (by assumption) ?_
          rotate_left 1
          · intro w' hSw
            go_simp
            all_goals first | with_reducible rfl | (rw [if_neg (by omega)]; done) | (rw [if_pos (by omega)]; done) | (rw [if_neg (by omega)]; with_reducible rfl) | (rw [if_pos (by omega)]; with_reducible rfl)
          try simp only [List.getElem_toArray, List.getElem_cons_zero, List.getElem_cons_succ, Act.put, List.setIfInBounds_toArray, List.set_cons_zero, List.set_cons_succ]
          refine wpAnyH_take (i := 1) (v := ?_) rfl (by kernel_rfl) (by kernel_rfl) (by kernel_rfl) (fun _ _ _ h => h) (Or.inl ⟨by rfl, ?_⟩) (by assumption) ?_
          rotate_left 1
          · intro w' hSw
            go_simp
            all_goals first | with_reducible rfl | (rw [if_neg (by omega)]; done) | (rw [if_pos (by omega)]; done) | (rw [if_neg (by omega)]; with_reducible rfl) | (rw [if_pos (by omega)]; with_reducible rfl)
          try simp only [List.getElem_toArray, List.getElem_cons_zero, List.getElem_cons_succ, Act.put, List.setIfInBounds_toArray, List.set_cons_zero, List.set_cons_succ]
          refine wpAnyH_take (i := 2) (v := ?_) rfl (by kernel_rfl) (by kernel_rfl) (by kernel_rfl) (fun _ _ _ h => h) (Or.inl ⟨by rfl, ?_⟩) (by assumption) ?_
          rotate_left 1
          · intro w' hSw
            go_simp
            all_goals first | with_reducible rfl | (rw [if_neg (by omega)]; done) | (rw [if_pos (by omega)]; done) | (rw [if_neg (by omega)]; with_reducible rfl) | (rw [if_pos (by omega)]; with_reducible rfl)
          try simp only [List.getElem_toArray, List.getElem_cons_zero, List.getElem_cons_succ, Act.put, List.setIfInBounds_toArray, List.set_cons_zero, List.set_cons_succ]
          refine wpAnyH_take (i := 3) (v := ?_) rfl (by kernel_rfl) (by kernel_rfl) (by kernel_rfl) (fun _ _ _ h => h) (Or.inl ⟨by rfl, ?_⟩) (by assumption) ?_
          rotate_left 1
          · intro w' hSw
            go_simp
            all_goals first | with_reducible rfl | (rw [if_neg (by omega)]; done) | (rw [if_pos (by omega)]; done) | (rw [if_neg (by omega)]; with_reducible rfl) | (rw [if_pos (by omega)]; with_reducible rfl)
          try simp only [List.getElem_toArray, List.getElem_cons_zero, List.getElem_cons_succ, Act.put, List.setIfInBounds_toArray, List.set_cons_zero, List.set_cons_succ]
          refine wpAnyH_take (i := 4) (v := ?_) rfl (by kernel_rfl) (by kernel_rfl) (by kernel_rfl) (fun _ _ _ h => h) (Or.inl ⟨by rfl, ?_⟩) (by assumption) ?_
          rotate_left 1
          · intro w' hSw
            have x0 : w'.cell? ⟨w.heap.size, 0, none⟩ = some (.bool true) := (BB.out.turn hSw (fun h => h)).cell 0
            have x1 : w'.cell? ⟨w.heap.size, 1, none⟩ = some (.slice (some ⟨b1, o1, none⟩) nk c1) := (BB.out.turn hSw (fun h => h)).cell 1
            have x2 : w'.cell? ⟨w.heap.size, 2, none⟩ = some (.slice A2 nv c2) := (BB.out.turn hSw (fun h => h)).cell 2
            have x3 : w'.cell? ⟨w.heap.size, 3, none⟩ = some (.slice A3 nd c3) := (BB.out.turn hSw (fun h => h)).cell 3
            go_simp
            all_goals first | with_reducible rfl | (rw [if_neg (by omega)]; done) | (rw [if_pos (by omega)]; done) | (rw [if_neg (by omega)]; with_reducible rfl) | (rw [if_pos (by omega)]; with_reducible rfl)
          try simp only [List.getElem_toArray, List.getElem_cons_zero, List.getElem_cons_succ, Act.put, List.setIfInBounds_toArray, List.set_cons_zero, List.set_cons_succ]
          refine wpAnyH_take (i := 5) (v := ?_) rfl (by kernel_rfl) (by kernel_rfl) (by kernel_rfl) (fun _ _ _ h => h) (Or.inl ⟨by rfl, ?_⟩) (by assumption) ?_
          rotate_left 1
          · intro w' hSw
            go_simp
            all_goals first | with_reducible rfl | (rw [if_neg (by omega)]; done) | (rw [if_pos (by omega)]; done) | (rw [if_neg (by omega)]; with_reducible rfl) | (rw [if_pos (by omega)]; with_reducible rfl)
          try simp only [List.getElem_toArray, List.getElem_cons_zero, List.getElem_cons_succ, Act.put, List.setIfInBounds_toArray, List.set_cons_zero, List.set_cons_succ]
          refine wpAnyH_take (i := 8) (v := ?_) rfl (by kernel_rfl) (by kernel_rfl) (by kernel_rfl) (fun _ _ _ h => h) (Or.inl ⟨by rfl, ?_⟩) (by assumption) ?_
          rotate_left 1
          · intro w' hSw
            have x0 : w'.cell? ⟨w.heap.size, 0, none⟩ = some (.bool true) := (BB.out.turn hSw (fun h => h)).cell 0
            have x1 : w'.cell? ⟨w.heap.size, 1, none⟩ = some (.slice (some ⟨b1, o1, none⟩) nk c1) := (BB.out.turn hSw (fun h => h)).cell 1
            have x2 : w'.cell? ⟨w.heap.size, 2, none⟩ = some (.slice A2 nv c2) := (BB.out.turn hSw (fun h => h)).cell 2
            have x3 : w'.cell? ⟨w.heap.size, 3, none⟩ = some (.slice A3 nd c3) := (BB.out.turn hSw (fun h => h)).cell 3
            go_simp
            all_goals first | with_reducible rfl | (rw [if_neg (by omega)]; done) | (rw [if_pos (by omega)]; done) | (rw [if_neg (by omega)]; with_reducible rfl) | (rw [if_pos (by omega)]; with_reducible rfl)
          try simp only [List.getElem_toArray, List.getElem_cons_zero, List.getElem_cons_succ, Act.put, List.setIfInBounds_toArray, List.set_cons_zero, List.set_cons_succ]
          refine wpAnyH_ready (rs := [6]) (by kernel_rfl) (by simp) ?_
          refine AllReadyH.cons rfl (fun K hK => ?_) AllReadyH.nil
          refine step_call_on 45 Try.f45 _ _ rfl Try.func45 (by kernel_rfl) (by kernel_rfl) _ _ (HPA.out X0 0 k (TT.out.trans T0.out) (by omega) (by omega)) (by go_simp) (by first | (go_simp; done) | rfl) ?_
          rintro v X1 ⟨⟨E1, Ea, E2, Eb, E3, Ec, rfl, hn, hq⟩, ht⟩
          have T1 := Lib.hid (T0.out.trans ht)
          have hH1 := T1.out
          have hz1 := ht.size
          have hy1 := T0.out.size
          have B1_1 := Lib.hid (B0_1.out.turn ht (fun h => h))
          have B1_2 := Lib.hid (B0_2.out.turn ht (fun h => h))
          have B1_4 := Lib.hid (B0_4.out.turn ht (fun h => h))
          have hm1_1 := B0_1.out.lt
          have hm1_2 := B0_2.out.lt
          have hm1_4 := B0_4.out.lt
          have N1_E := Lib.hid (hn _ (Turn.refl _ _))
          have F_E := Lib.hid hn
          have Q_E := Lib.hid hq
          have hb_E : wr.heap.size ≤ X0.heap.size := T0.out.size
          clear hn hq
          clear T0 hH0 B0_1 B0_2 B0_4 ht
          refine hK.out _ _ hH1 (fun hHeld => ?_)
          clear hK K hHeld
          try simp only [List.getElem_toArray, List.getElem_cons_zero, List.getElem_cons_succ, Act.put, List.setIfInBounds_toArray, List.set_cons_zero, List.set_cons_succ]
          refine wpAnyH_ready (rs := [7]) (by kernel_rfl) (by simp) ?_
          refine AllReadyH.cons rfl (fun K hK => ?_) AllReadyH.nil
          refine step_call_on 44 Try.f44 _ _ rfl Try.func44 (by kernel_rfl) (by kernel_rfl) _ _ (HSP.out 0 k _ E1 Ea E2 Eb E3 Ec N1_E.out) (by go_simp) (by first | (go_simp; done) | rfl) ?_
          rintro v X2 ⟨rfl, ht⟩
          have T2 := Lib.hid (T1.out.trans ht)
          have hH2 := T2.out
          have hz2 := ht.size
          have hy2 := T1.out.size
          have B2_1 := Lib.hid (B1_1.out.turn ht (fun h => h))
          have B2_2 := Lib.hid (B1_2.out.turn ht (fun h => h))
          have B2_4 := Lib.hid (B1_4.out.turn ht (fun h => h))
          have hm2_1 := B1_1.out.lt
          have hm2_2 := B1_2.out.lt
          have hm2_4 := B1_4.out.lt
          have N2_E := Lib.hid (N1_E.out.turn ht)
          clear T1 hH1 B1_1 B1_2 B1_4 ht
          refine hK.out _ _ hH2 (fun hHeld => ?_)
          clear hK K hHeld
          try simp only [List.getElem_toArray, List.getElem_cons_zero, List.getElem_cons_succ, Act.put, List.setIfInBounds_toArray, List.set_cons_zero, List.set_cons_succ]
          refine wpAnyH_ready (rs := [9]) (by kernel_rfl) (by simp) ?_
          refine AllReadyH.cons rfl (fun K hK => ?_) AllReadyH.nil
          refine step_call_on 44 Try.f44 _ _ rfl Try.func44 (by kernel_rfl) (by kernel_rfl) _ _ (HSZ.out _ (TT.out.trans T2.out)) (by go_simp) (by first | (go_simp; done) | rfl) ?_
          rintro v X3 ⟨rfl, ht⟩
          have T3 := Lib.hid (T2.out.trans ht)
          have hH3 := T3.out
          have hz3 := ht.size
          have hy3 := T2.out.size
          have B3_1 := Lib.hid (B2_1.out.turn ht (fun h => h))
          have B3_2 := Lib.hid (B2_2.out.turn ht (fun h => h))
          have B3_4 := Lib.hid (B2_4.out.turn ht (fun h => h))
          have hm3_1 := B2_1.out.lt
          have hm3_2 := B2_2.out.lt
          have hm3_4 := B2_4.out.lt
          have N3_E := Lib.hid (N2_E.out.turn ht)
          clear T2 hH2 B2_1 B2_2 B2_4 ht
          refine hK.out _ _ hH3 (fun hHeld => ?_)
          clear hK K hHeld
          try simp only [List.getElem_toArray, List.getElem_cons_zero, List.getElem_cons_succ, Act.put, List.setIfInBounds_toArray, List.set_cons_zero, List.set_cons_succ]
          refine wpAnyH_take (i := 10) (v := ?_) rfl (by kernel_rfl) (by kernel_rfl) (by kernel_rfl) (fun _ _ _ h => h) (Or.inl ⟨by rfl, ?_⟩) (by assumption) ?_
          rotate_left 1
          · intro w' hSw
            go_simp
            all_goals first | with_reducible rfl | (rw [if_neg (by omega)]; done) | (rw [if_pos (by omega)]; done) | (rw [if_neg (by omega)]; with_reducible rfl) | (rw [if_pos (by omega)]; with_reducible rfl)
          try simp only [List.getElem_toArray, List.getElem_cons_zero, List.getElem_cons_succ, Act.put, List.setIfInBounds_toArray, List.set_cons_zero, List.set_cons_succ]
          refine wpAnyH_take (i := 11) (v := ?_) rfl (by kernel_rfl) (by kernel_rfl) (by kernel_rfl) (fun _ _ _ h => h) (Or.inl ⟨by rfl, ?_⟩) (by assumption) ?_
          rotate_left 1
          · intro w' hSw
            go_simp
            all_goals first | with_reducible rfl | (rw [if_neg (by omega)]; done) | (rw [if_pos (by omega)]; done) | (rw [if_neg (by omega)]; with_reducible rfl) | (rw [if_pos (by omega)]; with_reducible rfl)
          try simp only [List.getElem_toArray, List.getElem_cons_zero, List.getElem_cons_succ, Act.put, List.setIfInBounds_toArray, List.set_cons_zero, List.set_cons_succ]
          refine wpAnyH_take (i := 12) (v := ?_) rfl (by kernel_rfl) (by kernel_rfl) (by kernel_rfl) (fun _ _ _ h => h) (Or.inl ⟨by rfl, ?_⟩) (by assumption) ?_
          rotate_left 1
          · intro w' hSw
            go_simp
            all_goals first | with_reducible rfl | (rw [if_neg (by omega)]; done) | (rw [if_pos (by omega)]; done) | (rw [if_neg (by omega)]; with_reducible rfl) | (rw [if_pos (by omega)]; with_reducible rfl)
          try simp only [List.getElem_toArray, List.getElem_cons_zero, List.getElem_cons_succ, Act.put, List.setIfInBounds_toArray, List.set_cons_zero, List.set_cons_succ]
          refine wpAnyH_done (by kernel_rfl) ?_ _
          refine NoPanic.normal ?_
          have T9 := Lib.hid (TT.out.trans T3.out)
          have B9 := B3_1
          have R9 := B3_2
          have S9 := B3_4
          generalize X3 = w9 at *
          have hkl : k < n.keys.length := by rw [HNK.out]; omega
          have hkc : w9.cell? ⟨b1, o1 + k, none⟩ = some (.string (key8 n.keys k)) := HCC.out w9 T9.out k _ (by unfold key8; rw [List.getD_eq_getElem?_getD, List.getElem?_eq_getElem hkl]; rfl)
          have HKC9 := Lib.hid hkc
          have hb19 : b1 < w9.heap.size := by have := T9.out.size; omega
          have h9l := S9.out.lt
          have hw9 := T9.out.size
          have i1 : (0 : Int) ≤ (k : Int) := by omega
          have i2 : (k : Int) < (nk : Int) := by omega
          have i4 := wrap_of (k : Int) (by omega) (by omega)
          clear hkc hkl
          go_wp2_with fail
          refine wp_region_noPanic ?_
          refine wp_region_held_drew (S := fun X => Turn (fun k => k = w.heap.size + 1 ∨ k = w.heap.size + 1 + 1) w9 X) (by kernel_rfl) ((Turn.refl (fun k => k = w.heap.size + 1 ∨ k = w.heap.size + 1 + 1) w9).drew) (fun hHeld => ?_)
          refine wpAnyH_named (fun X0 hX0 => ?_)
          clear hHeld
          have T0 : Hid (Turn (fun _ => False) w9 X0) := Lib.hid (by rw [hX0]; exact (Turn.refl (fun _ => False) w9).drew)
          have hH0 := T0.out.mono (T := (fun k => k = w.heap.size + 1 ∨ k = w.heap.size + 1 + 1)) (fun _ _ h => h.elim)
          clear hX0
          have B0_1 := Lib.hid ((B9.out).turn T0.out (fun h => h))
          have B0_2 := Lib.hid ((R9.out).turn T0.out (fun h => h))
          have B0_4 := Lib.hid ((S9.out).turn T0.out (fun h => h))
          refine wpAnyH_take (i := 0) (v := ?_) rfl (by kernel_rfl) (by kernel_rfl) (by kernel_rfl) (fun _ _ _ h => h) (Or.inl ⟨by rfl, ?_⟩) (by assumption) ?_
          rotate_left 1
          · intro w' hSw
            have x0 : w'.cell? ⟨w.heap.size, 0, none⟩ = some (.bool true) := (B9.out.turn hSw (by omega)).cell 0
            have x1 : w'.cell? ⟨w.heap.size, 1, none⟩ = some (.slice (some ⟨b1, o1, none⟩) nk c1) := (B9.out.turn hSw (by omega)).cell 1
            have x2 : w'.cell? ⟨w.heap.size, 2, none⟩ = some (.slice A2 nv c2) := (B9.out.turn hSw (by omega)).cell 2
            have x3 : w'.cell? ⟨w.heap.size, 3, none⟩ = some (.slice A3 nd c3) := (B9.out.turn hSw (by omega)).cell 3
            go_simp
            all_goals first | with_reducible rfl | (rw [if_neg (by omega)]; done) | (rw [if_pos (by omega)]; done) | (rw [if_neg (by omega)]; with_reducible rfl) | (rw [if_pos (by omega)]; with_reducible rfl)
          try simp only [List.getElem_toArray, List.getElem_cons_zero, List.getElem_cons_succ, Act.put, List.setIfInBounds_toArray, List.set_cons_zero, List.set_cons_succ]
          refine wpAnyH_take (i := 1) (v := ?_) rfl (by kernel_rfl) (by kernel_rfl) (by kernel_rfl) (fun _ _ _ h => h) (Or.inl ⟨by rfl, ?_⟩) (by assumption) ?_
          rotate_left 1
          · intro w' hSw
            go_simp
            all_goals first | with_reducible rfl | (rw [if_neg (by omega)]; done) | (rw [if_pos (by omega)]; done) | (rw [if_neg (by omega)]; with_reducible rfl) | (rw [if_pos (by omega)]; with_reducible rfl)
          try simp only [List.getElem_toArray, List.getElem_cons_zero, List.getElem_cons_succ, Act.put, List.setIfInBounds_toArray, List.set_cons_zero, List.set_cons_succ]
          refine wpAnyH_take (i := 3) (v := ?_) rfl (by kernel_rfl) (by kernel_rfl) (by kernel_rfl) (fun _ _ _ h => h) (Or.inl ⟨by rfl, ?_⟩) (by assumption) ?_
          rotate_left 1
          · intro w' hSw
            go_simp
            all_goals first | with_reducible rfl | (rw [if_neg (by omega)]; done) | (rw [if_pos (by omega)]; done) | (rw [if_neg (by omega)]; with_reducible rfl) | (rw [if_pos (by omega)]; with_reducible rfl)
          try simp only [List.getElem_toArray, List.getElem_cons_zero, List.getElem_cons_succ, Act.put, List.setIfInBounds_toArray, List.set_cons_zero, List.set_cons_succ]
          refine wpAnyH_take (i := 4) (v := ?_) rfl (by kernel_rfl) (by kernel_rfl) (by kernel_rfl) (fun _ _ _ h => h) (Or.inl ⟨by rfl, ?_⟩) (by assumption) ?_
          rotate_left 1
          · intro w' hSw
            have x1 : w'.cell? ⟨w.heap.size, 1, none⟩ = some (.slice (some ⟨b1, o1, none⟩) nk c1) := (B9.out.turn hSw (by omega)).cell 1
            go_simp
            all_goals first | with_reducible rfl | (rw [if_neg (by omega)]; done) | (rw [if_pos (by omega)]; done) | (rw [if_neg (by omega)]; with_reducible rfl) | (rw [if_pos (by omega)]; with_reducible rfl)
          try simp only [List.getElem_toArray, List.getElem_cons_zero, List.getElem_cons_succ, Act.put, List.setIfInBounds_toArray, List.set_cons_zero, List.set_cons_succ]
          refine wpAnyH_take (i := 5) (v := ?_) rfl (by kernel_rfl) (by kernel_rfl) (by kernel_rfl) (fun _ _ _ h => h) (Or.inl ⟨by rfl, ?_⟩) (by assumption) ?_
          rotate_left 1
          · intro w' hSw
            go_simp
            all_goals first | with_reducible rfl | (rw [if_neg (by omega)]; done) | (rw [if_pos (by omega)]; done) | (rw [if_neg (by omega)]; with_reducible rfl) | (rw [if_pos (by omega)]; with_reducible rfl)
          try simp only [List.getElem_toArray, List.getElem_cons_zero, List.getElem_cons_succ, Act.put, List.setIfInBounds_toArray, List.set_cons_zero, List.set_cons_succ]
          refine wpAnyH_take (i := 6) (v := ?_) rfl (by kernel_rfl) (by kernel_rfl) (by kernel_rfl) (fun _ _ _ h => h) (Or.inl ⟨by rfl, ?_⟩) (by assumption) ?_
          rotate_left 1
          · intro w' hSw
            go_simp
            all_goals first | with_reducible rfl | (rw [if_neg (by omega)]; done) | (rw [if_pos (by omega)]; done) | (rw [if_neg (by omega)]; with_reducible rfl) | (rw [if_pos (by omega)]; with_reducible rfl)
          try simp only [List.getElem_toArray, List.getElem_cons_zero, List.getElem_cons_succ, Act.put, List.setIfInBounds_toArray, List.set_cons_zero, List.set_cons_succ]
          refine wpAnyH_take (i := 7) (v := ?_) rfl (by kernel_rfl) (by kernel_rfl) (by kernel_rfl) (fun _ _ _ h => h) (Or.inl ⟨by rfl, ?_⟩) (by assumption) ?_
          rotate_left 1
          · intro w' hSw
            have xk : w'.cell? ⟨b1, o1 + k, none⟩ = some (.string (key8 n.keys k)) := (World.cell?_of_block (w := w9) (a := ⟨b1, o1 + k, none⟩) (hSw.block b1 hb19 (by omega))).trans HKC9.out
            go_simp
            all_goals first | with_reducible rfl | (rw [if_neg (by omega)]; done) | (rw [if_pos (by omega)]; done) | (rw [if_neg (by omega)]; with_reducible rfl) | (rw [if_pos (by omega)]; with_reducible rfl)
          try simp only [List.getElem_toArray, List.getElem_cons_zero, List.getElem_cons_succ, Act.put, List.setIfInBounds_toArray, List.set_cons_zero, List.set_cons_succ]
          refine wpAnyH_take (i := 8) (v := ?_) rfl (by kernel_rfl) (by kernel_rfl) (by kernel_rfl) (fun _ _ _ h => h) (Or.inl ⟨by rfl, ?_⟩) (by assumption) ?_
          rotate_left 1
          · intro w' hSw
            have x0 : w'.cell? ⟨w.heap.size, 0, none⟩ = some (.bool true) := (B9.out.turn hSw (by omega)).cell 0
            have x1 : w'.cell? ⟨w.heap.size, 1, none⟩ = some (.slice (some ⟨b1, o1, none⟩) nk c1) := (B9.out.turn hSw (by omega)).cell 1
            have x2 : w'.cell? ⟨w.heap.size, 2, none⟩ = some (.slice A2 nv c2) := (B9.out.turn hSw (by omega)).cell 2
            have x3 : w'.cell? ⟨w.heap.size, 3, none⟩ = some (.slice A3 nd c3) := (B9.out.turn hSw (by omega)).cell 3
            go_simp
            all_goals first | with_reducible rfl | (rw [if_neg (by omega)]; done) | (rw [if_pos (by omega)]; done) | (rw [if_neg (by omega)]; with_reducible rfl) | (rw [if_pos (by omega)]; with_reducible rfl)
          try simp only [List.getElem_toArray, List.getElem_cons_zero, List.getElem_cons_succ, Act.put, List.setIfInBounds_toArray, List.set_cons_zero, List.set_cons_succ]
          refine wpAnyH_take (i := 9) (v := ?_) rfl (by kernel_rfl) (by kernel_rfl) (by kernel_rfl) (fun _ _ _ h => h) (Or.inl ⟨by rfl, ?_⟩) (by assumption) ?_
          rotate_left 1
          · intro w' hSw
            go_simp
            all_goals first | with_reducible rfl | (rw [if_neg (by omega)]; done) | (rw [if_pos (by omega)]; done) | (rw [if_neg (by omega)]; with_reducible rfl) | (rw [if_pos (by omega)]; with_reducible rfl)
          try simp only [List.getElem_toArray, List.getElem_cons_zero, List.getElem_cons_succ, Act.put, List.setIfInBounds_toArray, List.set_cons_zero, List.set_cons_succ]
          refine wpAnyH_take (i := 10) (v := ?_) rfl (by kernel_rfl) (by kernel_rfl) (by kernel_rfl) (fun _ _ _ h => h) (Or.inl ⟨by rfl, ?_⟩) (by assumption) ?_
          rotate_left 1
          · intro w' hSw
            go_simp
            all_goals first | with_reducible rfl | (rw [if_neg (by omega)]; done) | (rw [if_pos (by omega)]; done) | (rw [if_neg (by omega)]; with_reducible rfl) | (rw [if_pos (by omega)]; with_reducible rfl)
          try simp only [List.getElem_toArray, List.getElem_cons_zero, List.getElem_cons_succ, Act.put, List.setIfInBounds_toArray, List.set_cons_zero, List.set_cons_succ]
          refine wpAnyH_take (i := 11) (v := ?_) rfl (by kernel_rfl) (by kernel_rfl) (by kernel_rfl) (fun _ _ _ h => h) (Or.inl ⟨by rfl, ?_⟩) (by assumption) ?_
          rotate_left 1
          · intro w' hSw
            go_simp
            all_goals first | with_reducible rfl | (rw [if_neg (by omega)]; done) | (rw [if_pos (by omega)]; done) | (rw [if_neg (by omega)]; with_reducible rfl) | (rw [if_pos (by omega)]; with_reducible rfl)
          try simp only [List.getElem_toArray, List.getElem_cons_zero, List.getElem_cons_succ, Act.put, List.setIfInBounds_toArray, List.set_cons_zero, List.set_cons_succ]
          refine wpAnyH_take (i := 12) (v := ?_) rfl (by kernel_rfl) (by kernel_rfl) (by kernel_rfl) (fun _ _ _ h => h) (Or.inl ⟨by rfl, ?_⟩) (by assumption) ?_
          rotate_left 1
          · intro w' hSw
            go_simp
            all_goals first | with_reducible rfl | (rw [if_neg (by omega)]; done) | (rw [if_pos (by omega)]; done) | (rw [if_neg (by omega)]; with_reducible rfl) | (rw [if_pos (by omega)]; with_reducible rfl)
          try simp only [List.getElem_toArray, List.getElem_cons_zero, List.getElem_cons_succ, Act.put, List.setIfInBounds_toArray, List.set_cons_zero, List.set_cons_succ]
          refine wpAnyH_take (i := 13) (v := ?_) rfl (by kernel_rfl) (by kernel_rfl) (by kernel_rfl) (fun _ _ _ h => h) (Or.inl ⟨by rfl, ?_⟩) (by assumption) ?_
          rotate_left 1
          · intro w' hSw
            have x1 : w'.cell? ⟨w.heap.size, 1, none⟩ = some (.slice (some ⟨b1, o1, none⟩) nk c1) := (B9.out.turn hSw (by omega)).cell 1
            go_simp
            all_goals first | with_reducible rfl | (rw [if_neg (by omega)]; done) | (rw [if_pos (by omega)]; done) | (rw [if_neg (by omega)]; with_reducible rfl) | (rw [if_pos (by omega)]; with_reducible rfl)
          try simp only [List.getElem_toArray, List.getElem_cons_zero, List.getElem_cons_succ, Act.put, List.setIfInBounds_toArray, List.set_cons_zero, List.set_cons_succ]
          refine wpAnyH_take (i := 14) (v := ?_) rfl (by kernel_rfl) (by kernel_rfl) (by kernel_rfl) (fun _ _ _ h => h) (Or.inl ⟨by rfl, ?_⟩) (by assumption) ?_
          rotate_left 1
          · intro w' hSw
            go_simp
            all_goals first | with_reducible rfl | (rw [if_neg (by omega)]; done) | (rw [if_pos (by omega)]; done) | (rw [if_neg (by omega)]; with_reducible rfl) | (rw [if_pos (by omega)]; with_reducible rfl)
          try simp only [List.getElem_toArray, List.getElem_cons_zero, List.getElem_cons_succ, Act.put, List.setIfInBounds_toArray, List.set_cons_zero, List.set_cons_succ]
          refine wpAnyH_ready (rs := [2]) (by kernel_rfl) (by simp) ?_
          refine AllReadyH.cons rfl (fun K hK => ?_) AllReadyH.nil
          refine step_call rfl 45 Try.f45 _ _ rfl Try.func45 (by kernel_rfl) (by kernel_rfl) _ _ (HPA.out X0 0 k (T9.out.trans T0.out) (by omega) (by omega)) (by go_simp) ?_
          rintro v X1 ⟨⟨E1, Ea, E2, Eb, E3, Ec, rfl, hn, hq⟩, ht⟩
          simp only [nv8]
          have T1 := Lib.hid (T0.out.trans ht)
          have hH1 := T1.out.mono (T := (fun k => k = w.heap.size + 1 ∨ k = w.heap.size + 1 + 1)) (fun _ _ h => h.elim)
          have hz1 := ht.size
          have hy1 := T0.out.size
          have B1_1 := Lib.hid (B0_1.out.turn ht (fun h => h))
          have B1_2 := Lib.hid (B0_2.out.turn ht (fun h => h))
          have B1_4 := Lib.hid (B0_4.out.turn ht (fun h => h))
          have hm1_1 := B0_1.out.lt
          have hm1_2 := B0_2.out.lt
          have hm1_4 := B0_4.out.lt
          have F_E := Lib.hid hn
          have Q_E := Lib.hid hq
          have D1_E := Lib.hid (Turn.refl (fun k => k < X0.heap.size) X1)
          have hz_E := T0.out.size
          have hw_E := ht.size
          clear hn hq
          clear T0 hH0 B0_1 B0_2 B0_4 ht
          refine hK.out _ _ hH1 (fun hHeld => ?_)
          clear hK K hHeld
          try simp only [List.getElem_toArray, List.getElem_cons_zero, List.getElem_cons_succ, Act.put, List.setIfInBounds_toArray, List.set_cons_zero, List.set_cons_succ]
          refine wpAnyH_ready (rs := [15]) (by kernel_rfl) (by simp) ?_
          refine AllReadyH.cons rfl (fun K hK => ?_) AllReadyH.nil
          refine step_call rfl 45 Try.f45 _ _ rfl Try.func45 (by kernel_rfl) (by kernel_rfl) _ _ (HPA.out X1 k nk (T9.out.trans T1.out) (by omega) (by omega)) (by go_simp) ?_
          rintro v X2 ⟨⟨G1, Ga, G2, Gb, G3, Gc, rfl, hn, hq⟩, ht⟩
          simp only [nv8]
          have T2 := Lib.hid (T1.out.trans ht)
          have hH2 := T2.out.mono (T := (fun k => k = w.heap.size + 1 ∨ k = w.heap.size + 1 + 1)) (fun _ _ h => h.elim)
          have hz2 := ht.size
          have hy2 := T1.out.size
          have B2_1 := Lib.hid (B1_1.out.turn ht (fun h => h))
          have B2_2 := Lib.hid (B1_2.out.turn ht (fun h => h))
          have B2_4 := Lib.hid (B1_4.out.turn ht (fun h => h))
          have hm2_1 := B1_1.out.lt
          have hm2_2 := B1_2.out.lt
          have hm2_4 := B1_4.out.lt
          have D2_E := Lib.hid (D1_E.out.trans_new (S := fun k => k < X0.heap.size) ht (fun _ _ h => h.elim))
          have F_G := Lib.hid hn
          have Q_G := Lib.hid hq
          have D2_G := Lib.hid (Turn.refl (fun k => k < X1.heap.size) X2)
          have hz_G := T1.out.size
          have hw_G := ht.size
          clear hn hq
          clear D1_E
          clear T1 hH1 B1_1 B1_2 B1_4 ht
          refine hK.out _ _ hH2 (fun hHeld => ?_)
          clear hK K hHeld
          try simp only [List.getElem_toArray, List.getElem_cons_zero, List.getElem_cons_succ, Act.put, List.setIfInBounds_toArray, List.set_cons_zero, List.set_cons_succ]
          refine wpAnyH_ready (rs := [16]) (by kernel_rfl) (by simp) ?_
          refine AllReadyH.cons rfl (fun K hK => ?_) AllReadyH.nil
          have r0 := B2_2.out.cell 0
          have f0 := B2_2.out.free 0
          have r1 := B2_2.out.cell 1
          have f1 := B2_2.out.free 1
          have r2 := B2_2.out.cell 2
          have f2 := B2_2.out.free 2
          have r3 := B2_2.out.cell 3
          have f3 := B2_2.out.free 3
          simp only [List.getElem?_cons_zero, List.getElem?_cons_succ] at r0 r1 r2 r3
          obtain ⟨hb, hs⟩ := put4 B2_2.out (.bool (part8 n 0 k).leaf) (.slice E1 (part8 n 0 k).keys.length Ea) (.slice E2 (part8 n 0 k).vals.length Eb) (.slice E3 (part8 n 0 k).kids.length Ec)
          have hx := T2.out.size
          have hS := (T2.out.mono (T := (fun k => k = w.heap.size + 1 ∨ k = w.heap.size + 1 + 1)) (fun _ _ h => h.elim)).trans_new (S := (fun k => k = w.heap.size + 1 ∨ k = w.heap.size + 1 + 1)) hs (fun k hk e => by omega)
          go_simp
          refine hK.out _ _ hS (fun hHeld => ?_)
          clear hK K
          try simp only [List.getElem_toArray, List.getElem_cons_zero, List.getElem_cons_succ, Act.put, List.setIfInBounds_toArray, List.set_cons_zero, List.set_cons_succ]
          refine wpAnyH_named (fun X3 e => ?_)
          clear hHeld
          have T3 := Lib.hid (e ▸ hS)
          have hH3 := T3.out
          have B3_2 := Lib.hid (e ▸ hb)
          rw [← e] at hs
          have B3_1 := Lib.hid (B2_1.out.turn hs (by omega))
          have B3_4 := Lib.hid (B2_4.out.turn hs (by omega))
          have D3_E := Lib.hid (D2_E.out.trans_new (S := fun k => k < X0.heap.size) hs (fun k hk e => by omega))
          clear D2_E
          have D3_G := Lib.hid (D2_G.out.trans_new (S := fun k => k < X1.heap.size) hs (fun k hk e => by omega))
          clear D2_G
          clear T2 hH2 B2_1 B2_2 B2_4 r0 f0 r1 f1 r2 f2 r3 f3 hS hb hs e
          refine wpAnyH_take (i := 17) (v := ?_) rfl (by kernel_rfl) (by kernel_rfl) (by kernel_rfl) (fun _ _ _ h => h) (Or.inl ⟨by rfl, ?_⟩) (by assumption) ?_
          rotate_left 1
          · intro w' hSw
            go_simp
            all_goals first | with_reducible rfl | (rw [if_neg (by omega)]; done) | (rw [if_pos (by omega)]; done) | (rw [if_neg (by omega)]; with_reducible rfl) | (rw [if_pos (by omega)]; with_reducible rfl)
          try simp only [List.getElem_toArray, List.getElem_cons_zero, List.getElem_cons_succ, Act.put, List.setIfInBounds_toArray, List.set_cons_zero, List.set_cons_succ]
          refine wpAnyH_ready (rs := [18]) (by kernel_rfl) (by simp) ?_
          refine AllReadyH.cons rfl (fun K hK => ?_) AllReadyH.nil
          have r0 := B3_4.out.cell 0
          have f0 := B3_4.out.free 0
          have r1 := B3_4.out.cell 1
          have f1 := B3_4.out.free 1
          have r2 := B3_4.out.cell 2
          have f2 := B3_4.out.free 2
          have r3 := B3_4.out.cell 3
          have f3 := B3_4.out.free 3
          simp only [List.getElem?_cons_zero, List.getElem?_cons_succ] at r0 r1 r2 r3
          obtain ⟨hb, hs⟩ := put4 B3_4.out (.bool (part8 n k nk).leaf) (.slice G1 (part8 n k nk).keys.length Ga) (.slice G2 (part8 n k nk).vals.length Gb) (.slice G3 (part8 n k nk).kids.length Gc)
          have hx := T3.out.size
          have hS := (T3.out).trans_new (S := (fun k => k = w.heap.size + 1 ∨ k = w.heap.size + 1 + 1)) hs (fun k hk e => by omega)
          go_simp
          refine hK.out _ _ hS (fun hHeld => ?_)
          clear hK K
          try simp only [List.getElem_toArray, List.getElem_cons_zero, List.getElem_cons_succ, Act.put, List.setIfInBounds_toArray, List.set_cons_zero, List.set_cons_succ]
          refine wpAnyH_named (fun X4 e => ?_)
          clear hHeld
          have T4 := Lib.hid (e ▸ hS)
          have hH4 := T4.out
          have B4_4 := Lib.hid (e ▸ hb)
          rw [← e] at hs
          have B4_1 := Lib.hid (B3_1.out.turn hs (by omega))
          have B4_2 := Lib.hid (B3_2.out.turn hs (by omega))
          have D4_E := Lib.hid (D3_E.out.trans_new (S := fun k => k < X0.heap.size) hs (fun k hk e => by omega))
          clear D3_E
          have D4_G := Lib.hid (D3_G.out.trans_new (S := fun k => k < X1.heap.size) hs (fun k hk e => by omega))
          clear D3_G
          clear T3 hH3 B3_1 B3_2 B3_4 r0 f0 r1 f1 r2 f2 r3 f3 hS hb hs e
          refine wpAnyH_take (i := 19) (v := ?_) rfl (by kernel_rfl) (by kernel_rfl) (by kernel_rfl) (fun _ _ _ h => h) (Or.inl ⟨by rfl, ?_⟩) (by assumption) ?_
          rotate_left 1
          · intro w' hSw
            go_simp
            all_goals first | with_reducible rfl | (rw [if_neg (by omega)]; done) | (rw [if_pos (by omega)]; done) | (rw [if_neg (by omega)]; with_reducible rfl) | (rw [if_pos (by omega)]; with_reducible rfl)
          try simp only [List.getElem_toArray, List.getElem_cons_zero, List.getElem_cons_succ, Act.put, List.setIfInBounds_toArray, List.set_cons_zero, List.set_cons_succ]
          refine wpAnyH_done (by kernel_rfl) ?_ _
          refine NoPanic.normal ?_
          go_wp2_with fail
          have d0 := B4_2.out.cell 0
          have e0 := B4_4.out.cell 0
          have d1 := B4_2.out.cell 1
          have e1 := B4_4.out.cell 1
          have d2 := B4_2.out.cell 2
          have e2 := B4_4.out.cell 2
          have d3 := B4_2.out.cell 3
          have e3 := B4_4.out.cell 3
          simp only [List.getElem?_cons_zero, List.getElem?_cons_succ] at d0 d1 d2 d3 e0 e1 e2 e3
          have htt := T9.out.trans_new T4.out (fun k hk e => by omega)
          have hnE := F_E.out _ D4_E.out
          have hnG := F_G.out _ D4_G.out
          exact bodyPost_ret (v := .tuple #[.agg #[(.bool (part8 n 0 k).leaf), (.slice E1 (part8 n 0 k).keys.length Ea), (.slice E2 (part8 n 0 k).vals.length Eb), (.slice E3 (part8 n 0 k).kids.length Ec)], .string (key8 n.keys k), .agg #[(.bool (part8 n k nk).leaf), (.slice G1 (part8 n k nk).keys.length Ga), (.slice G2 (part8 n k nk).vals.length Gb), (.slice G3 (part8 n k nk).kids.length Gc)], .bool true]) (by simp [results, Try.results21, go_sem, d0, d1, d2, d3, e0, e1, e2, e3]) rfl ⟨k, _, _, rfl, HKS2.out, ⟨E1, Ea, E2, Eb, E3, Ec, rfl, hnE, Q_E.out⟩, ⟨G1, Ga, G2, Gb, G3, Gc, rfl, hnG, Q_G.out⟩, htt⟩
      · have hlt1 : ¬ (k : Int) < (most : Int) := by omega
        have HKS2 : Hid (Ks n k) := Lib.hid ((HKS.out k).2 ⟨hk1, by omega, HLO.out, fun _ => by omega⟩)
        go_wp2_with fail
        refine wp_region_noPanic ?_
        refine wp_region_held_drew (S := fun X => Turn (fun _ => False) wr X) (by kernel_rfl) ((Turn.refl (fun _ => False) wr).drew) (fun hHeld => ?_)
        refine wpAnyH_named (fun X0 hX0 => ?_)
        clear hHeld
        have T0 : Hid (Turn (fun _ => False) wr X0) := Lib.hid (by rw [hX0]; exact (Turn.refl (fun _ => False) wr).drew)
        have hH0 := T0.out
        clear hX0
        have B0_1 := Lib.hid ((BB.out).turn T0.out (fun h => h))
        have B0_2 := Lib.hid ((RR.out).turn T0.out (fun h => h))
        have B0_4 := Lib.hid ((SS.out).turn T0.out (fun h => h))
        refine wpAnyH_take (i := 0) (v := ?_) rfl (by kernel_rfl) (by kernel_rfl) (by kernel_rfl) (fun _ _ _ h => h) (Or.inl ⟨by rfl, ?_⟩) (by assumption) ?_
        rotate_left 1
        · intro w' hSw
          go_simp
          all_goals first | with_reducible rfl | (rw [if_neg (by omega)]; done) | (rw [if_pos (by omega)]; done) | (rw [if_neg (by omega)]; with_reducible rfl) | (rw [if_pos (by omega)]; with_reducible rfl)
        try simp only [List.getElem_toArray, List.getElem_cons_zero, List.getElem_cons_succ, Act.put, List.setIfInBounds_toArray, List.set_cons_zero, List.set_cons_succ]
        refine wpAnyH_take (i := 1) (v := ?_) rfl (by kernel_rfl) (by kernel_rfl) (by kernel_rfl) (fun _ _ _ h => h) (Or.inl ⟨by rfl, ?_⟩) (by assumption) ?_
        rotate_left 1
        · intro w' hSw
          go_simp
          all_goals first | with_reducible rfl | (rw [if_neg (by omega)]; done) | (rw [if_pos (by omega)]; done) | (rw [if_neg (by omega)]; with_reducible rfl) | (rw [if_pos (by omega)]; with_reducible rfl)
        try simp only [List.getElem_toArray, List.getElem_cons_zero, List.getElem_cons_succ, Act.put, List.setIfInBounds_toArray, List.set_cons_zero, List.set_cons_succ]
        refine wpAnyH_take (i := 2) (v := ?_) rfl (by kernel_rfl) (by kernel_rfl) (by kernel_rfl) (fun _ _ _ h => h) (Or.inl ⟨by rfl, ?_⟩) (by assumption) ?_
        rotate_left 1
        · intro w' hSw
          go_simp
          all_goals first | with_reducible rfl | (rw [if_neg (by omega)]; done) | (rw [if_pos (by omega)]; done) | (rw [if_neg (by omega)]; with_reducible rfl) | (rw [if_pos (by omega)]; with_reducible rfl)
        try simp only [List.getElem_toArray, List.getElem_cons_zero, List.getElem_cons_succ, Act.put, List.setIfInBounds_toArray, List.set_cons_zero, List.set_cons_succ]
        refine wpAnyH_take (i := 3) (v := ?_) rfl (by kernel_rfl) (by kernel_rfl) (by kernel_rfl) (fun _ _ _ h => h) (Or.inl ⟨by rfl, ?_⟩) (by assumption) ?_
        rotate_left 1
        · intro w' hSw
          go_simp
          all_goals first | with_reducible rfl | (rw [if_neg (by omega)]; done) | (rw [if_pos (by omega)]; done) | (rw [if_neg (by omega)]; with_reducible rfl) | (rw [if_pos (by omega)]; with_reducible rfl)
        try simp only [List.getElem_toArray, List.getElem_cons_zero, List.getElem_cons_succ, Act.put, List.setIfInBounds_toArray, List.set_cons_zero, List.set_cons_succ]
        refine wpAnyH_take (i := 4) (v := undef) rfl (by kernel_rfl) (by kernel_rfl) (by kernel_rfl) (fun _ _ _ h => h) (Or.inr ⟨by rfl, rfl⟩) (by assumption) ?_
        try simp only [List.getElem_toArray, List.getElem_cons_zero, List.getElem_cons_succ, Act.put, List.setIfInBounds_toArray, List.set_cons_zero, List.set_cons_succ]
        refine wpAnyH_take (i := 5) (v := undef) rfl (by kernel_rfl) (by kernel_rfl) (by kernel_rfl) (fun _ _ _ h => h) (Or.inr ⟨by rfl, rfl⟩) (by assumption) ?_
        try simp only [List.getElem_toArray, List.getElem_cons_zero, List.getElem_cons_succ, Act.put, List.setIfInBounds_toArray, List.set_cons_zero, List.set_cons_succ]
        refine wpAnyH_take (i := 6) (v := undef) rfl (by kernel_rfl) (by kernel_rfl) (by kernel_rfl) (fun _ _ _ h => h) (Or.inr ⟨by rfl, rfl⟩) (by assumption) ?_
        try simp only [List.getElem_toArray, List.getElem_cons_zero, List.getElem_cons_succ, Act.put, List.setIfInBounds_toArray, List.set_cons_zero, List.set_cons_succ]
        refine wpAnyH_take (i := 7) (v := undef) rfl (by kernel_rfl) (by kernel_rfl) (by kernel_rfl) (fun _ _ _ h => h) (Or.inr ⟨by rfl, rfl⟩) (by assumption) ?_
        try simp only [List.getElem_toArray, List.getElem_cons_zero, List.getElem_cons_succ, Act.put, List.setIfInBounds_toArray, List.set_cons_zero, List.set_cons_succ]
        refine wpAnyH_take (i := 8) (v := undef) rfl (by kernel_rfl) (by kernel_rfl) (by kernel_rfl) (fun _ _ _ h => h) (Or.inr ⟨by rfl, rfl⟩) (by assumption) ?_
        try simp only [List.getElem_toArray, List.getElem_cons_zero, List.getElem_cons_succ, Act.put, List.setIfInBounds_toArray, List.set_cons_zero, List.set_cons_succ]
        refine wpAnyH_take (i := 9) (v := undef) rfl (by kernel_rfl) (by kernel_rfl) (by kernel_rfl) (fun _ _ _ h => h) (Or.inr ⟨by rfl, rfl⟩) (by assumption) ?_
        try simp only [List.getElem_toArray, List.getElem_cons_zero, List.getElem_cons_succ, Act.put, List.setIfInBounds_toArray, List.set_cons_zero, List.set_cons_succ]
        refine wpAnyH_take (i := 10) (v := undef) rfl (by kernel_rfl) (by kernel_rfl) (by kernel_rfl) (fun _ _ _ h => h) (Or.inr ⟨by rfl, rfl⟩) (by assumption) ?_
        try simp only [List.getElem_toArray, List.getElem_cons_zero, List.getElem_cons_succ, Act.put, List.setIfInBounds_toArray, List.set_cons_zero, List.set_cons_succ]
        refine wpAnyH_take (i := 11) (v := undef) rfl (by kernel_rfl) (by kernel_rfl) (by kernel_rfl) (fun _ _ _ h => h) (Or.inr ⟨by rfl, rfl⟩) (by assumption) ?_
        try simp only [List.getElem_toArray, List.getElem_cons_zero, List.getElem_cons_succ, Act.put, List.setIfInBounds_toArray, List.set_cons_zero, List.set_cons_succ]
        refine wpAnyH_take (i := 12) (v := ?_) rfl (by kernel_rfl) (by kernel_rfl) (by kernel_rfl) (fun _ _ _ h => h) (Or.inl ⟨by rfl, ?_⟩) (by assumption) ?_
        rotate_left 1
        · intro w' hSw
          go_simp
          all_goals first | with_reducible rfl | (rw [if_neg (by omega)]; done) | (rw [if_pos (by omega)]; done) | (rw [if_neg (by omega)]; with_reducible rfl) | (rw [if_pos (by omega)]; with_reducible rfl)
        try simp only [List.getElem_toArray, List.getElem_cons_zero, List.getElem_cons_succ, Act.put, List.setIfInBounds_toArray, List.set_cons_zero, List.set_cons_succ]
        refine wpAnyH_done (by kernel_rfl) ?_ _
        refine NoPanic.normal ?_
        have T9 := Lib.hid (TT.out.trans T0.out)
        have B9 := B0_1
        have R9 := B0_2
        have S9 := B0_4
        generalize X0 = w9 at *
        have hkl : k < n.keys.length := by rw [HNK.out]; omega
        have hkc : w9.cell? ⟨b1, o1 + k, none⟩ = some (.string (key8 n.keys k)) := HCC.out w9 T9.out k _ (by unfold key8; rw [List.getD_eq_getElem?_getD, List.getElem?_eq_getElem hkl]; rfl)
        have HKC9 := Lib.hid hkc
        have hb19 : b1 < w9.heap.size := by have := T9.out.size; omega
        have h9l := S9.out.lt
        have hw9 := T9.out.size
        have i1 : (0 : Int) ≤ (k : Int) := by omega
        have i2 : (k : Int) < (nk : Int) := by omega
        have i4 := wrap_of (k : Int) (by omega) (by omega)
        clear hkc hkl
        go_wp2_with fail
        refine wp_region_noPanic ?_
        refine wp_region_held_drew (S := fun X => Turn (fun k => k = w.heap.size + 1 ∨ k = w.heap.size + 1 + 1) w9 X) (by kernel_rfl) ((Turn.refl (fun k => k = w.heap.size + 1 ∨ k = w.heap.size + 1 + 1) w9).drew) (fun hHeld => ?_)
        refine wpAnyH_named (fun X0 hX0 => ?_)
        clear hHeld
        have T0 : Hid (Turn (fun _ => False) w9 X0) := Lib.hid (by rw [hX0]; exact (Turn.refl (fun _ => False) w9).drew)
        have hH0 := T0.out.mono (T := (fun k => k = w.heap.size + 1 ∨ k = w.heap.size + 1 + 1)) (fun _ _ h => h.elim)
        clear hX0
        have B0_1 := Lib.hid ((B9.out).turn T0.out (fun h => h))
        have B0_2 := Lib.hid ((R9.out).turn T0.out (fun h => h))
        have B0_4 := Lib.hid ((S9.out).turn T0.out (fun h => h))
        refine wpAnyH_take (i := 0) (v := ?_) rfl (by kernel_rfl) (by kernel_rfl) (by kernel_rfl) (fun _ _ _ h => h) (Or.inl ⟨by rfl, ?_⟩) (by assumption) ?_
        rotate_left 1
        · intro w' hSw
          have x0 : w'.cell? ⟨w.heap.size, 0, none⟩ = some (.bool true) := (B9.out.turn hSw (by omega)).cell 0
          have x1 : w'.cell? ⟨w.heap.size, 1, none⟩ = some (.slice (some ⟨b1, o1, none⟩) nk c1) := (B9.out.turn hSw (by omega)).cell 1
          have x2 : w'.cell? ⟨w.heap.size, 2, none⟩ = some (.slice A2 nv c2) := (B9.out.turn hSw (by omega)).cell 2
          have x3 : w'.cell? ⟨w.heap.size, 3, none⟩ = some (.slice A3 nd c3) := (B9.out.turn hSw (by omega)).cell 3
          go_simp
          all_goals first | with_reducible rfl | (rw [if_neg (by omega)]; done) | (rw [if_pos (by omega)]; done) | (rw [if_neg (by omega)]; with_reducible rfl) | (rw [if_pos (by omega)]; with_reducible rfl)
        try simp only [List.getElem_toArray, List.getElem_cons_zero, List.getElem_cons_succ, Act.put, List.setIfInBounds_toArray, List.set_cons_zero, List.set_cons_succ]
        refine wpAnyH_take (i := 1) (v := ?_) rfl (by kernel_rfl) (by kernel_rfl) (by kernel_rfl) (fun _ _ _ h => h) (Or.inl ⟨by rfl, ?_⟩) (by assumption) ?_
        rotate_left 1
        · intro w' hSw
          go_simp
          all_goals first | with_reducible rfl | (rw [if_neg (by omega)]; done) | (rw [if_pos (by omega)]; done) | (rw [if_neg (by omega)]; with_reducible rfl) | (rw [if_pos (by omega)]; with_reducible rfl)
        try simp only [List.getElem_toArray, List.getElem_cons_zero, List.getElem_cons_succ, Act.put, List.setIfInBounds_toArray, List.set_cons_zero, List.set_cons_succ]
        refine wpAnyH_take (i := 3) (v := ?_) rfl (by kernel_rfl) (by kernel_rfl) (by kernel_rfl) (fun _ _ _ h => h) (Or.inl ⟨by rfl, ?_⟩) (by assumption) ?_
        rotate_left 1
        · intro w' hSw
          go_simp
          all_goals first | with_reducible rfl | (rw [if_neg (by omega)]; done) | (rw [if_pos (by omega)]; done) | (rw [if_neg (by omega)]; with_reducible rfl) | (rw [if_pos (by omega)]; with_reducible rfl)
        try simp only [List.getElem_toArray, List.getElem_cons_zero, List.getElem_cons_succ, Act.put, List.setIfInBounds_toArray, List.set_cons_zero, List.set_cons_succ]
        refine wpAnyH_take (i := 4) (v := ?_) rfl (by kernel_rfl) (by kernel_rfl) (by kernel_rfl) (fun _ _ _ h => h) (Or.inl ⟨by rfl, ?_⟩) (by assumption) ?_
        rotate_left 1
        · intro w' hSw
          have x1 : w'.cell? ⟨w.heap.size, 1, none⟩ = some (.slice (some ⟨b1, o1, none⟩) nk c1) := (B9.out.turn hSw (by omega)).cell 1
          go_simp
          all_goals first | with_reducible rfl | (rw [if_neg (by omega)]; done) | (rw [if_pos (by omega)]; done) | (rw [if_neg (by omega)]; with_reducible rfl) | (rw [if_pos (by omega)]; with_reducible rfl)
        try simp only [List.getElem_toArray, List.getElem_cons_zero, List.getElem_cons_succ, Act.put, List.setIfInBounds_toArray, List.set_cons_zero, List.set_cons_succ]
        refine wpAnyH_take (i := 5) (v := ?_) rfl (by kernel_rfl) (by kernel_rfl) (by kernel_rfl) (fun _ _ _ h => h) (Or.inl ⟨by rfl, ?_⟩) (by assumption) ?_
        rotate_left 1
        · intro w' hSw
          go_simp
          all_goals first | with_reducible rfl | (rw [if_neg (by omega)]; done) | (rw [if_pos (by omega)]; done) | (rw [if_neg (by omega)]; with_reducible rfl) | (rw [if_pos (by omega)]; with_reducible rfl)
        try simp only [List.getElem_toArray, List.getElem_cons_zero, List.getElem_cons_succ, Act.put, List.setIfInBounds_toArray, List.set_cons_zero, List.set_cons_succ]
        refine wpAnyH_take (i := 6) (v := ?_) rfl (by kernel_rfl) (by kernel_rfl) (by kernel_rfl) (fun _ _ _ h => h) (Or.inl ⟨by rfl, ?_⟩) (by assumption) ?_
        rotate_left 1
        · intro w' hSw
          go_simp
          all_goals first | with_reducible rfl | (rw [if_neg (by omega)]; done) | (rw [if_pos (by omega)]; done) | (rw [if_neg (by omega)]; with_reducible rfl) | (rw [if_pos (by omega)]; with_reducible rfl)
        try simp only [List.getElem_toArray, List.getElem_cons_zero, List.getElem_cons_succ, Act.put, List.setIfInBounds_toArray, List.set_cons_zero, List.set_cons_succ]
        refine wpAnyH_take (i := 7) (v := ?_) rfl (by kernel_rfl) (by kernel_rfl) (by kernel_rfl) (fun _ _ _ h => h) (Or.inl ⟨by rfl, ?_⟩) (by assumption) ?_
        rotate_left 1
        · intro w' hSw
          have xk : w'.cell? ⟨b1, o1 + k, none⟩ = some (.string (key8 n.keys k)) := (World.cell?_of_block (w := w9) (a := ⟨b1, o1 + k, none⟩) (hSw.block b1 hb19 (by omega))).trans HKC9.out
          go_simp
          all_goals first | with_reducible rfl | (rw [if_neg (by omega)]; done) | (rw [if_pos (by omega)]; done) | (rw [if_neg (by omega)]; with_reducible rfl) | (rw [if_pos (by omega)]; with_reducible rfl)
        try simp only [List.getElem_toArray, List.getElem_cons_zero, List.getElem_cons_succ, Act.put, List.setIfInBounds_toArray, List.set_cons_zero, List.set_cons_succ]
        refine wpAnyH_take (i := 8) (v := ?_) rfl (by kernel_rfl) (by kernel_rfl) (by kernel_rfl) (fun _ _ _ h => h) (Or.inl ⟨by rfl, ?_⟩) (by assumption) ?_
        rotate_left 1
        · intro w' hSw
          have x0 : w'.cell? ⟨w.heap.size, 0, none⟩ = some (.bool true) := (B9.out.turn hSw (by omega)).cell 0
          have x1 : w'.cell? ⟨w.heap.size, 1, none⟩ = some (.slice (some ⟨b1, o1, none⟩) nk c1) := (B9.out.turn hSw (by omega)).cell 1
          have x2 : w'.cell? ⟨w.heap.size, 2, none⟩ = some (.slice A2 nv c2) := (B9.out.turn hSw (by omega)).cell 2
          have x3 : w'.cell? ⟨w.heap.size, 3, none⟩ = some (.slice A3 nd c3) := (B9.out.turn hSw (by omega)).cell 3
          go_simp
          all_goals first | with_reducible rfl | (rw [if_neg (by omega)]; done) | (rw [if_pos (by omega)]; done) | (rw [if_neg (by omega)]; with_reducible rfl) | (rw [if_pos (by omega)]; with_reducible rfl)
        try simp only [List.getElem_toArray, List.getElem_cons_zero, List.getElem_cons_succ, Act.put, List.setIfInBounds_toArray, List.set_cons_zero, List.set_cons_succ]
        refine wpAnyH_take (i := 9) (v := ?_) rfl (by kernel_rfl) (by kernel_rfl) (by kernel_rfl) (fun _ _ _ h => h) (Or.inl ⟨by rfl, ?_⟩) (by assumption) ?_
        rotate_left 1
        · intro w' hSw
          go_simp
          all_goals first | with_reducible rfl | (rw [if_neg (by omega)]; done) | (rw [if_pos (by omega)]; done) | (rw [if_neg (by omega)]; with_reducible rfl) | (rw [if_pos (by omega)]; with_reducible rfl)
        try simp only [List.getElem_toArray, List.getElem_cons_zero, List.getElem_cons_succ, Act.put, List.setIfInBounds_toArray, List.set_cons_zero, List.set_cons_succ]
        refine wpAnyH_take (i := 10) (v := ?_) rfl (by kernel_rfl) (by kernel_rfl) (by kernel_rfl) (fun _ _ _ h => h) (Or.inl ⟨by rfl, ?_⟩) (by assumption) ?_
        rotate_left 1
        · intro w' hSw
          go_simp
          all_goals first | with_reducible rfl | (rw [if_neg (by omega)]; done) | (rw [if_pos (by omega)]; done) | (rw [if_neg (by omega)]; with_reducible rfl) | (rw [if_pos (by omega)]; with_reducible rfl)
        try simp only [List.getElem_toArray, List.getElem_cons_zero, List.getElem_cons_succ, Act.put, List.setIfInBounds_toArray, List.set_cons_zero, List.set_cons_succ]
        refine wpAnyH_take (i := 11) (v := ?_) rfl (by kernel_rfl) (by kernel_rfl) (by kernel_rfl) (fun _ _ _ h => h) (Or.inl ⟨by rfl, ?_⟩) (by assumption) ?_
        rotate_left 1
        · intro w' hSw
          go_simp
          all_goals first | with_reducible rfl | (rw [if_neg (by omega)]; done) | (rw [if_pos (by omega)]; done) | (rw [if_neg (by omega)]; with_reducible rfl) | (rw [if_pos (by omega)]; with_reducible rfl)
        try simp only [List.getElem_toArray, List.getElem_cons_zero, List.getElem_cons_succ, Act.put, List.setIfInBounds_toArray, List.set_cons_zero, List.set_cons_succ]
        refine wpAnyH_take (i := 12) (v := ?_) rfl (by kernel_rfl) (by kernel_rfl) (by kernel_rfl) (fun _ _ _ h => h) (Or.inl ⟨by rfl, ?_⟩) (by assumption) ?_
        rotate_left 1
        · intro w' hSw
          go_simp
          all_goals first | with_reducible rfl | (rw [if_neg (by omega)]; done) | (rw [if_pos (by omega)]; done) | (rw [if_neg (by omega)]; with_reducible rfl) | (rw [if_pos (by omega)]; with_reducible rfl)
        try simp only [List.getElem_toArray, List.getElem_cons_zero, List.getElem_cons_succ, Act.put, List.setIfInBounds_toArray, List.set_cons_zero, List.set_cons_succ]
        refine wpAnyH_take (i := 13) (v := ?_) rfl (by kernel_rfl) (by kernel_rfl) (by kernel_rfl) (fun _ _ _ h => h) (Or.inl ⟨by rfl, ?_⟩) (by assumption) ?_
        rotate_left 1
        · intro w' hSw
          have x1 : w'.cell? ⟨w.heap.size, 1, none⟩ = some (.slice (some ⟨b1, o1, none⟩) nk c1) := (B9.out.turn hSw (by omega)).cell 1
          go_simp
          all_goals first | with_reducible rfl | (rw [if_neg (by omega)]; done) | (rw [if_pos (by omega)]; done) | (rw [if_neg (by omega)]; with_reducible rfl) | (rw [if_pos (by omega)]; with_reducible rfl)
        try simp only [List.getElem_toArray, List.getElem_cons_zero, List.getElem_cons_succ, Act.put, List.setIfInBounds_toArray, List.set_cons_zero, List.set_cons_succ]
        refine wpAnyH_take (i := 14) (v := ?_) rfl (by kernel_rfl) (by kernel_rfl) (by kernel_rfl) (fun _ _ _ h => h) (Or.inl ⟨by rfl, ?_⟩) (by assumption) ?_
        rotate_left 1
        · intro w' hSw
          go_simp
          all_goals first | with_reducible rfl | (rw [if_neg (by omega)]; done) | (rw [if_pos (by omega)]; done) | (rw [if_neg (by omega)]; with_reducible rfl) | (rw [if_pos (by omega)]; with_reducible rfl)
        try simp only [List.getElem_toArray, List.getElem_cons_zero, List.getElem_cons_succ, Act.put, List.setIfInBounds_toArray, List.set_cons_zero, List.set_cons_succ]
        refine wpAnyH_ready (rs := [2]) (by kernel_rfl) (by simp) ?_
        refine AllReadyH.cons rfl (fun K hK => ?_) AllReadyH.nil
        refine step_call rfl 45 Try.f45 _ _ rfl Try.func45 (by kernel_rfl) (by kernel_rfl) _ _ (HPA.out X0 0 k (T9.out.trans T0.out) (by omega) (by omega)) (by go_simp) ?_
        rintro v X1 ⟨⟨E1, Ea, E2, Eb, E3, Ec, rfl, hn, hq⟩, ht⟩
        simp only [nv8]
        have T1 := Lib.hid (T0.out.trans ht)
        have hH1 := T1.out.mono (T := (fun k => k = w.heap.size + 1 ∨ k = w.heap.size + 1 + 1)) (fun _ _ h => h.elim)
        have hz1 := ht.size
        have hy1 := T0.out.size
        have B1_1 := Lib.hid (B0_1.out.turn ht (fun h => h))
        have B1_2 := Lib.hid (B0_2.out.turn ht (fun h => h))
        have B1_4 := Lib.hid (B0_4.out.turn ht (fun h => h))
        have hm1_1 := B0_1.out.lt
        have hm1_2 := B0_2.out.lt
        have hm1_4 := B0_4.out.lt
        have F_E := Lib.hid hn
        have Q_E := Lib.hid hq
        have D1_E := Lib.hid (Turn.refl (fun k => k < X0.heap.size) X1)
        have hz_E := T0.out.size
        have hw_E := ht.size
        clear hn hq
        clear T0 hH0 B0_1 B0_2 B0_4 ht
        refine hK.out _ _ hH1 (fun hHeld => ?_)
        clear hK K hHeld
        try simp only [List.getElem_toArray, List.getElem_cons_zero, List.getElem_cons_succ, Act.put, List.setIfInBounds_toArray, List.set_cons_zero, List.set_cons_succ]
        refine wpAnyH_ready (rs := [15]) (by kernel_rfl) (by simp) ?_
        refine AllReadyH.cons rfl (fun K hK => ?_) AllReadyH.nil
        refine step_call rfl 45 Try.f45 _ _ rfl Try.func45 (by kernel_rfl) (by kernel_rfl) _ _ (HPA.out X1 k nk (T9.out.trans T1.out) (by omega) (by omega)) (by go_simp) ?_
        rintro v X2 ⟨⟨G1, Ga, G2, Gb, G3, Gc, rfl, hn, hq⟩, ht⟩
        simp only [nv8]
        have T2 := Lib.hid (T1.out.trans ht)
        have hH2 := T2.out.mono (T := (fun k => k = w.heap.size + 1 ∨ k = w.heap.size + 1 + 1)) (fun _ _ h => h.elim)
        have hz2 := ht.size
        have hy2 := T1.out.size
        have B2_1 := Lib.hid (B1_1.out.turn ht (fun h => h))
        have B2_2 := Lib.hid (B1_2.out.turn ht (fun h => h))
        have B2_4 := Lib.hid (B1_4.out.turn ht (fun h => h))
        have hm2_1 := B1_1.out.lt
        have hm2_2 := B1_2.out.lt
        have hm2_4 := B1_4.out.lt
        have D2_E := Lib.hid (D1_E.out.trans_new (S := fun k => k < X0.heap.size) ht (fun _ _ h => h.elim))
        have F_G := Lib.hid hn
        have Q_G := Lib.hid hq
        have D2_G := Lib.hid (Turn.refl (fun k => k < X1.heap.size) X2)
        have hz_G := T1.out.size
        have hw_G := ht.size
        clear hn hq
        clear D1_E
        clear T1 hH1 B1_1 B1_2 B1_4 ht
        refine hK.out _ _ hH2 (fun hHeld => ?_)
        clear hK K hHeld
        try simp only [List.getElem_toArray, List.getElem_cons_zero, List.getElem_cons_succ, Act.put, List.setIfInBounds_toArray, List.set_cons_zero, List.set_cons_succ]
        refine wpAnyH_ready (rs := [16]) (by kernel_rfl) (by simp) ?_
        refine AllReadyH.cons rfl (fun K hK => ?_) AllReadyH.nil
        have r0 := B2_2.out.cell 0
        have f0 := B2_2.out.free 0
        have r1 := B2_2.out.cell 1
        have f1 := B2_2.out.free 1
        have r2 := B2_2.out.cell 2
        have f2 := B2_2.out.free 2
        have r3 := B2_2.out.cell 3
        have f3 := B2_2.out.free 3
        simp only [List.getElem?_cons_zero, List.getElem?_cons_succ] at r0 r1 r2 r3
        obtain ⟨hb, hs⟩ := put4 B2_2.out (.bool (part8 n 0 k).leaf) (.slice E1 (part8 n 0 k).keys.length Ea) (.slice E2 (part8 n 0 k).vals.length Eb) (.slice E3 (part8 n 0 k).kids.length Ec)
        have hx := T2.out.size
        have hS := (T2.out.mono (T := (fun k => k = w.heap.size + 1 ∨ k = w.heap.size + 1 + 1)) (fun _ _ h => h.elim)).trans_new (S := (fun k => k = w.heap.size + 1 ∨ k = w.heap.size + 1 + 1)) hs (fun k hk e => by omega)
        go_simp
        refine hK.out _ _ hS (fun hHeld => ?_)
        clear hK K
        try simp only [List.getElem_toArray, List.getElem_cons_zero, List.getElem_cons_succ, Act.put, List.setIfInBounds_toArray, List.set_cons_zero, List.set_cons_succ]
        refine wpAnyH_named (fun X3 e => ?_)
        clear hHeld
        have T3 := Lib.hid (e ▸ hS)
        have hH3 := T3.out
        have B3_2 := Lib.hid (e ▸ hb)
        rw [← e] at hs
        have B3_1 := Lib.hid (B2_1.out.turn hs (by omega))
        have B3_4 := Lib.hid (B2_4.out.turn hs (by omega))
        have D3_E := Lib.hid (D2_E.out.trans_new (S := fun k => k < X0.heap.size) hs (fun k hk e => by omega))
        clear D2_E
        have D3_G := Lib.hid (D2_G.out.trans_new (S := fun k => k < X1.heap.size) hs (fun k hk e => by omega))
        clear D2_G
        clear T2 hH2 B2_1 B2_2 B2_4 r0 f0 r1 f1 r2 f2 r3 f3 hS hb hs e
        refine wpAnyH_take (i := 17) (v := ?_) rfl (by kernel_rfl) (by kernel_rfl) (by kernel_rfl) (fun _ _ _ h => h) (Or.inl ⟨by rfl, ?_⟩) (by assumption) ?_
        rotate_left 1
        · intro w' hSw
          go_simp
          all_goals first | with_reducible rfl | (rw [if_neg (by omega)]; done) | (rw [if_pos (by omega)]; done) | (rw [if_neg (by omega)]; with_reducible rfl) | (rw [if_pos (by omega)]; with_reducible rfl)
        try simp only [List.getElem_toArray, List.getElem_cons_zero, List.getElem_cons_succ, Act.put, List.setIfInBounds_toArray, List.set_cons_zero, List.set_cons_succ]
        refine wpAnyH_ready (rs := [18]) (by kernel_rfl) (by simp) ?_
        refine AllReadyH.cons rfl (fun K hK => ?_) AllReadyH.nil
        have r0 := B3_4.out.cell 0
        have f0 := B3_4.out.free 0
        have r1 := B3_4.out.cell 1
        have f1 := B3_4.out.free 1
        have r2 := B3_4.out.cell 2
        have f2 := B3_4.out.free 2
        have r3 := B3_4.out.cell 3
        have f3 := B3_4.out.free 3
        simp only [List.getElem?_cons_zero, List.getElem?_cons_succ] at r0 r1 r2 r3
        obtain ⟨hb, hs⟩ := put4 B3_4.out (.bool (part8 n k nk).leaf) (.slice G1 (part8 n k nk).keys.length Ga) (.slice G2 (part8 n k nk).vals.length Gb) (.slice G3 (part8 n k nk).kids.length Gc)
        have hx := T3.out.size
        have hS := (T3.out).trans_new (S := (fun k => k = w.heap.size + 1 ∨ k = w.heap.size + 1 + 1)) hs (fun k hk e => by omega)
        go_simp
        refine hK.out _ _ hS (fun hHeld => ?_)
        clear hK K
        try simp only [List.getElem_toArray, List.getElem_cons_zero, List.getElem_cons_succ, Act.put, List.setIfInBounds_toArray, List.set_cons_zero, List.set_cons_succ]
        refine wpAnyH_named (fun X4 e => ?_)
        clear hHeld
        have T4 := Lib.hid (e ▸ hS)
        have hH4 := T4.out
        have B4_4 := Lib.hid (e ▸ hb)
        rw [← e] at hs
        have B4_1 := Lib.hid (B3_1.out.turn hs (by omega))
        have B4_2 := Lib.hid (B3_2.out.turn hs (by omega))
        have D4_E := Lib.hid (D3_E.out.trans_new (S := fun k => k < X0.heap.size) hs (fun k hk e => by omega))
        clear D3_E
        have D4_G := Lib.hid (D3_G.out.trans_new (S := fun k => k < X1.heap.size) hs (fun k hk e => by omega))
        clear D3_G
        clear T3 hH3 B3_1 B3_2 B3_4 r0 f0 r1 f1 r2 f2 r3 f3 hS hb hs e
        refine wpAnyH_take (i := 19) (v := ?_) rfl (by kernel_rfl) (by kernel_rfl) (by kernel_rfl) (fun _ _ _ h => h) (Or.inl ⟨by rfl, ?_⟩) (by assumption) ?_
        rotate_left 1
        · intro w' hSw
          go_simp
          all_goals first | with_reducible rfl | (rw [if_neg (by omega)]; done) | (rw [if_pos (by omega)]; done) | (rw [if_neg (by omega)]; with_reducible rfl) | (rw [if_pos (by omega)]; with_reducible rfl)
        try simp only [List.getElem_toArray, List.getElem_cons_zero, List.getElem_cons_succ, Act.put, List.setIfInBounds_toArray, List.set_cons_zero, List.set_cons_succ]
        refine wpAnyH_done (by kernel_rfl) ?_ _
        refine NoPanic.normal ?_
        go_wp2_with fail
        have d0 := B4_2.out.cell 0
        have e0 := B4_4.out.cell 0
        have d1 := B4_2.out.cell 1
        have e1 := B4_4.out.cell 1
        have d2 := B4_2.out.cell 2
        have e2 := B4_4.out.cell 2
        have d3 := B4_2.out.cell 3
        have e3 := B4_4.out.cell 3
        simp only [List.getElem?_cons_zero, List.getElem?_cons_succ] at d0 d1 d2 d3 e0 e1 e2 e3
        have htt := T9.out.trans_new T4.out (fun k hk e => by omega)
        have hnE := F_E.out _ D4_E.out
        have hnG := F_G.out _ D4_G.out
        exact bodyPost_ret (v := .tuple #[.agg #[(.bool (part8 n 0 k).leaf), (.slice E1 (part8 n 0 k).keys.length Ea), (.slice E2 (part8 n 0 k).vals.length Eb), (.slice E3 (part8 n 0 k).kids.length Ec)], .string (key8 n.keys k), .agg #[(.bool (part8 n k nk).leaf), (.slice G1 (part8 n k nk).keys.length Ga), (.slice G2 (part8 n k nk).vals.length Gb), (.slice G3 (part8 n k nk).kids.length Gc)], .bool true]) (by simp [results, Try.results21, go_sem, d0, d1, d2, d3, e0, e1, e2, e3]) rfl ⟨k, _, _, rfl, HKS2.out, ⟨E1, Ea, E2, Eb, E3, Ec, rfl, hnE, Q_E.out⟩, ⟨G1, Ga, G2, Gb, G3, Gc, rfl, hnG, Q_G.out⟩, htt⟩

end Go.Proofs.Ytpnnbfojdccfhaa
