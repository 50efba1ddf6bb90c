/- The document's Compare, and the walk of ambrylaw02.TupleCompares. -/
import Derived.Test.YtcebhoilokmhdaaTupRefB
import Derived.StillTailTactics
namespace Go.Proofs.Ytcebhoilokmhdaa
open Go.RowKit
set_option linter.unusedVariables false

theorem ahead_v (p q : Pt) (r : Bool) (hr : ahB p q = r) (hs : p.s.size ≤ 140737488351232) (ht : q.s.size ≤ 140737488351232) (w : World) :
    Calls Try.prog 76 #[.agg #[.int .i64 p.k, .int .i64 p.n, .string p.s], .agg #[.int .i64 q.k, .int .i64 q.n, .string q.s]] w fun e w' => e = .returned (.bool r) ∧ Below w.heap.size w w' := by
  subst hr; exact ahead_any p q hs ht w

set_option maxRecDepth 100000 in
set_option maxHeartbeats 2000000 in
theorem refCompare_ok (va vb : Value) (a b : List Pt) (w : World) (ha : Parts w w.heap.size va a) (hb : Parts w w.heap.size vb b) (hca : chk a = 0) (hcb : chk b = 0) :
    Calls Try.prog 44 #[va, vb] w fun e w' => e = .returned (.tuple #[.int .i64 (cmpL a b), .int .i64 0]) ∧ Below w.heap.size w w' := by
  have HRG := Lib.hid (rgt_of hca ha.fine)
  have HRH := Lib.hid (rgt_of hcb hb.fine)
  have HPA := Lib.hid ha
  have HPB := Lib.hid hb
  obtain ⟨A, capA, rfl, hra, hma, hla⟩ := ha
  obtain ⟨B, capB, rfl, hrb, hmb, hlb⟩ := hb
  have HRA := Lib.hid hra
  have HRB := Lib.hid hrb
  have HMA := Lib.hid hma
  have HMB := Lib.hid hmb
  have HCA := Lib.hid hca
  have HCB := Lib.hid hcb
  clear hra hrb hma hmb hca hcb
  go_enter Try.func44, Try.ntmps44
  go_wp2_with (first
    | (go_at_call_of 38 (Value.slice A a.length capA); refine (refCheck_any _ a _ HPA.out).mono ?_; rintro e w1 ⟨rfl, hb1⟩; rw [HCA.out])
    | (go_at_call_of 38 (Value.slice B b.length capB); refine (refCheck_any _ b _ (HPB.out.at_ hb1)).mono ?_; rintro e w2 ⟨rfl, hb2⟩; rw [HCB.out]; have hb12 := bthen hb1 hb1.size hb2; clear hb2 hb1))
  have HB12 := Lib.hid hb12
  clear hb12
  go_loopw [8] (fun i wr => ∃ j : Nat, j ≤ a.length ∧ j ≤ b.length ∧ i = .int .i64 j ∧ cmpL a b = cmpL (a.drop j) (b.drop j) ∧ Below w.heap.size w wr) (fun i _ => a.length - (intOf i).toNat)
  case atStart => exact ⟨0, Nat.zero_le _, Nat.zero_le _, rfl, rfl, HB12.out⟩
  case round =>
    obtain ⟨j, hja, hjb, rfl, hc, hbw⟩ := hrel
    have HC := Lib.hid hc
    clear hc
    by_cases hlt : j < a.length
    · by_cases hlt2 : j < b.length
      · obtain ⟨ad, rfl, hsp, hbk, hcell⟩ := HRA.out (by omega)
        obtain ⟨b1, off, spot⟩ := ad
        obtain rfl : spot = none := hsp
        obtain ⟨p, hp⟩ : ∃ p, a[j]? = some p := ⟨_, List.getElem?_eq_getElem hlt⟩
        obtain ⟨h0, h1, h2⟩ := hcell j p hp
        have c0 : wr.cell? ⟨b1, off + j * 3, none⟩ = some (.int .i64 p.k) := (hbw.cell (p := ⟨b1, off + j * 3, none⟩) hbk).trans h0
        have c1 : wr.cell? ⟨b1, off + j * 3 + 1, none⟩ = some (.int .i64 p.n) := (hbw.cell (p := ⟨b1, off + j * 3 + 1, none⟩) hbk).trans h1
        have c2 : wr.cell? ⟨b1, off + j * 3 + 2, none⟩ = some (.string p.s) := (hbw.cell (p := ⟨b1, off + j * 3 + 2, none⟩) hbk).trans h2
        have HP := Lib.hid hp
        have hbs : b1 < wr.heap.size := Nat.lt_of_lt_of_le hbk hbw.size
        have HPM := Lib.hid (HMA.out p (List.mem_of_getElem? hp)).1
        have hrp := HRG.out p (List.mem_of_getElem? hp)
        clear hcell h0 h1 h2 hp
        obtain ⟨ad, rfl, hsp, hbk2, hcell⟩ := HRB.out (by omega)
        obtain ⟨b2, off2, spot⟩ := ad
        obtain rfl : spot = none := hsp
        obtain ⟨q, hq⟩ : ∃ q, b[j]? = some q := ⟨_, List.getElem?_eq_getElem hlt2⟩
        obtain ⟨h0, h1, h2⟩ := hcell j q hq
        have d0 : wr.cell? ⟨b2, off2 + j * 3, none⟩ = some (.int .i64 q.k) := (hbw.cell (p := ⟨b2, off2 + j * 3, none⟩) hbk2).trans h0
        have d1 : wr.cell? ⟨b2, off2 + j * 3 + 1, none⟩ = some (.int .i64 q.n) := (hbw.cell (p := ⟨b2, off2 + j * 3 + 1, none⟩) hbk2).trans h1
        have d2 : wr.cell? ⟨b2, off2 + j * 3 + 2, none⟩ = some (.string q.s) := (hbw.cell (p := ⟨b2, off2 + j * 3 + 2, none⟩) hbk2).trans h2
        have hbs2 : b2 < wr.heap.size := Nat.lt_of_lt_of_le hbk2 hbw.size
        have HQM := Lib.hid (HMB.out q (List.mem_of_getElem? hq)).1
        have hrq := HRH.out q (List.mem_of_getElem? hq)
        have HD := Lib.hid (cmpL_drop HP.out hq)
        clear hcell h0 h1 h2 hq
        have hj0 : (0 : Int) ≤ j := by omega
        have hi1 : (j : Int) < a.length := by omega
        have hi2 : (j : Int) < b.length := by omega
        have hz := hbw.size
        have hcase := ah_cp p q hrp hrq
        clear hrp hrq
        rcases hcase with ⟨e1, e2⟩ | ⟨e1, e2, e3⟩ | ⟨e1, e2, e3⟩
        · rw [e1] at HD
          have H2 := Lib.hid e2
          clear e1 e2
          go_wp2
          refine wp_region_still_tail 8 (by kernel_rfl) (by kernel_rfl) ?_
          simp only [List.take_succ_cons, List.take_zero, List.drop_succ_cons, List.drop_zero]
          change wpStill _ _ (World.drew _) _ _ _
          repeat still_step
          refine wpStill_nil ?_
          change wpList _ _ _ _ _ (World.drew _)
          go_wp2_with (go_at_call 76; refine (ahead_v p q true H2.out HPM.out HQM.out _).mono ?_; rintro e w3 ⟨rfl, hb3⟩)
          go_ret2
          rw [HC.out, HD.out]
          exact ⟨rfl, hbw.drew.trans (hb3.mono hz)⟩
        · rw [e1] at HD
          have H2 := Lib.hid e2
          have H3 := Lib.hid e3
          clear e1 e2 e3
          go_wp2
          refine wp_region_still_tail 8 (by kernel_rfl) (by kernel_rfl) ?_
          simp only [List.take_succ_cons, List.take_zero, List.drop_succ_cons, List.drop_zero]
          change wpStill _ _ (World.drew _) _ _ _
          repeat still_step
          refine wpStill_nil ?_
          change wpList _ _ _ _ _ (World.drew _)
          go_wp2_with (go_at_call 76; refine (ahead_v p q false H2.out HPM.out HQM.out _).mono ?_; rintro e w3 ⟨rfl, hb3⟩)
          have hb13 : Below w.heap.size w w3 := hbw.drew.trans (hb3.mono hz)
          have hc1 : ∀ o, w3.cell? ⟨b1, o, none⟩ = wr.cell? ⟨b1, o, none⟩ := fun o => hb3.cell (p := ⟨b1, o, none⟩) hbs
          have hc2 : ∀ o, w3.cell? ⟨b2, o, none⟩ = wr.cell? ⟨b2, o, none⟩ := fun o => hb3.cell (p := ⟨b2, o, none⟩) hbs2
          rw [← hc1] at c0 c1 c2
          rw [← hc2] at d0 d1 d2
          clear hc1 hc2 hb3
          refine wp_region_still_tail 8 (by kernel_rfl) (by kernel_rfl) ?_
          simp only [List.take_succ_cons, List.take_zero, List.drop_succ_cons, List.drop_zero]
          change wpStill _ _ (World.drew _) _ _ _
          repeat still_step
          refine wpStill_nil ?_
          change wpList _ _ _ _ _ (World.drew _)
          go_wp2_with (go_at_call 76; refine (ahead_v q p false H3.out HQM.out HPM.out _).mono ?_; rintro e w4 ⟨rfl, hb4⟩)
          go_roundw
          case rel => exact ⟨j + 1, by omega, by omega, by go_num, by rw [HC.out, HD.out]; rfl, hb13.drew.trans (hb4.mono hb13.size)⟩
          case measure => simp [intOf]; omega
        · rw [e1] at HD
          have H2 := Lib.hid e2
          have H3 := Lib.hid e3
          clear e1 e2 e3
          go_wp2
          refine wp_region_still_tail 8 (by kernel_rfl) (by kernel_rfl) ?_
          simp only [List.take_succ_cons, List.take_zero, List.drop_succ_cons, List.drop_zero]
          change wpStill _ _ (World.drew _) _ _ _
          repeat still_step
          refine wpStill_nil ?_
          change wpList _ _ _ _ _ (World.drew _)
          go_wp2_with (go_at_call 76; refine (ahead_v p q false H2.out HPM.out HQM.out _).mono ?_; rintro e w3 ⟨rfl, hb3⟩)
          have hb13 : Below w.heap.size w w3 := hbw.drew.trans (hb3.mono hz)
          have hc1 : ∀ o, w3.cell? ⟨b1, o, none⟩ = wr.cell? ⟨b1, o, none⟩ := fun o => hb3.cell (p := ⟨b1, o, none⟩) hbs
          have hc2 : ∀ o, w3.cell? ⟨b2, o, none⟩ = wr.cell? ⟨b2, o, none⟩ := fun o => hb3.cell (p := ⟨b2, o, none⟩) hbs2
          rw [← hc1] at c0 c1 c2
          rw [← hc2] at d0 d1 d2
          clear hc1 hc2 hb3
          refine wp_region_still_tail 8 (by kernel_rfl) (by kernel_rfl) ?_
          simp only [List.take_succ_cons, List.take_zero, List.drop_succ_cons, List.drop_zero]
          change wpStill _ _ (World.drew _) _ _ _
          repeat still_step
          refine wpStill_nil ?_
          change wpList _ _ _ _ _ (World.drew _)
          go_wp2_with (go_at_call 76; refine (ahead_v q p true H3.out HQM.out HPM.out _).mono ?_; rintro e w4 ⟨rfl, hb4⟩)
          go_ret2
          rw [HC.out, HD.out]
          exact ⟨rfl, hb13.drew.trans (hb4.mono hb13.size)⟩
      · have HD := Lib.hid (cmpL_left hlt (by omega : b.length ≤ j))
        have h3 : ¬ (a.length : Int) < b.length := by omega
        have h4 : (b.length : Int) < a.length := by omega
        have h5 : ¬ (j : Int) < b.length := by omega
        have h6 : (j : Int) < a.length := by omega
        clear hlt hlt2
        go_wp2
        go_ret2
        rw [HC.out, HD.out]
        exact ⟨rfl, hbw⟩
    · by_cases hlt2 : j < b.length
      · have HD := Lib.hid (cmpL_right hlt2 (by omega : a.length ≤ j))
        have h3 : (a.length : Int) < b.length := by omega
        have h6 : ¬ (j : Int) < a.length := by omega
        clear hlt hlt2
        go_wp2
        go_ret2
        rw [HC.out, HD.out]
        exact ⟨rfl, hbw⟩
      · have HD := Lib.hid (cmpL_end (by omega : b.length ≤ j) (by omega : a.length ≤ j))
        have h3 : ¬ (a.length : Int) < b.length := by omega
        have h4 : ¬ (b.length : Int) < a.length := by omega
        have h6 : ¬ (j : Int) < a.length := by omega
        clear hlt hlt2
        go_wp2
        go_ret2
        rw [HC.out, HD.out]
        exact ⟨rfl, hbw⟩

theorem refCompare_any (va vb : Value) (a b : List Pt) (w : World) (ha : Parts w w.heap.size va a) (hb : Parts w w.heap.size vb b) (m f : Int) (hm : cmpA a b = m) (hf : cmpE a b = f) :
    Calls Try.prog 44 #[va, vb] w fun e w' => e = .returned (.tuple #[.int .i64 m, .int .i64 f]) ∧ Below w.heap.size w w' := by
  subst hm hf
  have HA := Lib.hid ha
  have HB := Lib.hid hb
  unfold cmpA cmpE
  by_cases hca : chk a = 0
  · by_cases hcb : chk b = 0
    · rw [if_pos ⟨hca, hcb⟩, if_pos hca, hcb]
      exact refCompare_ok va vb a b w ha hb hca hcb
    · rw [if_neg (fun h => hcb h.2), if_pos hca]
      obtain ⟨c, hcc⟩ : ∃ c, chk b = c := ⟨_, rfl⟩
      rw [hcc] at hcb ⊢
      have h1 : (c == 0) = false := by simpa using hcb
      have h2 : (c != 0) = true := by simpa using hcb
      have HCA := Lib.hid hca
      have HCB := Lib.hid hcc
      clear hca hcb hcc ha hb
      go_enter Try.func44, Try.ntmps44
      go_wp2_with (first
        | (go_at_call_of 38 va; refine (refCheck_any va a _ HA.out).mono ?_; rintro e w1 ⟨rfl, hb1⟩; rw [HCA.out])
        | (go_at_call_of 38 vb; refine (refCheck_any vb b _ (HB.out.at_ hb1)).mono ?_; rintro e w2 ⟨rfl, hb2⟩; rw [HCB.out]))
      go_ret2
      exact ⟨rfl, bthen hb1 hb1.size hb2⟩
  · rw [if_neg (fun h => hca h.1), if_neg hca]
    obtain ⟨c, hcc⟩ : ∃ c, chk a = c := ⟨_, rfl⟩
    rw [hcc] at hca ⊢
    have h1 : (c == 0) = false := by simpa using hca
    have h2 : (c != 0) = true := by simpa using hca
    have HCA := Lib.hid hcc
    clear hca hcc ha hb
    go_enter Try.func44, Try.ntmps44
    go_wp2_with (go_at_call 38; refine (refCheck_any va a _ HA.out).mono ?_; rintro e w1 ⟨rfl, hb1⟩; rw [HCA.out])
    go_ret2
    exact ⟨rfl, hb1⟩

set_option maxRecDepth 100000 in
set_option maxHeartbeats 1000000 in
theorem tupleCompares_walk (va : Value) (a : List Pt) (vb : Value) (b : List Pt) (w : World) (ha : Parts w w.heap.size va a) (hb : Parts w w.heap.size vb b) :
    Calls Try.prog 11 #[va, vb] w fun e w' => e = .returned (.bool true) ∧ Below w.heap.size w w' := by
  have HPA := Lib.hid ha
  have HPB := Lib.hid hb
  obtain ⟨A, capA, rfl, hra⟩ := ha
  obtain ⟨B, capB, rfl, hrb⟩ := hb
  clear hra hrb
  by_cases hla : (1000 : Int) < a.length
  · go_enter Try.func11, Try.ntmps11
    go_wp2_with (go_at_call 34; refine (lives2_any _).mono ?_; rintro e w4 ⟨rfl, hl⟩)
    go_ret
    exact ⟨rfl, hl⟩
  by_cases hlb : (1000 : Int) < b.length
  · go_enter Try.func11, Try.ntmps11
    go_wp2_with (go_at_call 34; refine (lives2_any _).mono ?_; rintro e w4 ⟨rfl, hl⟩)
    go_ret
    exact ⟨rfl, hl⟩
  obtain ⟨m, hm⟩ : ∃ m, cmpA a b = m := ⟨_, rfl⟩
  obtain ⟨f, hf⟩ : ∃ f, cmpE a b = f := ⟨_, rfl⟩
  have HM := Lib.hid hm
  have HF := Lib.hid hf
  clear hm hf
  go_enter Try.func11, Try.ntmps11
  go_wp2_with (first
    | (go_at_call 43; refine (compare_any _ _ a b _ HPA.out HPB.out).mono ?_; rintro e w1 ⟨rfl, hb1⟩; rw [HM.out, HF.out])
    | (go_at_call 44; refine (refCompare_any _ _ a b _ (HPA.out.at_ hb1) (HPB.out.at_ hb1) m f HM.out HF.out).mono ?_; rintro e w2 ⟨rfl, hb2⟩; have hb12 := bthen hb1 hb1.size hb2; clear hb2)
    | (go_at_call 34; refine (lives2_any _).mono ?_; rintro e w4 ⟨rfl, hl⟩))
  go_ret
  exact ⟨rfl, bthen hb12 hb12.size hl⟩
end Go.Proofs.Ytcebhoilokmhdaa
