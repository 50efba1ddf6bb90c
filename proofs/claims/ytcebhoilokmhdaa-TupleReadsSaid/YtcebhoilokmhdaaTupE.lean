/- Layer 2: slices.CompareFunc at parts, Compare, Behind, and the law's examples. -/
import Derived.Test.YtcebhoilokmhdaaTupD
namespace Go.Proofs.Ytcebhoilokmhdaa
open Go.RowKit
set_option linter.unusedVariables false

/-- How two keys stand, part by part. -/
def cmpL : List Pt → List Pt → Int
  | [], [] => 0
  | [], _ :: _ => -1
  | _ :: _, [] => 1
  | p :: a, q :: b => if cp p q = 0 then cmpL a b else cp p q
theorem cmpL_drop {a b : List Pt} {j : Nat} {p q : Pt} (hp : a[j]? = some p) (hq : b[j]? = some q) : cmpL (a.drop j) (b.drop j) = if cp p q = 0 then cmpL (a.drop (j + 1)) (b.drop (j + 1)) else cp p q := by
  obtain ⟨h1, e1⟩ := List.getElem?_eq_some_iff.1 hp
  obtain ⟨h2, e2⟩ := List.getElem?_eq_some_iff.1 hq
  rw [List.drop_eq_getElem_cons h1, List.drop_eq_getElem_cons h2, e1, e2]
  rfl
theorem cmpL_left {a b : List Pt} {j : Nat} (h1 : j < a.length) (h2 : b.length ≤ j) : cmpL (a.drop j) (b.drop j) = 1 := by
  rw [List.drop_eq_getElem_cons h1, List.drop_eq_nil_of_le h2]; rfl
theorem cmpL_right {a b : List Pt} {j : Nat} (h1 : j < b.length) (h2 : a.length ≤ j) : cmpL (a.drop j) (b.drop j) = -1 := by
  rw [List.drop_eq_getElem_cons h1, List.drop_eq_nil_of_le h2]; rfl
theorem cmpL_end {a b : List Pt} {j : Nat} (h1 : b.length ≤ j) (h2 : a.length ≤ j) : cmpL (a.drop j) (b.drop j) = 0 := by
  rw [List.drop_eq_nil_of_le h1, List.drop_eq_nil_of_le h2]; rfl

set_option maxRecDepth 100000 in
set_option maxHeartbeats 1000000 in
theorem compareFunc_any (va vb : Value) (a b : List Pt) (w : World) (ha : Parts w w.heap.size va a) (hb : Parts w w.heap.size vb b) :
    Calls Try.prog 74 #[va, vb, .func (.func 75) #[] #[]] w fun e w' => e = .returned (.int .i64 (cmpL a b)) ∧ Below w.heap.size w w' := by
  obtain ⟨A, capA, rfl, hra, hma, hla⟩ := ha
  obtain ⟨B, capB, rfl, hrb, hmb, hlb⟩ := hb
  have HRA := Lib.hid hra
  have HRB := Lib.hid hrb
  have HMA := Lib.hid hma
  have HMB := Lib.hid hmb
  clear hra hrb hma hmb
  go_enter Try.func74, Try.ntmps74
  go_wp2
  go_loopw [13] (fun i wr => ∃ j : Nat, j ≤ a.length ∧ j ≤ b.length ∧ i = .int .i64 j ∧ cmpL a b = cmpL (a.drop j) (b.drop j) ∧ Below w.heap.size w wr) (fun i _ => a.length - (intOf i).toNat)
  case atStart => exact ⟨0, Nat.zero_le _, Nat.zero_le _, rfl, rfl, Below.refl _ _⟩
  case round =>
    obtain ⟨j, hja, hjb, rfl, hc, hbw⟩ := hrel
    have HC := Lib.hid hc
    clear hc
    by_cases hlt : j < a.length
    · obtain ⟨ad, rfl, hsp, hbk, hcell⟩ := HRA.out (by omega)
      obtain ⟨b1, off, spot⟩ := ad
      obtain rfl : spot = none := hsp
      obtain ⟨p, hp⟩ : ∃ p, a[j]? = some p := ⟨_, List.getElem?_eq_getElem hlt⟩
      obtain ⟨h0, h1, h2⟩ := hcell j p hp
      have c0 : wr.cell? ⟨b1, off + j * 3, none⟩ = some (.int .i64 p.k) := (hbw.cell (p := ⟨b1, off + j * 3, none⟩) hbk).trans h0
      have c1 : wr.cell? ⟨b1, off + j * 3 + 1, none⟩ = some (.int .i64 p.n) := (hbw.cell (p := ⟨b1, off + j * 3 + 1, none⟩) hbk).trans h1
      have c2 : wr.cell? ⟨b1, off + j * 3 + 2, none⟩ = some (.string p.s) := (hbw.cell (p := ⟨b1, off + j * 3 + 2, none⟩) hbk).trans h2
      have HP := Lib.hid hp
      have hbs : b1 < wr.heap.size := Nat.lt_of_lt_of_le hbk hbw.size
      have HPM := Lib.hid (HMA.out p (List.mem_of_getElem? hp))
      clear hcell h0 h1 h2 hp hbk
      by_cases hlt2 : j < b.length
      · obtain ⟨ad, rfl, hsp, hbk, hcell⟩ := HRB.out (by omega)
        obtain ⟨b2, off2, spot⟩ := ad
        obtain rfl : spot = none := hsp
        obtain ⟨q, hq⟩ : ∃ q, b[j]? = some q := ⟨_, List.getElem?_eq_getElem hlt2⟩
        obtain ⟨h0, h1, h2⟩ := hcell j q hq
        have d0 : wr.cell? ⟨b2, off2 + j * 3, none⟩ = some (.int .i64 q.k) := (hbw.cell (p := ⟨b2, off2 + j * 3, none⟩) hbk).trans h0
        have d1 : wr.cell? ⟨b2, off2 + j * 3 + 1, none⟩ = some (.int .i64 q.n) := (hbw.cell (p := ⟨b2, off2 + j * 3 + 1, none⟩) hbk).trans h1
        have d2 : wr.cell? ⟨b2, off2 + j * 3 + 2, none⟩ = some (.string q.s) := (hbw.cell (p := ⟨b2, off2 + j * 3 + 2, none⟩) hbk).trans h2
        have hbs2 : b2 < wr.heap.size := Nat.lt_of_lt_of_le hbk hbw.size
        have HQM := Lib.hid (HMB.out q (List.mem_of_getElem? hq))
        have HD := Lib.hid (cmpL_drop HP.out hq)
        clear hcell h0 h1 h2 hq hbk
        have hz := hbw.size
        obtain ⟨c, hcp⟩ : ∃ c, cp p q = c := ⟨_, rfl⟩
        have HCP := Lib.hid hcp
        rw [hcp] at HD
        clear hcp
        by_cases hc0 : c = 0
        · subst hc0
          go_wp2_with (go_at_call 75; refine (compareParts_any p q HPM.out.2.1 HPM.out.2.2 HQM.out.2.1 HQM.out.2.2 _).mono ?_; rintro e w1 ⟨rfl, hb1⟩; rw [HCP.out])
          go_roundw
          case rel =>
            refine ⟨j + 1, by omega, by omega, by go_num, by rw [HC.out, HD.out]; rfl, ?_⟩
            exact ((hbw.alloc hz _).alloc (by simp; omega) _).trans (hb1.mono (by simp; omega))
          case measure => simp [intOf]; omega
        · have hq1 : (c == 0) = false := by simpa using hc0
          have hq2 : (c != 0) = true := by simpa using hc0
          have HC0 := Lib.hid hc0
          clear hc0
          go_wp2_with (go_at_call 75; refine (compareParts_any p q HPM.out.2.1 HPM.out.2.2 HQM.out.2.1 HQM.out.2.2 _).mono ?_; rintro e w1 ⟨rfl, hb1⟩; rw [HCP.out])
          go_ret
          rw [HC.out, HD.out, if_neg HC0.out]
          exact ⟨rfl, ((hbw.alloc hz _).alloc (by simp; omega) _).trans (hb1.mono (by simp; omega))⟩
      · have HD := Lib.hid (cmpL_left hlt (by omega : b.length ≤ j))
        go_wp2
        go_ret
        rw [HC.out, HD.out]
        exact ⟨rfl, hbw.alloc hbw.size _⟩
    · by_cases hlt2 : j < b.length
      · have HD := Lib.hid (cmpL_right hlt2 (by omega : a.length ≤ j))
        have h3 : (a.length : Int) < b.length := by omega
        go_wp2
        go_ret
        rw [HC.out, HD.out]
        exact ⟨rfl, hbw⟩
      · have HD := Lib.hid (cmpL_end (by omega : b.length ≤ j) (by omega : a.length ≤ j))
        have h3 : ¬ (a.length : Int) < b.length := by omega
        go_wp2
        go_ret
        rw [HC.out, HD.out]
        exact ⟨rfl, hbw⟩

/-- Compare's answer. -/
def cmpA (a b : List Pt) : Int := if chk a = 0 ∧ chk b = 0 then cmpL a b else 0
def cmpE (a b : List Pt) : Int := if chk a = 0 then chk b else chk a
theorem compare_any (va vb : Value) (a b : List Pt) (w : World) (ha : Parts w w.heap.size va a) (hb : Parts w w.heap.size vb b) :
    Calls Try.prog 43 #[va, vb] w fun e w' => e = .returned (.tuple #[.int .i64 (cmpA a b), .int .i64 (cmpE a b)]) ∧ Below w.heap.size w w' := by
  have HA := Lib.hid ha
  have HB := Lib.hid hb
  clear ha hb
  unfold cmpA cmpE
  by_cases hca : chk a = 0
  · by_cases hcb : chk b = 0
    · rw [if_pos ⟨hca, hcb⟩, if_pos hca, hcb]
      have HCA := Lib.hid hca
      have HCB := Lib.hid hcb
      clear hca hcb
      go_enter Try.func43, Try.ntmps43
      go_wp2_with (first
        | (go_at_call_of 37 va; refine (check_any va a _ HA.out).mono ?_; rintro e w1 ⟨rfl, hb1⟩; rw [HCA.out])
        | (go_at_call_of 37 vb; refine (check_any vb b _ (HB.out.below hb1 (Nat.le_refl _) |>.more hb1.size)).mono ?_; rintro e w2 ⟨rfl, hb2⟩; rw [HCB.out]; have hb12 := bthen hb1 hb1.size hb2; clear hb2)
        | (go_at_call 74; refine (compareFunc_any va vb a b _ (HA.out.below hb12 (Nat.le_refl _) |>.more hb12.size) (HB.out.below hb12 (Nat.le_refl _) |>.more hb12.size)).mono ?_; rintro e w3 ⟨rfl, hb3⟩))
      go_ret2
      exact ⟨rfl, bthen hb12 hb12.size hb3⟩
    · rw [if_neg (fun h => hcb h.2), if_pos hca]
      obtain ⟨c, hcc⟩ : ∃ c, chk b = c := ⟨_, rfl⟩
      rw [hcc] at hcb ⊢
      have h1 : (c == 0) = false := by simpa using hcb
      have h2 : (c != 0) = true := by simpa using hcb
      have HCA := Lib.hid hca
      have HCB := Lib.hid hcc
      clear hca hcb hcc
      go_enter Try.func43, Try.ntmps43
      go_wp2_with (first
        | (go_at_call_of 37 va; refine (check_any va a _ HA.out).mono ?_; rintro e w1 ⟨rfl, hb1⟩; rw [HCA.out])
        | (go_at_call_of 37 vb; refine (check_any vb b _ (HB.out.below hb1 (Nat.le_refl _) |>.more hb1.size)).mono ?_; rintro e w2 ⟨rfl, hb2⟩; rw [HCB.out]))
      go_ret2
      exact ⟨rfl, bthen hb1 hb1.size hb2⟩
  · rw [if_neg (fun h => hca h.1), if_neg hca]
    obtain ⟨c, hcc⟩ : ∃ c, chk a = c := ⟨_, rfl⟩
    rw [hcc] at hca ⊢
    have h1 : (c == 0) = false := by simpa using hca
    have h2 : (c != 0) = true := by simpa using hca
    have HCA := Lib.hid hcc
    clear hca hcc
    go_enter Try.func43, Try.ntmps43
    go_wp2_with (go_at_call 37; refine (check_any va a _ HA.out).mono ?_; rintro e w1 ⟨rfl, hb1⟩; rw [HCA.out])
    go_ret2
    exact ⟨rfl, hb1⟩
end Go.Proofs.Ytcebhoilokmhdaa
