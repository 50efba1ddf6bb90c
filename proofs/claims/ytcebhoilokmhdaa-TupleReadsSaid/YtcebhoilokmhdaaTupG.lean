/- Layer 2: ref.Same, begins, Behind. -/
import Derived.Test.YtcebhoilokmhdaaTupleOrderW
import Derived.Laws.StructEq
namespace Go.Proofs.Ytcebhoilokmhdaa
open Go.RowKit
set_option linter.unusedVariables false

theorem pt_ne {p q : Pt} (h : p ≠ q) : ((p.k == q.k) = false) ∨ (p.k = q.k ∧ (p.n == q.n) = false) ∨ (p.k = q.k ∧ p.n = q.n ∧ (p.s.toList == q.s.toList) = false) := by
  obtain ⟨k, n, s⟩ := p
  obtain ⟨k', n', s'⟩ := q
  simp only
  by_cases hk : k = k'
  · by_cases hn : n = n'
    · refine .inr (.inr ⟨hk, hn, ?_⟩)
      simp only [ByteArray.toList_eq, beq_eq_false_iff_ne, ne_eq]
      intro hs
      apply h
      subst hk hn
      congr
      apply ByteArray.ext
      exact Array.toList_inj.1 hs
    · exact .inr (.inl ⟨hk, by simpa using hn⟩)
  · exact .inl (by simpa using hk)
theorem take_ext {α : Type} {a b : List α} {j : Nat} {x : α} (h : a.take j = b.take j) (ha : a[j]? = some x) (hb : b[j]? = some x) : a.take (j + 1) = b.take (j + 1) := by
  rw [List.take_add_one, List.take_add_one, h, ha, hb]

set_option maxRecDepth 100000 in
set_option maxHeartbeats 1000000 in
theorem same_any (va vb : Value) (a b : List Pt) (w : World) (ha : Parts w w.heap.size va a) (hb : Parts w w.heap.size vb b) (r : Bool) (hr : r = true ↔ a = b) :
    Calls Try.prog 42 #[va, vb] w fun e w' => e = .returned (.bool r) ∧ Below w.heap.size w w' := by
  obtain ⟨A, capA, rfl, hra, hma, hla⟩ := ha
  obtain ⟨B, capB, rfl, hrb, hmb, hlb⟩ := hb
  have HRA := Lib.hid hra
  have HRB := Lib.hid hrb
  have HR := Lib.hid hr
  clear hra hrb hma hmb hr
  by_cases hlen : a.length = b.length
  · have HL := Lib.hid hlen
    have hq : ((a.length : Int) == b.length) = true := by rw [hlen]; simp
    have hq2 : ((a.length : Int) != b.length) = false := by rw [hlen]; simp
    clear hlen
    go_enter Try.func42, Try.ntmps42
    go_wp2
    go_loopw [5] (fun i wr => ∃ j : Nat, j ≤ a.length ∧ i = .int .i64 j ∧ a.take j = b.take j ∧ Below w.heap.size w wr) (fun i _ => a.length - (intOf i).toNat)
    case atStart => exact ⟨0, Nat.zero_le _, rfl, rfl, Below.refl _ _⟩
    case round =>
      obtain ⟨j, hj, rfl, ht, hbw⟩ := hrel
      have HT := Lib.hid ht
      clear ht
      by_cases hlt : j < a.length
      · have hlt2 : j < b.length := by have := HL.out; omega
        obtain ⟨ad, rfl, hsp, hbk, hcell⟩ := HRA.out (by omega)
        obtain ⟨b1, off, spot⟩ := ad
        obtain rfl : spot = none := hsp
        obtain ⟨p, hp⟩ : ∃ p, a[j]? = some p := ⟨_, List.getElem?_eq_getElem hlt⟩
        obtain ⟨h0, h1, h2⟩ := hcell j p hp
        have c0 : wr.cell? ⟨b1, off + j * 3, none⟩ = some (.int .i64 p.k) := (hbw.cell (p := ⟨b1, off + j * 3, none⟩) hbk).trans h0
        have c1 : wr.cell? ⟨b1, off + j * 3 + 1, none⟩ = some (.int .i64 p.n) := (hbw.cell (p := ⟨b1, off + j * 3 + 1, none⟩) hbk).trans h1
        have c2 : wr.cell? ⟨b1, off + j * 3 + 2, none⟩ = some (.string p.s) := (hbw.cell (p := ⟨b1, off + j * 3 + 2, none⟩) hbk).trans h2
        have HP := Lib.hid hp
        clear hcell h0 h1 h2 hp hbk
        obtain ⟨ad, rfl, hsp, hbk, hcell⟩ := HRB.out (by omega)
        obtain ⟨b2, off2, spot⟩ := ad
        obtain rfl : spot = none := hsp
        obtain ⟨q, hq⟩ : ∃ q, b[j]? = some q := ⟨_, List.getElem?_eq_getElem hlt2⟩
        obtain ⟨h0, h1, h2⟩ := hcell j q hq
        have d0 : wr.cell? ⟨b2, off2 + j * 3, none⟩ = some (.int .i64 q.k) := (hbw.cell (p := ⟨b2, off2 + j * 3, none⟩) hbk).trans h0
        have d1 : wr.cell? ⟨b2, off2 + j * 3 + 1, none⟩ = some (.int .i64 q.n) := (hbw.cell (p := ⟨b2, off2 + j * 3 + 1, none⟩) hbk).trans h1
        have d2 : wr.cell? ⟨b2, off2 + j * 3 + 2, none⟩ = some (.string q.s) := (hbw.cell (p := ⟨b2, off2 + j * 3 + 2, none⟩) hbk).trans h2
        have HQ := Lib.hid hq
        clear hcell h0 h1 h2 hq hbk
        have hj0 : (0 : Int) ≤ j := by omega
        have hjA : (j : Int) < a.length := by omega
        have hjB : (j : Int) < b.length := by omega
        by_cases hpq : p = q
        · subst hpq
          go_wp2
          go_quiet (fail)
          go_wp2
          go_roundw
          case rel => exact ⟨j + 1, by omega, by go_num, take_ext HT.out HP.out HQ.out, bdrewN hbw⟩
          case measure => simp [intOf]; omega
        · obtain rfl : r = false := by
            cases r with
            | false => rfl
            | true =>
              exfalso; apply hpq
              have h := HR.out.1 rfl
              have h1 := HP.out
              rw [h, HQ.out] at h1
              injection h1 with h1; exact h1.symm
          have hcase := pt_ne hpq
          clear hpq
          rcases hcase with h | ⟨he, h⟩ | ⟨he, he2, h⟩
          · go_wp2
            go_quiet (fail)
            go_wp2
            go_ret
            exact ⟨rfl, bdrewN hbw⟩
          · rw [he] at c0
            clear he
            go_wp2
            go_quiet (fail)
            go_wp2
            go_ret
            exact ⟨rfl, bdrewN hbw⟩
          · rw [he] at c0
            rw [he2] at c1
            clear he he2
            go_wp2
            go_quiet (fail)
            go_wp2
            go_ret
            exact ⟨rfl, bdrewN hbw⟩
      · obtain rfl : j = a.length := by omega
        obtain rfl : r = true := HR.out.2 (by
          have := HT.out
          rw [List.take_length] at this
          rw [this]; exact List.take_of_length_le (by have := HL.out; omega))
        go_wp2
        go_ret
        exact ⟨rfl, hbw⟩
  · obtain rfl : r = false := by
      cases r with
      | false => rfl
      | true => exact absurd (congrArg List.length (HR.out.1 rfl)) hlen
    have hq : ((a.length : Int) == b.length) = false := by simp; omega
    have hq2 : ((a.length : Int) != b.length) = true := by simp; omega
    clear hlen
    go_enter Try.func42, Try.ntmps42
    go_wp2
    go_ret
    exact ⟨rfl, Below.refl _ _⟩
end Go.Proofs.Ytcebhoilokmhdaa
