/- Layer 9: turn; Settle, Undo, Release, Pages, Free. -/
import Derived.Test.YtigkhpencobalaaDoorPrC
namespace Go.Proofs.YtigkhpencobalaaDoor
open Go.RowKit
set_option linter.unusedVariables false
set_option linter.unusedSimpArgs false
set_option maxRecDepth 100000

variable {w w' : World} {p pd pa ga gr fr : Nat} {st : List Nat} {l : List Bool} {S : Nat → Prop}
theorem own_at9 {w : World} {B t n c : Nat} {A : Option Addr} {xs : List Value} (h : w.ownsRow B t 1 (.slice A n c) n xs) (j : Nat) (u : Value) (hj : xs[j]? = some u) : ∃ g, A = some ⟨g, 0, none⟩ ∧ B ≤ g ∧ g < w.heap.size ∧ w.cell? ⟨g, j, none⟩ = some u := by
  have hp : 0 < n := by
    have hl : xs.length = n := by have := h.1; simpa using this
    rcases Nat.eq_zero_or_pos n with h0 | h0
    · rw [h0] at hl; rw [List.eq_nil_of_length_eq_zero hl] at hj; cases hj
    · exact h0
  obtain ⟨g, hg⟩ : ∃ g, (Value.slice A n c).ownBlock = some g := by
    obtain ⟨_, ⟨e, hz⟩ | ⟨g, c2, cur, e, _⟩⟩ := h
    · omega
    · exact ⟨g, by rw [e]; rfl⟩
  have hA : A = some ⟨g, 0, none⟩ := by
    obtain ⟨_, ⟨e, hz⟩ | ⟨g2, c2, cur, e, _⟩⟩ := h
    · omega
    · have : g2 = g := by rw [e] at hg; simpa [Value.ownBlock] using hg
      subst this; injection e
  have h5 := h.cells (g := g) hg j u hj
  rw [Addr.add_mid, Nat.zero_add] at h5
  exact ⟨g, hA, (own_blk9 h g hg).1, (own_blk9 h g hg).2, h5⟩
set_option maxHeartbeats 1000000 in
theorem turn9_any (h : Pm w p pd pa ga gr fr st (bits9 st)) (a b : Nat) (ha : a ≠ 0) :
    Calls Tryd.prog 52 #[.pointer (some ⟨p, 2, none⟩), .int .i64 a, .int .i64 b] w fun r w' => r = .returned (.tuple #[]) ∧ Pm w' p pd pa ga gr fr (trn9 a b st) (bits9 (trn9 a b st)) ∧ Turn (fun k => k = gr ∨ k = ga) w w' := by
  have hle := h.le
  have HPK := Lib.hid (pick9_any h a)
  have c3 := h.bx.cell 3
  simp only [List.getElem?_cons_succ, List.getElem?_cons_zero] at c3
  have hgr := h.row.lt
  have hga := h.al.ltg
  have hpl : Hid ((pk9 a st).length ≤ st.length) := Lib.hid (pkTo_le a st st.length)
  have HP := Lib.hid h
  have HA := Lib.hid ha
  have HE := Lib.hid (tr9_all a b st)
  clear h ha
  obtain ⟨n, hn⟩ : ∃ n, st.length = n := ⟨_, rfl⟩
  have HN := Lib.hid hn
  rw [hn] at hle HPK c3 hpl
  obtain ⟨m, hm⟩ : ∃ m, (pk9 a st).length = m := ⟨_, rfl⟩
  have HM := Lib.hid hm
  rw [hm] at HPK hpl
  have hmn := hpl.out
  clear hn hm hpl
  go_enter Tryd.func52, Tryd.ntmps52
  go_wp2_with fail
  refine HPK.out.mono ?_
  rintro e w1 ⟨v, rfl, ho, ht⟩
  obtain ⟨A, c, rfl⟩ := own_slice9 ho
  have HO := Lib.hid ho
  have P1 := Lib.hid (HP.out.still ht)
  have T1 := Lib.hid (ht.mono (T := fun k => k = gr ∨ k = ga) (fun _ _ h => h.elim))
  clear ho ht c3
  go_wp2_with fail
  go_loopw [7, 15] (fun v7 v15 wr => ∃ (j : Nat), j ≤ m ∧ v15 = .int .i64 j ∧ Pm wr p pd pa ga gr fr (tr9 b st ((pk9 a st).take j)) (bits9 (tr9 b st ((pk9 a st).take j))) ∧ wr.ownsRow w.heap.size 3 1 (.slice A m c) m ((pk9 a st).map (Value.int .i64)) ∧ Turn (fun k => k = gr ∨ k = ga) w wr) (fun _ v15 _ => m - (intOf v15).toNat)
  case atStart => exact ⟨0, Nat.zero_le _, rfl, P1.out, HO.out, T1.out⟩
  case round =>
    obtain ⟨j, hj, rfl, hP, hO, hT⟩ := hrel
    have PP := Lib.hid hP
    have OO := Lib.hid hO
    have TT := Lib.hid hT
    clear hP hO hT
    by_cases hlt : j < m
    · have hl1 : (j : Int) < (m : Int) := by omega
      have hl0 : (0 : Int) ≤ (j : Int) := by omega
      have hq := wrap_of ((j : Int) + 1) (by omega) (by omega)
      have hjL : j < (pk9 a st).length := by rw [HM.out]; exact hlt
      obtain ⟨z, hz⟩ : ∃ z, (pk9 a st)[j]? = some z := ⟨_, List.getElem?_eq_getElem hjL⟩
      obtain ⟨z0, z1, z2⟩ := tr9_next a b st j z hz
      obtain ⟨k, rfl⟩ : ∃ k : Nat, z = k := ⟨z.toNat, by omega⟩
      obtain ⟨g, rfl, hg0, hg1, hgc⟩ := own_at9 OO.out j (.int .i64 (k : Int)) (by rw [List.getElem?_map, hz]; rfl)
      have HS := Lib.hid (set9_any PP.out k b (by rw [len_tr9]; omega))
      have HNX : Hid (tr9 b st ((pk9 a st).take (j + 1)) = (tr9 b st ((pk9 a st).take j)).set k b) := Lib.hid (by
        rw [List.take_add_one, hz, show (some ((k : Nat) : Int)).toList = [((k : Nat) : Int)] from rfl, tr9_snoc, Int.toNat_natCast])
      have HBT : Hid ((if b = 0 then (giv7 (bits9 (tr9 b st ((pk9 a st).take j))) k 1).1 else bits9 (tr9 b st ((pk9 a st).take j))) = bits9 ((tr9 b st ((pk9 a st).take j)).set k b)) := Lib.hid (by
        rw [Int.toNat_natCast] at z2
        have hkl : k < (tr9 b st ((pk9 a st).take j)).length := by rw [len_tr9]; omega
        split
        · rename_i hb0
          subst hb0
          rw [giv9 _ _ hkl (by rw [z2]; exact HA.out)]
        · rename_i hb0
          rw [bits9_same _ _ _ hkl]
          rw [z2]
          have := HA.out
          rw [beq_eq_false_iff_ne.2 hb0, beq_eq_false_iff_ne.2 this])
      rw [HBT.out, ← HNX.out] at HS
      clear hz z0 z1 z2 hjL HNX HBT
      go_wp2_with fail
      refine HS.out.mono ?_
      rintro e w2 ⟨rfl, hP, hT⟩
      have PP2 := Lib.hid hP
      have OO2 := Lib.hid (own_far9 OO.out hT (fun q hq h => by have := own_blk9 OO.out q hq; omega))
      have TT2 := Lib.hid (TT.out.trans hT)
      clear hP hT
      go_wp2_with fail
      go_roundw
      case rel => exact ⟨j + 1, by omega, by simp [hq], PP2.out, OO2.out, TT2.out⟩
      case measure => simp [intOf, hq]; omega
    · obtain rfl : j = m := by omega
      have PF : Hid (Pm wr p pd pa ga gr fr (trn9 a b st) (bits9 (trn9 a b st))) := Lib.hid (by
        have := PP.out
        rw [← HM.out, List.take_length, HE.out] at this
        exact this)
      go_wp2_with fail
      go_end0
      exact ⟨rfl, PF.out, TT.out⟩
def settle9 (st : List Nat) : List Nat := trn9 3 0 (trn9 2 1 st)
def undo9 (st : List Nat) : List Nat := trn9 3 1 (trn9 2 0 st)
theorem settle9_any (h : Pm w p pd pa ga gr fr st (bits9 st)) :
    Calls Tryd.prog 19 #[.pointer (some ⟨p, 0, none⟩)] w fun r w' => r = .returned (.int .i64 0) ∧ Pm w' p pd pa ga gr fr (settle9 st) (bits9 (settle9 st)) ∧ Turn (fun k => k = gr ∨ k = ga) w w' := by
  have HM := Lib.hid (made9 h)
  have H1 := Lib.hid (turn9_any h 2 1 (by decide))
  have H2 := Lib.hid (fun (W : World) (hW : Pm W p pd pa ga gr fr (trn9 2 1 st) (bits9 (trn9 2 1 st))) => turn9_any hW 3 0 (by decide))
  clear h
  go_enter Tryd.func19, Tryd.ntmps19
  go_wp2_with fail
  refine HM.out.mono ?_
  rintro e w1 ⟨rfl, rfl⟩
  go_wp2_with fail
  refine H1.out.mono ?_
  rintro e w2 ⟨rfl, hP, hT⟩
  have P2 := Lib.hid hP
  have T2 := Lib.hid hT
  clear hP hT
  go_wp2_with fail
  refine (H2.out _ P2.out).mono ?_
  rintro e w3 ⟨rfl, hP, hT⟩
  have P3 := Lib.hid hP
  have T3 := Lib.hid (T2.out.trans hT)
  clear hP hT
  go_wp2_with fail
  go_ret
  exact ⟨rfl, P3.out, T3.out⟩
theorem undo9_any (h : Pm w p pd pa ga gr fr st (bits9 st)) :
    Calls Tryd.prog 21 #[.pointer (some ⟨p, 0, none⟩)] w fun r w' => r = .returned (.int .i64 0) ∧ Pm w' p pd pa ga gr fr (undo9 st) (bits9 (undo9 st)) ∧ Turn (fun k => k = gr ∨ k = ga) w w' := by
  have HM := Lib.hid (made9 h)
  have H1 := Lib.hid (turn9_any h 2 0 (by decide))
  have H2 := Lib.hid (fun (W : World) (hW : Pm W p pd pa ga gr fr (trn9 2 0 st) (bits9 (trn9 2 0 st))) => turn9_any hW 3 1 (by decide))
  clear h
  go_enter Tryd.func21, Tryd.ntmps21
  go_wp2_with fail
  refine HM.out.mono ?_
  rintro e w1 ⟨rfl, rfl⟩
  go_wp2_with fail
  refine H1.out.mono ?_
  rintro e w2 ⟨rfl, hP, hT⟩
  have P2 := Lib.hid hP
  have T2 := Lib.hid hT
  clear hP hT
  go_wp2_with fail
  refine (H2.out _ P2.out).mono ?_
  rintro e w3 ⟨rfl, hP, hT⟩
  have P3 := Lib.hid hP
  have T3 := Lib.hid (T2.out.trans hT)
  clear hP hT
  go_wp2_with fail
  go_ret
  exact ⟨rfl, P3.out, T3.out⟩
end Go.Proofs.YtigkhpencobalaaDoor
