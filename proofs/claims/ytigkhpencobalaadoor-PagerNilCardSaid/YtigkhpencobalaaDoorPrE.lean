/- Layer 9: Release, Pages, Free, sector; of no pager. -/
import Derived.Test.YtigkhpencobalaaDoorPrD
namespace Go.Proofs.YtigkhpencobalaaDoor
open Go.RowKit
set_option linter.unusedVariables false
set_option linter.unusedSimpArgs false
set_option maxRecDepth 100000

variable {w w' : World} {p pd pa ga gr fr : Nat} {st : List Nat} {l : List Bool} {S : Nat → Prop}
def rel9 (st : List Nat) (i : Int) : List Nat × Int :=
  if has9 st i then (if is9 st i 2 then (st.set i.toNat 0, 0) else if is9 st i 1 then (st.set i.toNat 3, 0) else (st, 7)) else (st, 6)
theorem is9_iff {st : List Nat} {i : Int} {s : Nat} (h : is9 st i s = true) : ∃ k : Nat, i = k ∧ k < st.length ∧ st.getD k 0 = s := by
  unfold is9 has9 at h
  simp only [Bool.and_eq_true, decide_eq_true_eq, beq_iff_eq] at h
  exact ⟨i.toNat, by omega, by omega, h.2⟩
theorem release9_any (h : Pm w p pd pa ga gr fr st (bits9 st)) (i : Int) :
    Calls Tryd.prog 17 #[.pointer (some ⟨p, 0, none⟩), .int .i64 i] w fun r w' => r = .returned (.int .i64 (rel9 st i).2) ∧ Pm w' p pd pa ga gr fr (rel9 st i).1 (bits9 (rel9 st i).1) ∧ Turn (fun k => k = gr ∨ k = ga) w w' := by
  have HM := Lib.hid (made9 h)
  have HH := Lib.hid (has9_any h i)
  have H2 := Lib.hid (is9_any h i 2)
  have H1 := Lib.hid (is9_any h i 1)
  have HP := Lib.hid h
  have HT := Lib.hid (Turn.refl (fun k => k = gr ∨ k = ga) w)
  clear h
  cases hh : has9 st i with
  | false =>
    rw [hh] at HH
    rw [show rel9 st i = (st, 6) by unfold rel9; rw [hh]; rfl]
    clear hh
    go_enter Tryd.func17, Tryd.ntmps17
    go_wp2_with fail
    refine HM.out.mono ?_
    rintro e w1 ⟨rfl, rfl⟩
    go_wp2_with fail
    refine HH.out.mono ?_
    rintro e w1 ⟨rfl, rfl⟩
    go_wp2_with fail
    go_ret
    exact ⟨rfl, HP.out, HT.out⟩
  | true =>
    rw [hh] at HH
    cases h2 : is9 st i 2 with
    | true =>
      rw [h2] at H2
      rw [show rel9 st i = (st.set i.toNat 0, 0) by unfold rel9; rw [hh, h2]; rfl]
      obtain ⟨k, rfl, hk, hs⟩ := is9_iff h2
      have HS := Lib.hid (set9_any HP.out k 0 hk)
      rw [if_pos rfl, giv9 st k hk (by rw [hs]; decide)] at HS
      rw [Int.toNat_natCast]
      rw [show ((0 : Nat) : Int) = 0 from rfl] at HS
      rw [show ((2 : Nat) : Int) = 2 from rfl] at H2
      clear hh h2 hk hs H1
      go_enter Tryd.func17, Tryd.ntmps17
      go_wp2_with fail
      refine HM.out.mono ?_
      rintro e w1 ⟨rfl, rfl⟩
      go_wp2_with fail
      refine HH.out.mono ?_
      rintro e w1 ⟨rfl, rfl⟩
      go_wp2_with fail
      refine H2.out.mono ?_
      rintro e w1 ⟨rfl, rfl⟩
      go_wp2_with fail
      refine HS.out.mono ?_
      rintro e w2 ⟨rfl, hP, hT⟩
      have P2 := Lib.hid hP
      have T2 := Lib.hid hT
      clear hP hT
      go_wp2_with fail
      go_ret
      exact ⟨rfl, P2.out, T2.out⟩
    | false =>
      rw [h2] at H2
      rw [show ((2 : Nat) : Int) = 2 from rfl] at H2
      rw [show ((1 : Nat) : Int) = 1 from rfl] at H1
      cases h1 : is9 st i 1 with
      | true =>
        rw [h1] at H1
        rw [show rel9 st i = (st.set i.toNat 3, 0) by unfold rel9; rw [hh, h2, h1]; rfl]
        obtain ⟨k, rfl, hk, hs⟩ := is9_iff h1
        have HS := Lib.hid (set9_any HP.out k 3 hk)
        rw [if_neg (by decide), ← bits9_same st k 3 hk (by rw [hs]; rfl)] at HS
        rw [Int.toNat_natCast]
        rw [show ((3 : Nat) : Int) = 3 from rfl] at HS
        clear hh h2 h1 hk hs
        go_enter Tryd.func17, Tryd.ntmps17
        go_wp2_with fail
        refine HM.out.mono ?_
        rintro e w1 ⟨rfl, rfl⟩
        go_wp2_with fail
        refine HH.out.mono ?_
        rintro e w1 ⟨rfl, rfl⟩
        go_wp2_with fail
        refine H2.out.mono ?_
        rintro e w1 ⟨rfl, rfl⟩
        go_wp2_with fail
        refine H1.out.mono ?_
        rintro e w1 ⟨rfl, rfl⟩
        go_wp2_with fail
        refine HS.out.mono ?_
        rintro e w2 ⟨rfl, hP, hT⟩
        have P2 := Lib.hid hP
        have T2 := Lib.hid hT
        clear hP hT
        go_wp2_with fail
        go_ret
        exact ⟨rfl, P2.out, T2.out⟩
      | false =>
        rw [h1] at H1
        rw [show rel9 st i = (st, 7) by unfold rel9; rw [hh, h2, h1]; rfl]
        clear hh h2 h1
        go_enter Tryd.func17, Tryd.ntmps17
        go_wp2_with fail
        refine HM.out.mono ?_
        rintro e w1 ⟨rfl, rfl⟩
        go_wp2_with fail
        refine HH.out.mono ?_
        rintro e w1 ⟨rfl, rfl⟩
        go_wp2_with fail
        refine H2.out.mono ?_
        rintro e w1 ⟨rfl, rfl⟩
        go_wp2_with fail
        refine H1.out.mono ?_
        rintro e w1 ⟨rfl, rfl⟩
        go_wp2_with fail
        go_ret
        exact ⟨rfl, HP.out, HT.out⟩
def Rw9 (B : Nat) (w : World) (v : Value) (L : List Int) : Prop := w.ownsRow B 3 1 v L.length (L.map (Value.int .i64))
theorem Rw9.turn {B : Nat} {v : Value} {L : List Int} (h : Rw9 B w v L) (ht : Turn S w w') (hS : ∀ k, S k → k < B) : Rw9 B w' v L := own_far9 h ht (fun k hk hs => by have := own_blk9 h k hk; have := hS k hs; omega)
theorem Rw9.still {B : Nat} {v : Value} {L : List Int} (h : Rw9 B w v L) (ht : Turn (fun _ => False) w w') : Rw9 B w' v L := h.turn ht (fun _ h => h.elim)
theorem Rw9.base {B C : Nat} {v : Value} {L : List Int} (h : Rw9 C w v L) (hB : B ≤ C) : Rw9 B w v L := by
  obtain ⟨hx, h | ⟨g, c, cur, e, hb, hr⟩⟩ := h
  · exact ⟨hx, .inl h⟩
  · exact ⟨hx, .inr ⟨g, c, cur, e, Nat.le_trans hB hb, hr⟩⟩
set_option maxHeartbeats 1000000 in
theorem pages9_any (h : Pm w p pd pa ga gr fr st l) :
    Calls Tryd.prog 36 #[.pointer (some ⟨p, 0, none⟩)] w fun r w' => ∃ v1 v2 v3, r = .returned (.tuple #[v1, v2, v3]) ∧ Rw9 w.heap.size w' v1 (pk9 1 st) ∧ Rw9 w.heap.size w' v2 (pk9 2 st) ∧ Rw9 w.heap.size w' v3 (pk9 3 st) ∧ Turn (fun _ => False) w w' := by
  have HM := Lib.hid (made9 h)
  have c3 := h.bx.cell 3
  simp only [List.getElem?_cons_succ, List.getElem?_cons_zero] at c3
  have HK := Lib.hid (fun (W : World) (ht : Turn (fun _ => False) w W) (s : Nat) => pick9_any (h.still ht) s)
  have h1 := Lib.hid (fun W ht => HK.out W ht 1)
  have h2 := Lib.hid (fun W ht => HK.out W ht 2)
  have h3 := Lib.hid (fun W ht => HK.out W ht 3)
  rw [show ((1 : Nat) : Int) = 1 from rfl] at h1
  rw [show ((2 : Nat) : Int) = 2 from rfl] at h2
  rw [show ((3 : Nat) : Int) = 3 from rfl] at h3
  clear h HK
  generalize st.length = n at *
  go_enter Tryd.func36, Tryd.ntmps36
  go_wp2_with fail
  refine HM.out.mono ?_
  rintro e w1 ⟨rfl, rfl⟩
  go_wp2_with fail
  refine (h1.out _ (Turn.refl _ _)).mono ?_
  rintro e w1 ⟨v1, rfl, ho, ht⟩
  have R1 : Hid (Rw9 w1.heap.size w1 v1 (pk9 1 st)) ∨ True := .inr trivial
  have O1 := Lib.hid (show Rw9 _ w1 v1 (pk9 1 st) from ho)
  have T1 := Lib.hid ht
  clear ho ht R1
  go_wp2_with fail
  refine (h2.out _ T1.out).mono ?_
  rintro e w2 ⟨v2, rfl, ho, ht⟩
  have O2 := Lib.hid ((show Rw9 _ w2 v2 (pk9 2 st) from ho).base T1.out.size)
  have O1b := Lib.hid (O1.out.still ht)
  have T2 := Lib.hid (T1.out.trans ht)
  clear ho ht O1
  go_wp2_with fail
  refine (h3.out _ T2.out).mono ?_
  rintro e w3 ⟨v3, rfl, ho, ht⟩
  have O3 := Lib.hid ((show Rw9 _ w3 v3 (pk9 3 st) from ho).base T2.out.size)
  have O1c := Lib.hid (O1b.out.still ht)
  have O2c := Lib.hid (O2.out.still ht)
  have T3 := Lib.hid (T2.out.trans ht)
  clear ho ht
  go_wp2_with fail
  exact bodyPost_ret (v := .tuple #[v1, v2, v3]) (by simp [results, Tryd.results36, go_sem]) rfl ⟨v1, v2, v3, rfl, O1c.out, O2c.out, O3.out, T3.out⟩
theorem free9_any (h : Pm w p pd pa ga gr fr st l) :
    Calls Tryd.prog 38 #[.pointer (some ⟨p, 0, none⟩)] w fun r w' => r = .returned (.int .i64 (free7 l)) ∧ w' = w := by
  have HM := Lib.hid (made9 h)
  have HF := Lib.hid (freeCount7 h.al)
  have c2 := h.bx.cell 2
  simp only [List.getElem?_cons_succ, List.getElem?_cons_zero] at c2
  clear h
  go_enter Tryd.func38, Tryd.ntmps38
  go_wp2_with fail
  refine HM.out.mono ?_
  rintro e w1 ⟨rfl, rfl⟩
  go_wp2_with fail
  refine HF.out.mono ?_
  rintro e w1 ⟨rfl, rfl⟩
  go_wp2_with fail
  go_ret
  exact ⟨rfl, rfl⟩
theorem sector9 (h : Pm w p pd pa ga gr fr st l) (i : Nat) (hi : i ≤ 20000) (hf : fr ≤ 1000000) :
    Calls Tryd.prog 59 #[.pointer (some ⟨p, 0, none⟩), .int .i64 i] w fun r w' => r = .returned (.int .i64 ((fr + 8 * i : Nat) : Int)) ∧ w' = w := by
  have c1 := h.bx.cell 1
  simp only [List.getElem?_cons_succ, List.getElem?_cons_zero] at c1
  have h1 := wrap_of ((i : Int) * 8) (by omega) (by omega)
  have h2 := wrap_of ((fr : Int) + (i : Int) * 8) (by omega) (by omega)
  have h3 : Hid (((fr + 8 * i : Nat) : Int) = (fr : Int) + (i : Int) * 8) := Lib.hid (by omega)
  rw [h3.out]
  clear h
  go_enter Tryd.func59, Tryd.ntmps59
  go_wp2_with fail
  go_ret
  exact ⟨rfl, rfl⟩
end Go.Proofs.YtigkhpencobalaaDoor
