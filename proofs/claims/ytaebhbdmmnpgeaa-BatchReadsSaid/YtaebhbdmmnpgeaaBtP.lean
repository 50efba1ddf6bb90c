/- Layer 15: the document's Right. -/
import Derived.Test.YtaebhbdmmnpgeaaBtO
namespace Go.Proofs.Ytaebhbdmmnpgeaa
open Go.RowKit Go.Shelf
set_option linter.unusedVariables false
set_option linter.unusedSimpArgs false
set_option maxRecDepth 100000
attribute [local go_sem] Oper.semAt_some

set_option maxHeartbeats 8000000 in
theorem refRight_15 (t : Int) (C : List Cg) (vl : Value) (w : World) (h : Cx w vl C) (hcl : C.length ≤ 100000) :
    Calls Try.prog 106 #[.agg #[.int .i64 t, vl]] w fun e w' => e = .returned (.bool (rg15 t C)) ∧ Turn (fun _ => False) w w' := by
  obtain ⟨AC, cC, rfl, hl, hr⟩ := h
  obtain ⟨n, hn⟩ : ∃ n, C.length = n := ⟨_, rfl⟩
  have HN := Lib.hid hn
  have HR := Lib.hid hr
  rw [hn] at hl hcl ⊢
  obtain ⟨R, hR⟩ : ∃ R, rg15 t C = R := ⟨_, rfl⟩
  have HRR := Lib.hid hR
  rw [hR]
  clear hn hr hR
  obtain ⟨W1, hW1⟩ : ∃ W, w.alloc (.cells #[.int .i64 t, .slice AC n cC] 24) = W := ⟨_, rfl⟩
  have TW : Hid (Turn (fun _ => False) w W1) := Lib.hid (hW1 ▸ (Turn.refl _ _).alloc _)
  have BX : Hid (Blk W1 w.heap.size 24 [.int .i64 t, .slice AC n cC]) := Lib.hid (hW1 ▸ Blk.new _ _ _)
  obtain ⟨x0, x1⟩ := cells2b BX.out
  have hways : t < 1 ∨ (¬ t < 1 ∧ (1152921504606846976 : Int) < t) ∨ (¬ t < 1 ∧ ¬ (1152921504606846976 : Int) < t ∧ (64 : Int) < (n : Int)) ∨ (¬ t < 1 ∧ ¬ (1152921504606846976 : Int) < t ∧ ¬ (64 : Int) < (n : Int)) := by omega
  have HBAD : Hid ((t < 1 ∨ (1152921504606846976 : Int) < t ∨ (64 : Int) < (n : Int)) → R = false) := Lib.hid (fun h => by rw [← HRR.out]; exact rg_no (fun g => by have := g.1; rw [HN.out] at this; omega))
  rcases hways with h1 | ⟨h1, h2⟩ | ⟨h1, h2, h3⟩ | ⟨h1, h2, h3⟩
  case inl =>
    have HF := Lib.hid (HBAD.out (.inl h1))
    go_enter Try.func106, Try.ntmps106
    go_wp2_with fail
    go_ret
    exact ⟨by rw [HF.out]; rfl, TW.out⟩
  case inr.inl =>
    have HF := Lib.hid (HBAD.out (.inr (.inl h2)))
    go_enter Try.func106, Try.ntmps106
    go_wp2_with fail
    go_ret
    exact ⟨by rw [HF.out]; rfl, TW.out⟩
  case inr.inr.inl =>
    have HF := Lib.hid (HBAD.out (.inr (.inr h3)))
    go_enter Try.func106, Try.ntmps106
    go_wp2_with fail
    go_ret
    exact ⟨by rw [HF.out]; rfl, TW.out⟩
  case inr.inr.inr =>
    have HRG : Hid (1 ≤ t ∧ t ≤ 1152921504606846976 ∧ C.length ≤ 64) := Lib.hid ⟨by omega, by omega, by rw [HN.out]; omega⟩
    clear HBAD
    go_enter Try.func106, Try.ntmps106
    go_wp2_with fail
    clear hW1 x0 x1
    go_loopw [3, 4] (fun v3 _ wr => ∃ i : Nat, i ≤ n ∧ v3 = .int .i64 i ∧ Hid ((∀ x ∈ C.take i, kpt x = true) ∧ nod (C.take i)) ∧ Turn (fun _ => False) W1 wr) (fun v3 _ _ => n - (intOf v3).toNat)
    case atStart => exact ⟨0, Nat.zero_le _, rfl, Lib.hid ⟨fun x hx => by simp at hx, by simp [nod]⟩, Turn.refl _ _⟩
    case round =>
      obtain ⟨i, hi, rfl, HOK, ht⟩ := hrel
      obtain ⟨wx, rfl⟩ : ∃ W, W = wr := ⟨_, rfl⟩
      have TT := Lib.hid ht
      clear ht
      obtain ⟨x0, x1⟩ := cells2b (BX.out.turn TT.out (fun h => h))
      by_cases hlt : i < n
      · have hl1 : (i : Int) < (n : Int) := by omega
        have hl0 : (0 : Int) ≤ (i : Int) := by omega
        have hq := wrap_of ((i : Int) + 1) (by omega) (by omega)
        obtain ⟨x, hx⟩ : ∃ x, C[i]? = some x := ⟨_, List.getElem?_eq_getElem (by rw [HN.out]; exact hlt)⟩
        have HX := Lib.hid hx
        obtain ⟨b, o, rfl, hb1, hc⟩ := HR.out.chg (by rw [HN.out]; omega)
        have HCC := Lib.hid (fun X (hX : Turn (fun _ => False) W1 X) => hc X (TW.out.trans hX) i x hx)
        have HCA := Lib.hid (fun X (hX : Turn (fun _ => False) W1 X) j y (hy : C[j]? = some y) => (hc X (TW.out.trans hX) j y hy).1)
        have HKE := Lib.hid (fun W => refKept_15 x W)
        have HBD : Hid (kpt x = false → R = false) := Lib.hid (fun h => by
          rw [← HRR.out]
          exact rg_no (fun g => by have := g.2.1 x (List.mem_of_getElem? HX.out); rw [h] at this; cases this))
        have HOK2 : Hid (kpt x = true → (C.take i).any (fun y => y.k.toList == x.k.toList) = false → (∀ x ∈ C.take (i + 1), kpt x = true) ∧ nod (C.take (i + 1))) := Lib.hid (fun h ha => by
          rw [take_next HX.out]
          refine ⟨fun y hy => ?_, nod_snoc.2 ⟨HOK.out.2, ha⟩⟩
          rcases List.mem_append.1 hy with hy | hy
          · exact HOK.out.1 y hy
          · simp at hy; subst hy; exact h)
        have HTW2 : Hid (∀ k y, k < i → C[k]? = some y → (y.k.toList == x.k.toList) = true → R = false) := Lib.hid (fun k y hk hy he => by
          rw [← HRR.out]
          exact rg_no (fun g => by
            have h1 : nod (C.take (i + 1)) := List.Nodup.sublist (List.Sublist.map _ (List.take_sublist _ _)) g.2.2
            rw [take_next HX.out, nod_snoc] at h1
            have hm : y ∈ C.take i := List.mem_of_getElem? (i := k) (by rw [List.getElem?_take, if_pos hk]; exact hy)
            have := List.any_eq_false.1 h1.2 y hm
            exact this he))
        obtain ⟨c0, c1, c2⟩ := HCC.out wx TT.out
        obtain ⟨xk, xv, xd⟩ := x
        simp only at c0 c1 c2 HKE HCC HTW2
        obtain ⟨r, hr⟩ : ∃ r, kpt ⟨xk, xv, xd⟩ = r := ⟨_, rfl⟩
        rw [hr] at HBD HOK2 HKE
        clear hx hb1 hc hr
        cases r with
        | false =>
          have HB := Lib.hid (HBD.out rfl)
          go_wp2_with (go_at_call 150; refine (HKE.out _).mono ?_; rintro e w3 ⟨rfl, hw3⟩; have T3 : Hid (Turn (fun _ => False) W1 w3) := Lib.hid (hw3 ▸ TT.out.alloc _); clear hw3)
          go_ret
          exact ⟨by rw [HB.out]; rfl, TW.out.trans T3.out⟩
        | true =>
          have HO2 := Lib.hid (HOK2.out rfl)
          go_wp2_with (go_at_call 150; refine (HKE.out _).mono ?_; rintro e w3 ⟨rfl, hw3⟩; have T3 : Hid (Turn (fun _ => False) W1 w3) := Lib.hid (hw3 ▸ TT.out.alloc _); clear hw3)
          clear x0 x1 c0 c1 c2
          go_loopw [4] (fun v4 wr => ∃ k : Nat, k ≤ i ∧ v4 = .int .i64 k ∧ Hid (∀ j y, j < k → C[j]? = some y → (y.k.toList == xk.toList) = false) ∧ Turn (fun _ => False) W1 wr) (fun v4 _ => i - (intOf v4).toNat)
          case atStart => exact ⟨0, Nat.zero_le _, rfl, Lib.hid (fun j y h => by omega), T3.out⟩
          case round =>
            clear T3
            obtain ⟨k, hk, rfl, HNE, ht⟩ := hrel
            obtain ⟨wy, rfl⟩ : ∃ W, W = wr := ⟨_, rfl⟩
            have TY := Lib.hid ht
            clear ht
            by_cases hlk : k < i
            · have hk1 : (k : Int) < (i : Int) := by omega
              have hk2 : (k : Int) < (n : Int) := by omega
              have hk0 : (0 : Int) ≤ (k : Int) := by omega
              have hqk := wrap_of ((k : Int) + 1) (by omega) (by omega)
              obtain ⟨y, hy⟩ : ∃ y, C[k]? = some y := ⟨_, List.getElem?_eq_getElem (by rw [HN.out]; omega)⟩
              have HY := Lib.hid hy
              obtain ⟨x0, x1⟩ := cells2b (BX.out.turn TY.out (fun h => h))
              obtain ⟨d0, d1, d2⟩ := HCC.out wy TY.out
              have e0 := HCA.out wy TY.out k y hy
              have HBR := Lib.hid (HTW2.out k y hlk hy)
              obtain ⟨yk, yv, yd⟩ := y
              simp only at e0 HBR
              clear hy
              cases hke : (yk.toList == xk.toList) with
              | true =>
                have HB := Lib.hid (HBR.out hke)
                go_wp2_with fail
                go_quiet (fail)
                go_wp2_with fail
                go_ret
                exact ⟨by rw [HB.out]; rfl, by first | exact (TW.out.trans TY.out).drewN _ | exact TW.out.trans TY.out⟩
              | false =>
                have HNX : Hid (∀ j y, j < k + 1 → C[j]? = some y → (y.k.toList == xk.toList) = false) := Lib.hid (fun j y hj hy => by
                  by_cases h : j < k
                  · exact HNE.out j y h hy
                  · obtain rfl : j = k := by omega
                    rw [HY.out] at hy
                    cases hy
                    exact hke)
                go_wp2_with fail
                go_quiet (fail)
                go_wp2_with fail
                go_roundw
                case rel => exact ⟨k + 1, by omega, by simp [hqk], HNX, by first | exact TY.out.drewN _ | exact TY.out⟩
                case measure => simp [intOf, hqk]; omega
            · obtain rfl : k = i := by omega
              have hk1 : ¬ (k : Int) < (k : Int) := by omega
              have HAN := Lib.hid (HO2.out (List.any_eq_false.2 (fun y hy he => by
                obtain ⟨j, hj⟩ := List.getElem?_of_mem hy
                rw [List.getElem?_take] at hj
                split at hj
                · rename_i hjk
                  have := HNE.out j y hjk hj
                  rw [this] at he
                  cases he
                · cases hj)))
              go_wp2_with fail
              go_roundw
              case rel => exact ⟨k + 1, by omega, by simp [hq], HAN, TY.out⟩
              case measure => simp [intOf, hq]; omega
      · obtain rfl : i = n := by omega
        have hl1 : ¬ (i : Int) < (i : Int) := by omega
        have HYES : Hid (R = true) := Lib.hid (by
          have h := HOK.out
          rw [← HN.out, List.take_length] at h
          rw [← HRR.out]
          exact rg_yes ⟨HRG.out, h.1, h.2⟩)
        go_wp2_with fail
        go_ret
        exact ⟨by rw [HYES.out]; rfl, TW.out.trans TT.out⟩
end Go.Proofs.Ytaebhbdmmnpgeaa
