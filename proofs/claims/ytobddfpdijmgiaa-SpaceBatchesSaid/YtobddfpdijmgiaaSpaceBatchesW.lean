/- SpaceBatches: its walk. -/
import Derived.Test.YtobddfpdijmgiaaSpBo
namespace Go.Proofs.Ytobddfpdijmgiaa
open Go.RowKit Go.Shelf
set_option linter.unusedVariables false
set_option linter.unusedSimpArgs false
set_option maxRecDepth 100000
attribute [local go_sem] Oper.semAt_some

set_option maxHeartbeats 16000000 in
theorem spaceBatches_of (A : Option Addr) (n c : Nat) (qs : List (Value × List Cg)) (t : Int) (w : World) (hA : Chs w (.slice A n c) qs) :
    Calls Try.prog 5 #[.slice A n c, .int .i64 t] w fun r w' => r = .returned (.bool true) ∧ Turn (fun _ => False) w w' := by
  obtain ⟨hnl, HROW0⟩ := hA.row
  have HROW := Lib.hid HROW0
  have HNL := Lib.hid hnl
  have hn63 : n ≤ 9223372036854775807 := by obtain ⟨_, _, e, hl, _⟩ := hA; injection e with _ e2 _; omega
  clear hA HROW0 hnl
  by_cases hn : 60 < n
  · have hn1 : (60 : Int) < (n : Int) := by omega
    go_enter Try.func5, Try.ntmps5
    go_wp2_with (first
      | (go_at_call 20; refine (new_14 _).mono ?_; rintro e w1 ⟨q, vk, g, rfl, hs, hf, ht⟩; have T1 := Lib.hid ht; clear hs hf ht)
      | (go_at_call 14; refine (lives_14 _).mono ?_; rintro e w9 ⟨rfl, t9⟩))
    go_ret
    exact ⟨rfl, T1.out.trans t9⟩
  · have hn1 : ¬ ((60 : Int) < (n : Int)) := by omega
    go_enter Try.func5, Try.ntmps5
    go_wp2_with (go_at_call 20; refine (new_14 _).mono ?_; rintro e w1 ⟨q, vk, g, rfl, hs, hf, ht⟩; have S1 := Lib.hid hs; have F1 := Lib.hid hf; have T1 := Lib.hid ht; clear hs hf ht)
    have L0 : Hid (Lx w 0 q vk g [] (.slice none 0 0) (.slice none 0 0) [] [] w1) := Lib.hid ⟨S1.out, ⟨List.Pairwise.nil, fun x hx => by cases hx⟩, bm_nil _, fun k hk => ⟨F1.out k hk, fun h => absurd h (by simp), fun h => absurd h (by simp)⟩, (po_nil 0 _).px (by decide), (po_nil 0 _).px (by decide), T1.out⟩
    have R0 : Hid (Rb [] [] [] 0 t) := Lib.hid ⟨rfl, fun h0 h1 => by omega⟩
    clear S1 F1 T1
    go_loopw [6, 7, 8, 9, 52] (fun v6 v7 v8 _ _ wr => ∃ (i : Nat) (vk : Value) (M : List (Itm × Value)) (P T : List Pq2) (A6 A7 : Option Addr) (f6 c6 f7 c7 : Nat), i ≤ n ∧ v8 = .int .i64 i ∧ v6 = .slice A6 f6 c6 ∧ v7 = .slice A7 f7 c7 ∧ Lx w i q vk g M (.slice A6 f6 c6) (.slice A7 f7 c7) P T wr ∧ Hid (Rb (M.map (fun p : Itm × Value => p.1)) P T i t)) (fun _ _ v8 _ _ _ => n - (intOf v8).toNat)
    case atStart => exact ⟨0, vk, [], [], [], none, none, 0, 0, 0, 0, Nat.zero_le _, rfl, rfl, rfl, L0.out, R0⟩
    case round =>
      clear L0 R0 w1 vk
      obtain ⟨i, vk, M, P, T, A6, A7, f6, c6, f7, c7, hi, rfl, rfl, rfl, hlx, RB⟩ := hrel
      obtain ⟨wx, rfl⟩ : ∃ W, W = wr := ⟨_, rfl⟩
      have LX := Lib.hid hlx
      clear hlx
      by_cases hlt : i < n
      · have hl1 : (i : Int) < (n : Int) := by omega
        have hl0 : (0 : Int) ≤ (i : Int) := by omega
        have hq := wrap_of ((i : Int) + 1) (by omega) (by omega)
        obtain ⟨⟨cv, L⟩, hx⟩ : ∃ x, qs[i]? = some x := ⟨_, List.getElem?_eq_getElem (by rw [HNL.out]; exact hlt)⟩
        obtain ⟨b, o, rfl, hcx, hcc⟩ := HROW.out i _ hx
        have HCX := Lib.hid hcx
        have HCC := Lib.hid hcc
        obtain ⟨AL, cL, e, hL63, _⟩ := id hcx
        obtain ⟨ln, hln⟩ : ∃ k, L.length = k := ⟨_, rfl⟩
        have HLN := Lib.hid hln
        simp only at e hL63 HCX HCC
        rw [hln] at e hL63
        subst e
        have HTW := Lib.hid LX.out.tw
        have c0 := HCC.out wx HTW.out
        clear hx hcx hcc hln
        by_cases h30 : 30 < ln
        · have h31 : (30 : Int) < (ln : Int) := by omega
          go_wp2_with (go_at_call 14; refine (lives_14 _).mono ?_; rintro e w9 ⟨rfl, t9⟩)
          go_ret
          exact ⟨rfl, HTW.out.trans t9⟩
        · have h31 : ¬ ((30 : Int) < (ln : Int)) := by omega
          have HL30 : Hid (L.length ≤ 30 ∧ i < 60) := Lib.hid ⟨by rw [HLN.out]; omega, by omega⟩
          have HCW : Hid (0 < L.length → ∀ b', vb (.slice AL ln cL) = some b' → b' < w.heap.size) := Lib.hid (fun h0 b' hb => cx_lt HCX.out h0 hb)
          -- then
          obtain ⟨T2, A8, f8, c8, LX2, HT2, HSL⟩ : ∃ (T2 : List Pq2) (A8 : Option Addr) (f8 c8 : Nat), Hid (Lx w i q vk g M (.slice A6 f6 c6) (.slice A8 f8 c8) P T2 wx) ∧ Hid ((t = i → T2 = P) ∧ Rb (M.map (fun p : Itm × Value => p.1)) P T2 i t) ∧ ((i : Int) = t ∧ A8 = A6 ∧ f8 = f6 ∧ c8 = c6 ∨ ¬ (i : Int) = t ∧ A8 = A7 ∧ f8 = f7 ∧ c8 = c7) := by
            by_cases hit : (i : Int) = t
            · exact ⟨P, A6, f6, c6, Lib.hid LX.out.set, Lib.hid ⟨fun _ => rfl, RB.out.1, fun h0 h1 => by omega⟩, .inl ⟨hit, rfl, rfl, rfl⟩⟩
            · exact ⟨T, A7, f7, c7, LX, Lib.hid ⟨fun h => absurd h.symm hit, RB.out⟩, .inr ⟨hit, rfl, rfl, rfl⟩⟩
          go_upto_if 40 with fail
          go_cut [1, 7, 8] from 25 to 69 (fun a1 a7 a8 wy => a1 = .int .i64 t ∧ a7 = .slice A8 f8 c8 ∧ a8 = .int .i64 i ∧ wy = wx)
          case first =>
            rcases HSL with ⟨hit, rfl, rfl, rfl⟩ | ⟨hit, rfl, rfl, rfl⟩
            · go_wp2_with fail
              go_meet
              exact ⟨by first | rfl | rw [hit], rfl, by first | rfl | rw [hit], rfl⟩
            · go_wp2_with fail
              go_meet
              exact ⟨rfl, rfl, rfl, rfl⟩
          case rest =>
            obtain ⟨rfl, rfl, rfl, rfl⟩ := hcut
            clear HSL LX RB
            have HPK : Hid (∀ p ∈ P, p.k.size ≤ 128) := Lib.hid (fun p hp => by
              rw [HT2.out.2.1] at hp
              obtain ⟨x, hx, e⟩ := row_mem hp
              rw [e]
              exact ((fit_iff x i).1 (LX2.out.wf.2 x hx)).1)
            have HPL : Hid (P.length ≤ 50000) := Lib.hid (by
              rw [HT2.out.2.1]
              have := row_len (t := 1152921504606846976) (M.map (fun p : Itm × Value => p.1))
              rw [List.length_map] at this
              have := LX2.out.bm.1
              omega)
            have c1 := HCC.out wc LX2.out.tw
            cases hm : mch L with
            | true =>
              have HM := Lib.hid hm
              have HAP := Lib.hid (LX2.out.apply (HCX.out.still HTW.out) HCW.out HL30.out.1 HL30.out.2 hm)
              clear hm c0
              go_wp2_with (first
                | (go_at_call 26; refine HAP.out.mono ?_; rintro e w2 ⟨rfl, vk2, M2, hlx2, he2⟩; have LX3 := Lib.hid hlx2; have HE2 := Lib.hid he2; have c2 := HCC.out w2 hlx2.tw; clear hlx2 he2)
                | (go_at_call 27; refine (LX3.out.changed (HCX.out.still LX3.out.tw) HL30.out.1 HM.out HPK.out HPL.out).mono ?_; rintro e w3 ⟨A9, n9, c9, rfl, hlx3⟩; have LX4 := Lib.hid hlx3; clear hlx3))
              go_roundw
              case rel => exact ⟨i + 1, vk2, M2, L.foldl chgP P, T2, A9, A8, n9, c9, f8, c8, by omega, by simp [hq], rfl, rfl, LX4.out, Lib.hid (HT2.out.2.next LX2.out.wf HL30.out.2 HM.out HE2.out HT2.out.1)⟩
              case measure => simp [intOf, hq]; omega
            | false =>
              have HM := Lib.hid hm
              have HAP := Lib.hid (LX2.out.bad (HCX.out.still HTW.out) HL30.out.1 HL30.out.2 hm)
              have hm0 : mch [] = true := rfl
              clear hm c0
              go_wp2_with (first
                | (go_at_call 26; refine (LX3.out.apply (L := []) (vl := .slice none 0 0) ⟨none, 0, rfl, by simp, rc_nil _ _⟩ (fun h => absurd h (by simp)) (by simp) HL30.out.2 hm0).mono ?_; rintro e w3 ⟨rfl, vk2, M2, hlx3, he2⟩; have LX4 := Lib.hid hlx3; have HE2 := Lib.hid he2; clear hlx3 he2)
                | (go_at_call 26; refine HAP.out.mono ?_; rintro e w2 ⟨rfl, hlx2⟩; have LX3 := Lib.hid hlx2; have c2 := HCC.out w2 hlx2.tw; clear hlx2))
              go_roundw
              case rel => exact ⟨i + 1, vk2, M2, P, T2, A6, A8, f6, c6, f8, c8, by omega, by simp [hq], rfl, rfl, LX4.out, Lib.hid (HT2.out.2.next (L := []) LX2.out.wf HL30.out.2 hm0 HE2.out HT2.out.1)⟩
              case measure => simp [intOf, hq]; omega
      · obtain rfl : i = n := by omega
        have HWF := Lib.hid LX.out.wf
        have HI60 : Hid (i ≤ 60) := Lib.hid (by omega)
        have HS1 := Lib.hid (LX.out.scan HI60.out (t := (i : Int)) (by omega) (Int.le_refl _))
        have e1 : row14 (M.map (fun p : Itm × Value => p.1)) (i : Int) = P := by rw [RB.out.1]; exact row_last HWF.out (by omega) (by omega)
        rw [e1] at HS1
        clear e1
        have HLA := Lib.hid (fun X (hX : Turn (fun _ => False) wx X) => last14 (LX.out.sp.still hX))
        have HSMn := Lib.hid (fun L v1 v2 X (h1 : Px X v1 L) (h2 : Px X v2 L) => refSame10 L v1 v2 X h1 h2)
        by_cases hout : t < 0 ∨ (i : Int) ≤ t
        · have hways : t < 0 ∨ (¬ t < 0 ∧ (i : Int) ≤ t) := by omega
          clear hout
          rcases hways with h1 | ⟨h1, h2⟩
          all_goals
            go_wp2_with (first
              | (go_at_call 22; refine HS1.out.mono ?_; rintro e w2 ⟨A2, n2, c2, rfl, hp2, ht2⟩; have P2 := Lib.hid hp2; have T2 := Lib.hid ht2; clear hp2 ht2)
              | (go_at_call 25; refine (HSMn.out P _ _ _ P2.out (LX.out.pp.still T2.out)).mono ?_; rintro e w3 ⟨rfl, ht3⟩; have T3 := Lib.hid (T2.out.trans ht3); clear ht3)
              | (go_at_call 28; refine (HLA.out _ T3.out).mono ?_; rintro e wm ⟨rfl, hwm⟩; obtain rfl : w3 = wm := hwm.symm)
              | (go_at_call 14; refine (lives_14 _).mono ?_; rintro e w9 ⟨rfl, t9⟩))
            go_ret
            exact ⟨rfl, (LX.out.tw.trans T3.out).trans t9⟩
        · have h1 : ¬ t < 0 := by omega
          have h2 : ¬ (i : Int) ≤ t := by omega
          have e2 : row14 (M.map (fun p : Itm × Value => p.1)) t = T := (RB.out.2 (by omega) (by omega)).symm
          have HS2 := Lib.hid (fun X (hX : Turn (fun _ => False) wx X) => (LX.out.still hX).scan HI60.out (t := t) (by omega) (by omega))
          rw [e2] at HS2
          clear e2 hout
          go_wp2_with (first
            | (go_at_call 22; refine (HS2.out _ T3.out).mono ?_; rintro e w5 ⟨A5, n5, c5, rfl, hp5, ht5⟩; have P5 := Lib.hid hp5; have T5 := Lib.hid (T3.out.trans ht5); clear hp5 ht5)
            | (go_at_call 22; refine HS1.out.mono ?_; rintro e w2 ⟨A2, n2, c2, rfl, hp2, ht2⟩; have P2 := Lib.hid hp2; have T2 := Lib.hid ht2; clear hp2 ht2)
            | (go_at_call 25; refine (HSMn.out T _ _ _ P5.out (LX.out.tp.still T5.out)).mono ?_; rintro e w6 ⟨rfl, ht6⟩; have T6 := Lib.hid (T5.out.trans ht6); clear ht6)
            | (go_at_call 25; refine (HSMn.out P _ _ _ P2.out (LX.out.pp.still T2.out)).mono ?_; rintro e w3 ⟨rfl, ht3⟩; have T3 := Lib.hid (T2.out.trans ht3); clear ht3)
            | (go_at_call 28; refine (HLA.out _ T3.out).mono ?_; rintro e wm ⟨rfl, hwm⟩; obtain rfl : w3 = wm := hwm.symm)
            | (go_at_call 14; refine (lives_14 _).mono ?_; rintro e w9 ⟨rfl, t9⟩))
          go_ret
          exact ⟨rfl, (LX.out.tw.trans T6.out).trans t9⟩
theorem spaceBatches_walk (v : Value) (qs : List (Value × List Cg)) (t : Int) (w : World) (hA : Chs w v qs) (h3 : (Lit.int .i64 t).wf = true) :
    Calls Try.prog 5 #[v, .int .i64 t] w fun r w' => r = .returned (.bool true) ∧ Below w.heap.size w w' := by
  obtain ⟨A, c, rfl, _⟩ := id hA
  exact (spaceBatches_of A _ c qs t w hA).mono fun e w' ⟨he, ht⟩ => ⟨he, ht.below (Nat.le_refl _) (fun _ h => h.elim)⟩
end Go.Proofs.Ytobddfpdijmgiaa
