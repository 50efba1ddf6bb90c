/- Layer 4: the document's disk: Crash. -/
import Derived.Test.YtcjoinahelmmpaaBlkU
namespace Go.Proofs.Ytcjoinahelmmpaa
open Go.RowKit Go.Maps
set_option linter.unusedVariables false

theorem own_set2_ {α : Type} {l : List α} {n : Nat} (h : n = l.length) : l.length = n := h.symm
set_option maxRecDepth 100000 in
set_option maxHeartbeats 4000000 in
theorem crashRef_r {w : World} {D : Dsk} {ks : List (List UInt8)} {A B : Option Addr} {c d : Nat} (h : Rm w D ks A c B d) (ok : D.Ok) (hp : D.pend.length ≤ 1000000) (N F : Int) (dd : Bool) (vz : Value) (zs : List Int) (hzl : zs.length ≤ 9223372036854775807) (hk : Iv (fun _ => False) w vz zs) :
    Calls Try.prog 21 #[.agg #[.int .i64 N, .slice A ks.length c, .slice B D.pend.length d, .int .i64 F, .bool dd], vz] w fun e w' => ∃ A' c', e = .returned (.agg #[.int .i64 N, .slice A' ks.length c', .slice none 0 0, .int .i64 (-1), .bool false]) ∧ w'.ownsRow w.heap.size 9 1 (.slice A' ks.length c') ks.length ((setAll ks (sel D.pend (isIn zs))).map sv) ∧ Turn (fun _ => False) w w' := by
  have HK : Hid (∀ W L dl (ls : List (Nat × List UInt8)), Turn (fun _ => False) w W → (∀ x ∈ ls, x ∈ D.pend) → ls.length ≤ 1000000 → W.ownsRow 0 93 2 (.slice L ls.length dl) ls.length (ls.flatMap pv) → Calls Try.prog 47 #[.agg #[.int .i64 N, .slice A ks.length c, .slice B D.pend.length d, .int .i64 (-1), .bool false], .slice L ls.length dl] W fun e w' => ∃ A' c', e = .returned (.agg #[.int .i64 N, .slice A' ks.length c', .slice none 0 0, .int .i64 (-1), .bool false]) ∧ w'.ownsRow W.heap.size 9 1 (.slice A' ks.length c') ks.length ((setAll ks ls).map sv) ∧ Turn (fun _ => False) W w') :=
    Lib.hid (fun W L dl ls ht hsub hlen ho => kept_r N A B L ks c D.pend.length d dl (-1) false ls (fun x hx => by rw [h.len]; exact (ok.pend x (hsub x hx)).1) (by rw [h.len]; exact ok.pos) (by rw [h.len]; exact ok.most) hlen W (h.still ht).kept ho)
  have H := Lib.hid h
  have HZ := Lib.hid hk
  obtain ⟨Az, cz, hvz, _⟩ := hk
  subst hvz
  have hb := (Blk.new w 46 [.int .i64 N, .slice A ks.length c, .slice B D.pend.length d, .int .i64 F, .bool dd]).alloc (.cells #[.int .i64 0, .slice none 0 0, .slice none 0 0, .int .i64 0, .bool false] 46)
  have hr := Blk.new_ (w.alloc (.cells #[.int .i64 N, .slice A ks.length c, .slice B D.pend.length d, .int .i64 F, .bool dd] 46)) 46 [.int .i64 0, .slice none 0 0, .slice none 0 0, .int .i64 0, .bool false] (k := w.heap.size + 1) (by simp)
  have HB0 := Lib.hid hb
  have HR0 := Lib.hid hr
  have T0 := Lib.hid (((Turn.refl (fun _ => False) w).alloc (.cells #[.int .i64 N, .slice A ks.length c, .slice B D.pend.length d, .int .i64 F, .bool dd] 46)).alloc (.cells #[.int .i64 0, .slice none 0 0, .slice none 0 0, .int .i64 0, .bool false] 46))
  have S0 : Hid (((w.alloc (.cells #[.int .i64 N, .slice A ks.length c, .slice B D.pend.length d, .int .i64 F, .bool dd] 46)).alloc (.cells #[.int .i64 0, .slice none 0 0, .slice none 0 0, .int .i64 0, .bool false] 46)).heap.size = w.heap.size + 1 + 1) := Lib.hid (by simp)
  obtain ⟨j0, hj, hjz, hjs, hjb⟩ := info_parts_ info_rw
  have HJ := Lib.hid hj
  have HJZ := Lib.hid hjz
  have HJS := Lib.hid hjs
  have HJB := Lib.hid hjb
  have hpl : (D.pend.length : Int) ≤ 1000000 := by omega
  have hzi : (zs.length : Int) ≤ 9223372036854775807 := by omega
  clear hj hjz hjs hjb h hb hr
  go_enter Try.func21, Try.ntmps21
  go_wp2
  obtain ⟨W0, hW0⟩ : ∃ W0, (w.alloc (.cells #[.int .i64 N, .slice A ks.length c, .slice B D.pend.length d, .int .i64 F, .bool dd] 46)).alloc (.cells #[.int .i64 0, .slice none 0 0, .slice none 0 0, .int .i64 0, .bool false] 46) = W0 := ⟨_, rfl⟩
  rw [hW0] at HB0 HR0 T0 S0 ⊢
  clear hW0
  go_loopw [5, 6] (fun vl vk wr => ∃ (j m : Nat) (L : Option Addr) (cL : Nat), j ≤ D.pend.length ∧ vk = .int .i64 j ∧ vl = .slice L m cL ∧ m = (sel (D.pend.take j) (isIn zs)).length ∧ wr.ownsRow (w.heap.size + 1 + 1) 93 2 (.slice L m cL) m ((sel (D.pend.take j) (isIn zs)).flatMap pv) ∧ Turn (fun _ => False) W0 wr) (fun _ vk _ => D.pend.length - (intOf vk).toNat)
  case atStart => exact ⟨0, 0, none, 0, Nat.zero_le _, rfl, rfl, rfl, ⟨rfl, .inl ⟨rfl, rfl⟩⟩, Turn.refl _ _⟩
  case round =>
    obtain ⟨j, m, L, cL, hj, rfl, rfl, hm, ho, ht⟩ := hrel
    have HO := Lib.hid ho
    have HT := Lib.hid ht
    have HM := Lib.hid hm
    have hb := HB0.out.turn ht (fun h => h)
    have b2 := hb.cell 2
    simp only [List.getElem?_cons_zero, List.getElem?_cons_succ] at b2
    by_cases hlt : j < D.pend.length
    · have j1 : (j : Int) < (D.pend.length : Int) := by omega
      have j0' : (0 : Int) ≤ (j : Int) := Int.natCast_nonneg _
      clear hm ho ht hb
      go_wp2
      go_loopw [7, 8] (fun vb vi wq => ∃ i : Nat, i ≤ zs.length ∧ vi = .int .i64 i ∧ vb = .bool (isIn (zs.take i) j) ∧ wq = wr) (fun _ vi _ => zs.length - (intOf vi).toNat)
      case atStart => exact ⟨0, Nat.zero_le _, rfl, rfl, rfl⟩
      case round =>
        obtain ⟨i, hi, rfl, rfl, rfl⟩ := hrel
        by_cases hli : i < zs.length
        · have i1 : (i : Int) < (zs.length : Int) := by omega
          have i0 : (0 : Int) ≤ (i : Int) := Int.natCast_nonneg _
          obtain ⟨z, hz⟩ : ∃ z, zs[i]? = some z := ⟨_, List.getElem?_eq_getElem hli⟩
          have HS : Hid (isIn (zs.take (i + 1)) j = (isIn (zs.take i) j || decide ((j : Int) = z))) := Lib.hid (by rw [take_snoc_ hz, isIn_snoc])
          obtain ⟨A2, cap2, e2, hr⟩ := (HZ.out.turn (T0.out.trans HT.out) (fun _ h => h.elim))
          obtain ⟨b, o, eA, _, _, hcz⟩ := hr (by omega)
          injection e2 with e2 _ _
          rw [eA] at e2
          subst e2
          have hcell := hcz i z hz
          obtain ⟨bb, hbb⟩ : ∃ bb, isIn (zs.take i) j = bb := ⟨_, rfl⟩
          rw [hbb] at HS ⊢
          clear hr hcz eA hz hbb
          cases bb with
          | true =>
            go_wp2
            go_roundw
            case rel => exact ⟨i + 1, by omega, by go_num, by rw [HS.out]; rfl, trivial⟩
            case measure => simp [intOf] <;> omega
          | false =>
            by_cases he : z = (j : Int)
            · have h1 : (z == (j : Int)) = true := by simpa using he
              have hd : decide ((j : Int) = z) = true := by simpa using he.symm
              rw [hd] at HS
              clear hd he
              go_wp2
              go_roundw
              case rel => exact ⟨i + 1, by omega, by go_num, by rw [HS.out]; rfl, trivial⟩
              case measure => simp [intOf] <;> omega
            · have h1 : (z == (j : Int)) = false := by simpa using he
              have hd : decide ((j : Int) = z) = false := by simpa using fun e => he e.symm
              rw [hd] at HS
              clear hd
              go_wp2
              go_roundw
              case rel => exact ⟨i + 1, by omega, by go_num, by rw [HS.out]; rfl, trivial⟩
              case measure => simp [intOf] <;> omega
        · obtain rfl : i = zs.length := by omega
          rw [List.take_length]
          obtain ⟨x, hx⟩ : ∃ x, D.pend[j]? = some x := ⟨_, List.getElem?_eq_getElem hlt⟩
          have HTK : Hid (sel (D.pend.take (j + 1)) (isIn zs) = if isIn zs j then sel (D.pend.take j) (isIn zs) ++ [x] else sel (D.pend.take j) (isIn zs)) := Lib.hid (by
            rw [take_snoc_ hx, sel_snoc, List.length_take, Nat.min_eq_left (by omega)])
          obtain ⟨gB, eB, hc0, hc1⟩ := ((H.out.still T0.out).still HT.out).pend_at hx
          have HSL : Hid (m ≤ j) := Lib.hid (by
            rw [HM.out]
            unfold sel
            rw [List.length_map]
            refine Nat.le_trans (List.length_filter_le _ _) ?_
            rw [List.length_zipIdx, List.length_take]
            exact Nat.min_le_left _ _)
          have hmj := HSL.out
          obtain ⟨bb, hbb⟩ : ∃ bb, isIn zs j = bb := ⟨_, rfl⟩
          rw [hbb] at HTK ⊢
          subst eB
          clear hx hbb hli
          cases bb with
          | false =>
            clear hc0 hc1
            go_wp2
            go_roundw
            case rel => exact ⟨j + 1, m, L, cL, by omega, by go_num, rfl, by rw [HTK.out]; exact HM.out, by rw [HTK.out]; exact HO.out, HT.out⟩
            case measure => simp [intOf] <;> omega
          | true =>
            obtain ⟨x0, x1⟩ := x
            simp only at hc0 hc1
            have hsz := HT.out.size
            have hs0 := S0.out
            go_wp2_with (at_builtin; refine wpList_app_row rfl _ _ 44 rfl (w.heap.size + 1 + 1) 93 j0 _ 2 24 Try.underlying44 HJ.out HJZ.out HJS.out HJB.out (by rfl) (by decide) L m cL ((sel (D.pend.take j) (isIn zs)).flatMap pv) rfl (ownsRow_turn HO.out ((Turn.refl (fun _ => False) _).alloc _) (fun _ _ h => h)) (some ⟨wr.heap.size, 0, none⟩) 1 1 (pv (x0, x1)) rfl (own_full_ (Blk.new wr 93 (pv (x0, x1))) rfl (by decide)) (one_pv _) (by omega) (by unfold maxLen; omega) (by simp; omega) ?_
                         intro A6 c6 w6 ho6 ht6
                         have O6 := Lib.hid ho6
                         have TT := Lib.hid ((HT.out.alloc (.cells #[.int .i64 x0, sv x1] 93)).trans_new ht6 (fun k hk e => by have := own_ge_ HO.out _ e; omega))
                         clear ho6 ht6)
            go_roundw
            case rel => exact ⟨j + 1, m + 1, A6, c6, by omega, by go_num, rfl, by rw [HTK.out, if_pos rfl, List.length_append, ← HM.out]; rfl, by rw [HTK.out, if_pos rfl, List.flatMap_append]; simpa using O6.out, TT.out⟩
            case measure => simp [intOf] <;> omega
    · obtain rfl : j = D.pend.length := by omega
      have HR := Lib.hid (HR0.out.turn ht (fun h => h))
      have HB := Lib.hid hb
      have HMM : Hid (m = (sel D.pend (isIn zs)).length) := Lib.hid (by rw [hm, List.take_length])
      have HOO : Hid (wr.ownsRow (w.heap.size + 1 + 1) 93 2 (.slice L m cL) m ((sel D.pend (isIn zs)).flatMap pv)) := Lib.hid (by rw [List.take_length] at ho; exact ho)
      have HSL : Hid (m ≤ D.pend.length) := Lib.hid (by
        rw [HMM.out]
        unfold sel
        rw [List.length_map]
        refine Nat.le_trans (List.length_filter_le _ _) ?_
        rw [List.length_zipIdx]
        exact Nat.le_refl _)
      have b0 := hb.cell 0
      have b1 := hb.cell 1
      have b3 := hb.cell 3
      have b4 := hb.cell 4
      have f3 := hb.free 3
      have f4 := hb.free 4
      simp only [List.getElem?_cons_zero, List.getElem?_cons_succ] at b0 b1 b3 b4
      have tb : Turn (· = w.heap.size) wr ((wr.setCell ⟨w.heap.size, 3, none⟩ (.int .i64 (-1))).setCell ⟨w.heap.size, 4, none⟩ (.bool false)) := ((Turn.refl (· = w.heap.size) wr).setCell (p := ⟨w.heap.size, 3, none⟩) (.inl rfl) _).setCell (p := ⟨w.heap.size, 4, none⟩) (.inl rfl) _
      have TB := Lib.hid tb
      have T5 := Lib.hid ((T0.out.trans HT.out).trans_new tb (fun k hk e => by omega))
      have O5 := Lib.hid (ownsRow_turn HOO.out tb (fun k hk e => by have := own_ge_ HOO.out k hk; omega))
      have HR5 := Lib.hid (HR.out.turn tb (by omega))
      have HKK := Lib.hid (HK.out _ L cL (sel D.pend (isIn zs)) T5.out (fun x hx => sel_mem hx) (by rw [← HMM.out]; have := HSL.out; omega) (by rw [← HMM.out]; exact own_zero_ O5.out))
      rw [← HMM.out] at HKK
      clear hm ho ht hb hlt tb
      go_wp2_with (go_at_call 47
                   refine HKK.out.mono ?_
                   rintro e w6 ⟨A6, c6, rfl, ho6, ht6⟩
                   have O6 := Lib.hid ho6
                   have hr6 := HR5.out.turn ht6 (fun h => h)
                   have HR6 := Lib.hid hr6
                   have r0 := hr6.cell 0
                   have r1 := hr6.cell 1
                   have r2 := hr6.cell 2
                   have r3 := hr6.cell 3
                   have r4 := hr6.cell 4
                   have g0 := hr6.free 0
                   have g1 := hr6.free 1
                   have g2 := hr6.free 2
                   have g3 := hr6.free 3
                   have g4 := hr6.free 4
                   simp only [List.getElem?_cons_zero, List.getElem?_cons_succ] at r0 r1 r2 r3 r4
                   have TW := Lib.hid (T5.out.trans ht6)
                   have Z2 := HR5.out.lt
                   clear ho6 ht6 hr6 b0 b1 b2 b3 b4 f3 f4)
      have hf := ((((HR6.out.put 0 (.int .i64 N)).put 1 (.slice A6 ks.length c6)).put 2 (.slice none 0 0)).put 3 (.int .i64 (-1))).put 4 (.bool false)
      have tf := (((((Turn.refl (fun k => k = w.heap.size + 1) w6).setCell (p := ⟨w.heap.size + 1, 0, none⟩) (.inl rfl) (.int .i64 N)).setCell (p := ⟨w.heap.size + 1, 1, none⟩) (.inl rfl) (.slice A6 ks.length c6)).setCell (p := ⟨w.heap.size + 1, 2, none⟩) (.inl rfl) (.slice none 0 0)).setCell (p := ⟨w.heap.size + 1, 3, none⟩) (.inl rfl) (.int .i64 (-1))).setCell (p := ⟨w.heap.size + 1, 4, none⟩) (.inl rfl) (.bool false)
      have hown := ownsRow_turn (own_mono_ O6.out (B' := w.heap.size) (by omega)) tf (fun k hk e => by have := own_ge_ O6.out k hk; omega)
      have htt := TW.out.trans_new tf (fun k hk e => by omega)
      have e0 := hf.cell 0
      have e1 := hf.cell 1
      have e2 := hf.cell 2
      have e3 := hf.cell 3
      have e4 := hf.cell 4
      simp only [List.set_cons_zero, List.set_cons_succ, List.getElem?_cons_zero, List.getElem?_cons_succ] at e0 e1 e2 e3 e4
      clear r0 r1 r2 r3 r4 g0 g1 g2 g3 g4 tf hf
      generalize (((((w6.setCell ⟨w.heap.size + 1, 0, none⟩ (.int .i64 N)).setCell ⟨w.heap.size + 1, 1, none⟩ (.slice A6 ks.length c6)).setCell ⟨w.heap.size + 1, 2, none⟩ (.slice none 0 0)).setCell ⟨w.heap.size + 1, 3, none⟩ (.int .i64 (-1))).setCell ⟨w.heap.size + 1, 4, none⟩ (.bool false)) = WF at *
      exact bodyPost_ret (v := .agg #[.int .i64 N, .slice A6 ks.length c6, .slice none 0 0, .int .i64 (-1), .bool false]) (by simp [results, Try.results21, go_sem, e0, e1, e2, e3, e4]) rfl ⟨A6, c6, rfl, hown, htt⟩
end Go.Proofs.Ytcjoinahelmmpaa
