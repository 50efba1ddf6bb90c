/- Layer 8: the document's Read: its loop (leaf). -/
import Derived.Test.YtcmghbglnkfbaaaPgRi
namespace Go.Proofs.Ytcmghbglnkfbaaa
open Go.RowKit
set_option linter.unusedVariables false
set_option linter.unusedSimpArgs false
set_option maxRecDepth 100000

set_option maxHeartbeats 4000000 in
theorem refReadL (S : ByteArray) (l : List UInt8) (hS : S = ⟨l.toArray⟩) (hl : l.length = 1024) (h0 : l[0]? = some 76) (w : World) :
    Calls Try.prog 6 #[.string S] w fun e w' => ∃ A1 c1 A2 c2 A3 c3, e = .returned (.tuple #[nv8 A1 c1 A2 c2 A3 c3 (rd8 l).1, .int .i64 ((rd8 l).2 : Nat)]) ∧ No w' A1 c1 A2 c2 A3 c3 (rd8 l).1 ∧ Turn (fun _ => False) w w' := by
  have hsz : S.size = 1024 := by rw [hS, ba_sz]; exact hl
  have HN : Hid (∀ W, Calls Try.prog 15 #[.string S, .int .i64 1, .int .i64 2] W fun e w' => e = .returned (.int .i64 (num 2 l 1 : Nat)) ∧ W = w') := Lib.hid (fun W => by have := refNumber_any S l hS 1 2 (by decide) (by omega) (by omega) W; rw [num_wrap8 2 l 1 (by decide)] at this; exact this)
  have hcnt : num 2 l 1 < 65536 := by have := num_lt 2 l 1; simpa using this
  have HC : Hid (num 2 l 1 = num 2 l 1) := Lib.hid rfl
  obtain ⟨cnt, hc⟩ : ∃ c, num 2 l 1 = c := ⟨_, rfl⟩
  have HCN := Lib.hid hc
  rw [hc] at HN hcnt
  have hb0 : ((S[0]'(by omega)).toNat : Int) = 76 := by
    have h1 : 0 < l.length := by omega
    have h2 : l[0] = 76 := by rw [List.getElem?_eq_getElem h1] at h0; injection h0
    have h3 : S[0]'(by omega) = l[0] := by subst hS; rfl
    rw [h3, h2]; rfl
  have HL0 := Lib.hid h0
  have HP1 : Hid (∀ (a : Int), a ≤ 1000000 → ∀ W, Calls Try.prog 17 #[.string S, .int .i64 a, .int .i64 1] W fun e w' => e = .returned (.tuple #[.string (pc8 l a 1).1, .int .i64 (pc8 l a 1).2]) ∧ W = w') := Lib.hid (fun a ha W => refPiece_any S l hS (by omega) a ha 1 (by decide) W)
  have HP2 : Hid (∀ (a : Int), a ≤ 1000000 → ∀ W, Calls Try.prog 17 #[.string S, .int .i64 a, .int .i64 2] W fun e w' => e = .returned (.tuple #[.string (pc8 l a 2).1, .int .i64 (pc8 l a 2).2]) ∧ W = w') := Lib.hid (fun a ha W => refPiece_any S l hS (by omega) a ha 2 (by decide) W)
  have HB := Lib.hid (box_two w [.bool false, .slice none 0 0, .slice none 0 0, .slice none 0 0] [.bool true, .slice none 0 0, .slice none 0 0, .slice none 0 0])
  have T0 := Lib.hid (((Turn.refl (fun _ => False) w).alloc (.cells #[.bool false, .slice none 0 0, .slice none 0 0, .slice none 0 0] 26)).alloc (.cells #[.bool true, .slice none 0 0, .slice none 0 0, .slice none 0 0] 26))
  have LS0 : Hid (Ls l true 0 ⟨true, [], [], []⟩ 3) := Lib.hid ⟨rfl, fun _ => by unfold it8 start8; rw [if_pos h0]; rfl, fun h => by omega, by omega, by omega, Nat.le_refl _, Nat.le_refl _, Nat.zero_le _⟩
  have hlen := hl
  have HLEN := Lib.hid hl
  have HSL := Lib.hid hS
  clear hc hS h0 hl
  go_enter Try.func6, Try.ntmps6
  go_wp2_with fail
  refine (HN.out _).mono ?_
  rintro e w1 ⟨rfl, rfl⟩
  have y0 := HB.out.2.cell 0
  simp only [List.getElem?_cons_zero] at y0
  go_wp2_with fail
  go_loopw [6, 9, 10, 11, 12, 13, 14, 15] (fun v6 v9 v10 v11 v12 v13 v14 v15 wr => ∃ (i : Nat) (a : Int) (n : Nd) (vK vV : Value), v6 = .int .i64 a ∧ v9 = .int .i64 i ∧ i ≤ cnt ∧ Hid (Ls l true i n a) ∧ Hid (n.kids = []) ∧ wr.ownsRow (w.heap.size + 1 + 1) 9 1 vK n.keys.length (n.keys.map Value.string) ∧ wr.ownsRow (w.heap.size + 1 + 1) 9 1 vV n.vals.length (n.vals.map Value.string) ∧ Hid (∀ k, vK.ownBlock = some k → ¬ vV.ownBlock = some k) ∧ Blk wr (w.heap.size + 1) 26 [.bool true, vK, vV, .slice none 0 0] ∧ Blk wr w.heap.size 26 [.bool false, .slice none 0 0, .slice none 0 0, .slice none 0 0] ∧ Turn (fun _ => False) w wr) (fun _ v9 _ _ _ _ _ _ _ => cnt - (intOf v9).toNat)
  case atStart => exact ⟨0, 3, ⟨true, [], [], []⟩, .slice none 0 0, .slice none 0 0, rfl, rfl, Nat.zero_le _, LS0, Lib.hid rfl, own_nil8 _ _ _, own_nil8 _ _ _, Lib.hid (fun k h => by cases h), HB.out.2, HB.out.1, T0.out⟩
  case round =>
    obtain ⟨i, a, n, vK, vV, rfl, rfl, hi, HLS, HKN, hoK, hoV, NA, hBY, hRB, hT⟩ := hrel
    obtain ⟨AK, cK, rfl⟩ := own_slice8 hoK
    obtain ⟨AV, cV, rfl⟩ := own_slice8 hoV
    have HK := Lib.hid hoK
    have HV := Lib.hid hoV
    have BY0 := Lib.hid hBY
    have RB0 := Lib.hid hRB
    have TT0 := Lib.hid hT
    have hyl := hBY.lt
    have ha1 : a ≤ 1000000 := by have := HLS.out.le; omega
    have hnk : n.keys.length ≤ 70000 := by have := HLS.out.nk; omega
    have hnv : n.vals.length ≤ 70000 := by have := HLS.out.nv; omega
    have y0 : wr.cell? ⟨w.heap.size + 1, 0, none⟩ = some (.bool true) := hBY.cell 0
    have y1 : wr.cell? ⟨w.heap.size + 1, 1, none⟩ = some (.slice AK n.keys.length cK) := hBY.cell 1
    have y2 : wr.cell? ⟨w.heap.size + 1, 2, none⟩ = some (.slice AV n.vals.length cV) := hBY.cell 2
    clear hoK hoV hBY hRB hT
    by_cases hlt : i < cnt
    · have hl1 : (i : Int) < (cnt : Int) := by omega
      by_cases h0 : 0 ≤ a
      · have hq := wrap_of ((i : Int) + 1) (by omega) (by omega)
        have LS1 := Lib.hid (HLS.out.stepL h0)
        go_wp2_with fail
        refine (HP1.out a ha1 _).mono ?_
        rintro e wq ⟨rfl, rfl⟩
        go_wp2_with (at_builtin; refine wpList_app1S rfl _ _ rfl (w.heap.size + 1 + 1) (.slice AK n.keys.length cK) n.keys (pc8 l a 1).1 wr.heap.size rfl rfl (own_far8 HK.out ((Turn.refl (fun _ => False) wr).alloc _) (fun _ _ h => h)) (Blk.new wr 9 [.string (pc8 l a 1).1]) (by omega) (by rw [World.size_alloc]; omega) ?_; intro vK XK ho ht hv; obtain ⟨AK2, cK2, rfl⟩ := own_slice8 ho; have hszK := ht.size; rw [World.size_alloc] at hszK hv; have hbk := own_blk8 HK.out; have hbo := own_blk8 HV.out; have BYaK := Lib.hid ((BY0.out.alloc (.cells #[.string (pc8 l a 1).1] 9)).turn ht (fun h => by have := hbk _ h; omega)); have RBaK := Lib.hid ((RB0.out.alloc (.cells #[.string (pc8 l a 1).1] 9)).turn ht (fun h => by have := hbk _ h; omega)); have OTaK := Lib.hid (own_far8 (own_far8 HV.out ((Turn.refl (fun _ => False) wr).alloc (.cells #[.string (pc8 l a 1).1] 9)) (fun _ _ h => h)) ht (fun k hk hk2 => NA.out k hk2 hk)); have TaK := Lib.hid ((TT0.out.alloc (.cells #[.string (pc8 l a 1).1] 9)).trans_new ht (fun k hk h => by have := hbk _ h; omega)); have HOK := Lib.hid ho; have NPK := Lib.hid (show ∀ k, Value.ownBlock (.slice AK2 (n.keys.length + 1) cK2) = some k → ¬ Value.ownBlock (.slice AV n.vals.length cV) = some k from fun k hk hk2 => by have h6 := hbo _ hk2; rcases hv with hv | hv; exact (by rw [hv] at hk; exact NA.out k hk hk2 : False); rw [hv] at hk; injection hk with hk; omega); have hvK := BYaK.out.cell 1; have hfK := BYaK.out.free 1; simp only [List.getElem?_cons_zero, List.getElem?_cons_succ] at hvK; have BYbK := Lib.hid (BYaK.out.put 1 (.slice AK2 (n.keys.length + 1) cK2)); have TPb := (Turn.refl (fun k => k = w.heap.size + 1) XK).setCell (p := ⟨w.heap.size + 1, 1, none⟩) (.inl rfl) (.slice AK2 (n.keys.length + 1) cK2); have RBbK := Lib.hid (RBaK.out.turn TPb (by omega)); have OTbK := Lib.hid (own_far8 OTaK.out TPb (fun k hk e => by have := hbo _ hk; omega)); have HObK := Lib.hid (own_far8 HOK.out TPb (fun k hk e => by have := own_blk8 HOK.out _ hk; omega)); have TbK := Lib.hid (TaK.out.trans_new TPb (fun k hk e => by omega)); have yb0 := BYbK.out.cell 0; have yb1 := BYbK.out.cell 1; have yb2 := BYbK.out.cell 2; simp only [List.getElem?_cons_zero, List.getElem?_cons_succ, List.set_cons_zero, List.set_cons_succ] at yb0 yb1 yb2; clear ho ht hv)
        refine (HP2.out _ (by have := (pc8_le l a 1).1; omega) _).mono ?_
        rintro e wq2 ⟨rfl, rfl⟩
        clear hbk hbo TPb
        have hzXS : XK.heap.size ≤ (XK.setCell ⟨w.heap.size + 1, 1, none⟩ (.slice AK2 (n.keys.length + 1) cK2)).heap.size := by simp
        generalize XK.setCell ⟨w.heap.size + 1, 1, none⟩ (.slice AK2 (n.keys.length + 1) cK2) = XS at *
        go_wp2_with (at_builtin; refine wpList_app1S rfl _ _ rfl (w.heap.size + 1 + 1) (.slice AV n.vals.length cV) n.vals (pc8 l (pc8 l a 1).2 2).1 XS.heap.size rfl rfl (own_far8 OTbK.out ((Turn.refl (fun _ => False) XS).alloc _) (fun _ _ h => h)) (Blk.new XS 9 [.string (pc8 l (pc8 l a 1).2 2).1]) (by omega) (by have := BYbK.out.lt; rw [World.size_alloc]; omega) ?_; intro vV2 XV ho ht hv; obtain ⟨AV2, cV2, rfl⟩ := own_slice8 ho; have hszV := ht.size; rw [World.size_alloc] at hszV hv; have hbk := own_blk8 OTbK.out; have hbo := own_blk8 HObK.out; have BYaV := Lib.hid ((BYbK.out.alloc (.cells #[.string (pc8 l (pc8 l a 1).2 2).1] 9)).turn ht (fun h => by have := hbk _ h; omega)); have RBaV := Lib.hid ((RBbK.out.alloc (.cells #[.string (pc8 l (pc8 l a 1).2 2).1] 9)).turn ht (fun h => by have := hbk _ h; omega)); have OTaV := Lib.hid (own_far8 (own_far8 HObK.out ((Turn.refl (fun _ => False) XS).alloc (.cells #[.string (pc8 l (pc8 l a 1).2 2).1] 9)) (fun _ _ h => h)) ht (fun k hk hk2 => NPK.out k hk hk2)); have TaV := Lib.hid ((TbK.out.alloc (.cells #[.string (pc8 l (pc8 l a 1).2 2).1] 9)).trans_new ht (fun k hk h => by have := hbk _ h; omega)); have HOV := Lib.hid ho; have NPV := Lib.hid (show ∀ k, Value.ownBlock (.slice AK2 (n.keys.length + 1) cK2) = some k → ¬ Value.ownBlock (.slice AV2 (n.vals.length + 1) cV2) = some k from fun k hk2 hk => by have h6 := hbo _ hk2; rcases hv with hv | hv; exact (by rw [hv] at hk; exact NPK.out k hk2 hk : False); rw [hv] at hk; injection hk with hk; omega); have hvV := BYaV.out.cell 2; have hfV := BYaV.out.free 2; simp only [List.getElem?_cons_zero, List.getElem?_cons_succ, List.set_cons_zero, List.set_cons_succ] at hvV; have BYbV := Lib.hid (BYaV.out.put 2 (.slice AV2 (n.vals.length + 1) cV2)); have TPb := (Turn.refl (fun k => k = w.heap.size + 1) XV).setCell (p := ⟨w.heap.size + 1, 2, none⟩) (.inl rfl) (.slice AV2 (n.vals.length + 1) cV2); have RBbV := Lib.hid (RBaV.out.turn TPb (by omega)); have OTbV := Lib.hid (own_far8 OTaV.out TPb (fun k hk e => by have := hbo _ hk; omega)); have HObV := Lib.hid (own_far8 HOV.out TPb (fun k hk e => by have := own_blk8 HOV.out _ hk; omega)); have TbV := Lib.hid (TaV.out.trans_new TPb (fun k hk e => by omega)); clear ho ht hv)
        go_roundw
        case rel => exact ⟨i + 1, _, _, _, _, rfl, by simp, by omega, LS1, Lib.hid HKN.out, by have := OTbV.out; simpa using this, by have := HObV.out; simpa using this, NPV, BYbV.out, RBbV.out, TbV.out⟩
        case measure => simp [intOf]; omega
      · have HG : Hid (rd8 l = (nd0, 4)) := Lib.hid (rd8_none (by
          have h1 := it8_none l (start8 l) hi (HLS.out.gone (by omega))
          unfold read8; rw [HCN.out, h1]; rfl))
        have r0 := RB0.out.cell 0
        have r1 := RB0.out.cell 1
        have r2 := RB0.out.cell 2
        have r3 := RB0.out.cell 3
        have f0 := RB0.out.free 0
        have f1 := RB0.out.free 1
        have f2 := RB0.out.free 2
        have f3 := RB0.out.free 3
        simp only [List.getElem?_cons_zero, List.getElem?_cons_succ] at r0 r1 r2 r3
        have h0' : ¬ (0 : Int) ≤ a := h0
        have hneg : a < 0 := by omega
        obtain ⟨hb, hs⟩ := put4 RB0.out (.bool false) (.slice none 0 0) (.slice none 0 0) (.slice none 0 0)
        have e0 := hb.cell 0
        have e1 := hb.cell 1
        have e2 := hb.cell 2
        have e3 := hb.cell 3
        simp only [List.getElem?_cons_zero, List.getElem?_cons_succ] at e0 e1 e2 e3
        have HT := Lib.hid (TT0.out.trans_new hs (fun k hk e => by omega))
        clear hb hs
        go_wp2_with fail
        exact bodyPost_ret (v := .tuple #[.agg #[.bool false, .slice none 0 0, .slice none 0 0, .slice none 0 0], .int .i64 4]) (by simp [results, Try.results6, go_sem, e0, e1, e2, e3]) rfl ⟨none, 0, none, 0, none, 0, by rw [HG.out]; rfl, by rw [HG.out]; exact ⟨sr_nil _ _, sr_nil _ _, nr_nil _ _⟩, HT.out⟩
    · obtain rfl : i = cnt := by omega
      by_cases h0 : 0 ≤ a
      · have hneg : ¬ a < 0 := by omega
        have hhere := HLS.out.here h0
        have hR8 : read8 l = some n := by unfold read8; rw [HCN.out, hhere]; rfl
        have HF := Lib.hid ((it8_in _ _ _ hhere).few (by omega))
        have HLF := HLS.out.leaf
        have HKE := HKN.out
        have NF : Hid (∀ X, Turn (fun k => k = w.heap.size) wr X → No X AK cK AV cV none 0 n) := Lib.hid (fun X hX => ⟨own_sr8 (own_far8 HK.out hX (fun k hk e => by have := own_blk8 HK.out _ hk; omega)), own_sr8 (own_far8 HV.out hX (fun k hk e => by have := own_blk8 HV.out _ hk; omega)), by rw [HKN.out]; exact nr_nil _ _⟩)
        have HRR := Lib.hid hR8
        clear hR8 hhere HLS HKN y0 y1 y2
        obtain ⟨leaf, K, V, Z⟩ := n
        simp only at HLF HKE
        subst HLF HKE
        simp only at HF NF HRR BY0
        have HCK : Hid (∀ X, Turn (fun _ => False) wr X → Calls Try.prog 18 #[.agg #[.bool true, .slice AK K.length cK, .slice AV V.length cV, .slice none 0 0]] X fun e w' => e = .returned (.int .i64 (check8 ⟨true, K, V, []⟩ : Nat)) ∧ Turn (fun _ => False) X w') := Lib.hid (fun X hX => by
          have := refCheck_any ⟨true, K, V, []⟩ AK cK AV cV none 0 X (NF.out _ (hX.mono (fun _ _ h => h.elim))) HF.out
          rw [chk8_is] at this
          exact this)
        have BW := BY0
        have TW0 := Lib.hid (Turn.refl (fun _ => False) wr)
        have y0 := BY0.out.cell 0
        have y1 := BY0.out.cell 1
        have y2 := BY0.out.cell 2
        have y3 := BY0.out.cell 3
        simp only [List.getElem?_cons_zero, List.getElem?_cons_succ] at y0 y1 y2 y3
        by_cases hc : check8 ⟨true, K, V, []⟩ = 0
        · have HPT : Hid (∀ X, Turn (fun _ => False) wr X → Calls Try.prog 19 #[.agg #[.bool true, .slice AK K.length cK, .slice AV V.length cV, .slice none 0 0]] X fun e w' => e = .returned (.string ⟨(pgb ⟨true, K, V, []⟩).toArray⟩) ∧ Turn (fun _ => False) X w') := Lib.hid (fun X hX => refPutL_any ⟨true, K, V, []⟩ AK cK AV cV none 0 X (NF.out _ (hX.mono (fun _ _ h => h.elim))) HF.out hc rfl)
          rw [hc] at HCK
          have HC := Lib.hid hc
          clear hc
          by_cases hp : pgb ⟨true, K, V, []⟩ = l
          · have HG : Hid (rd8 l = (⟨true, K, V, []⟩, 0)) := Lib.hid (rd8_ok HLEN.out HRR.out HC.out hp)
            rw [hp, ← HSL.out] at HPT
            have heq := bytes_same8 S
            clear hp
            go_wp2_with fail
            refine (HCK.out _ (Turn.refl _ _)).mono ?_
            rintro e w2 ⟨rfl, ht2⟩
            have BY2 := Lib.hid (BY0.out.turn ht2 (fun h => h))
            have z0 := BY2.out.cell 0
            have z1 := BY2.out.cell 1
            have z2 := BY2.out.cell 2
            have z3 := BY2.out.cell 3
            simp only [List.getElem?_cons_zero, List.getElem?_cons_succ] at z0 z1 z2 z3
            have T2 := Lib.hid ht2
            clear ht2
            go_wp2_with fail
            refine (HPT.out _ T2.out).mono ?_
            rintro e w3 ⟨rfl, ht3⟩
            have BY3 := Lib.hid (BY2.out.turn ht3 (fun h => h))
            have v0 := BY3.out.cell 0
            have v1 := BY3.out.cell 1
            have v2 := BY3.out.cell 2
            have v3 := BY3.out.cell 3
            simp only [List.getElem?_cons_zero, List.getElem?_cons_succ] at v0 v1 v2 v3
            have TWq := T2.out.trans ht3
            have RB3 := Lib.hid (RB0.out.turn TWq (fun h => h))
            have T3 := Lib.hid (TT0.out.trans TWq)
            have TW := Lib.hid (TWq.mono (T := fun k => k = w.heap.size) (fun _ _ h => h.elim))
            clear ht3 TWq
            have r0 := RB3.out.cell 0
            have r1 := RB3.out.cell 1
            have r2 := RB3.out.cell 2
            have r3 := RB3.out.cell 3
            have f0 := RB3.out.free 0
            have f1 := RB3.out.free 1
            have f2 := RB3.out.free 2
            have f3 := RB3.out.free 3
            simp only [List.getElem?_cons_zero, List.getElem?_cons_succ] at r0 r1 r2 r3
            obtain ⟨hb, hs⟩ := put4 RB3.out (.bool true) (.slice AK K.length cK) (.slice AV V.length cV) (.slice none 0 0)
            have e0 := hb.cell 0
            have e1 := hb.cell 1
            have e2 := hb.cell 2
            have e3 := hb.cell 3
            simp only [List.getElem?_cons_zero, List.getElem?_cons_succ] at e0 e1 e2 e3
            have HT := Lib.hid (T3.out.trans_new hs (fun k hk e => by omega))
            have HN := Lib.hid (NF.out _ (TW.out.trans hs))
            clear hb hs
            go_wp2_with fail
            exact bodyPost_ret (v := .tuple #[.agg #[.bool true, .slice AK K.length cK, .slice AV V.length cV, .slice none 0 0], .int .i64 0]) (by simp [results, Try.results6, go_sem, e0, e1, e2, e3]) rfl ⟨AK, cK, AV, cV, none, 0, by rw [HG.out]; rfl, by rw [HG.out]; exact HN.out, HT.out⟩
          · have HG : Hid (rd8 l = (nd0, 4)) := Lib.hid (rd8_bad HRR.out (.inr hp))
            have hne : (((⟨(pgb ⟨true, K, V, []⟩).toArray⟩ : ByteArray).toList) != S.toList) = true := by
              rw [HSL.out]
              exact bytes_differ8 hp
            have hne2 : (((⟨(pgb ⟨true, K, V, []⟩).toArray⟩ : ByteArray).toList) == S.toList) = false := by simpa [bne] using hne
            generalize (⟨(pgb ⟨true, K, V, []⟩).toArray⟩ : ByteArray) = PS at *
            clear hp
            go_wp2_with fail
            refine (HCK.out _ (Turn.refl _ _)).mono ?_
            rintro e w2 ⟨rfl, ht2⟩
            have BY2 := Lib.hid (BY0.out.turn ht2 (fun h => h))
            have z0 := BY2.out.cell 0
            have z1 := BY2.out.cell 1
            have z2 := BY2.out.cell 2
            have z3 := BY2.out.cell 3
            simp only [List.getElem?_cons_zero, List.getElem?_cons_succ] at z0 z1 z2 z3
            have T2 := Lib.hid ht2
            clear ht2
            go_wp2_with fail
            refine (HPT.out _ T2.out).mono ?_
            rintro e w3 ⟨rfl, ht3⟩
            have TWq := T2.out.trans ht3
            have RB3 := Lib.hid (RB0.out.turn TWq (fun h => h))
            have T3 := Lib.hid (TT0.out.trans TWq)
            clear ht3 TWq
            have r0 := RB3.out.cell 0
            have r1 := RB3.out.cell 1
            have r2 := RB3.out.cell 2
            have r3 := RB3.out.cell 3
            have f0 := RB3.out.free 0
            have f1 := RB3.out.free 1
            have f2 := RB3.out.free 2
            have f3 := RB3.out.free 3
            simp only [List.getElem?_cons_zero, List.getElem?_cons_succ] at r0 r1 r2 r3
            obtain ⟨hb, hs⟩ := put4 RB3.out (.bool false) (.slice none 0 0) (.slice none 0 0) (.slice none 0 0)
            have e0 := hb.cell 0
            have e1 := hb.cell 1
            have e2 := hb.cell 2
            have e3 := hb.cell 3
            simp only [List.getElem?_cons_zero, List.getElem?_cons_succ] at e0 e1 e2 e3
            have HT := Lib.hid (T3.out.trans_new hs (fun k hk e => by omega))
            clear hb hs
            go_wp2_with fail
            exact bodyPost_ret (v := .tuple #[.agg #[.bool false, .slice none 0 0, .slice none 0 0, .slice none 0 0], .int .i64 4]) (by simp [results, Try.results6, go_sem, e0, e1, e2, e3]) rfl ⟨none, 0, none, 0, none, 0, by rw [HG.out]; rfl, by rw [HG.out]; exact ⟨sr_nil _ _, sr_nil _ _, nr_nil _ _⟩, HT.out⟩
        · have HG : Hid (rd8 l = (nd0, 4)) := Lib.hid (rd8_bad HRR.out (.inl hc))
          have hc1 : ((check8 ⟨true, K, V, []⟩ : Int) != 0) = true := by simp; omega
          have hc2 : ((check8 ⟨true, K, V, []⟩ : Int) == 0) = false := by simp; omega
          have hc3 : ¬ (check8 ⟨true, K, V, []⟩ : Int) = 0 := by omega
          generalize check8 ⟨true, K, V, []⟩ = C at *
          go_wp2_with fail
          refine (HCK.out _ (Turn.refl _ _)).mono ?_
          rintro e w2 ⟨rfl, ht2⟩
          have RB3 := Lib.hid (RB0.out.turn ht2 (fun h => h))
          have T3 := Lib.hid (TT0.out.trans ht2)
          clear ht2
          have r0 := RB3.out.cell 0
          have r1 := RB3.out.cell 1
          have r2 := RB3.out.cell 2
          have r3 := RB3.out.cell 3
          have f0 := RB3.out.free 0
          have f1 := RB3.out.free 1
          have f2 := RB3.out.free 2
          have f3 := RB3.out.free 3
          simp only [List.getElem?_cons_zero, List.getElem?_cons_succ] at r0 r1 r2 r3
          obtain ⟨hb, hs⟩ := put4 RB3.out (.bool false) (.slice none 0 0) (.slice none 0 0) (.slice none 0 0)
          have e0 := hb.cell 0
          have e1 := hb.cell 1
          have e2 := hb.cell 2
          have e3 := hb.cell 3
          simp only [List.getElem?_cons_zero, List.getElem?_cons_succ] at e0 e1 e2 e3
          have HT := Lib.hid (T3.out.trans_new hs (fun k hk e => by omega))
          clear hb hs
          go_wp2_with fail
          exact bodyPost_ret (v := .tuple #[.agg #[.bool false, .slice none 0 0, .slice none 0 0, .slice none 0 0], .int .i64 4]) (by simp [results, Try.results6, go_sem, e0, e1, e2, e3]) rfl ⟨none, 0, none, 0, none, 0, by rw [HG.out]; rfl, by rw [HG.out]; exact ⟨sr_nil _ _, sr_nil _ _, nr_nil _ _⟩, HT.out⟩
      · have HG : Hid (rd8 l = (nd0, 4)) := Lib.hid (rd8_none (by
          have h1 := it8_none l (start8 l) (Nat.le_refl _) (HLS.out.gone (by omega))
          unfold read8; rw [HCN.out, h1]; rfl))
        have hneg : a < 0 := by omega
        have r0 := RB0.out.cell 0
        have r1 := RB0.out.cell 1
        have r2 := RB0.out.cell 2
        have r3 := RB0.out.cell 3
        have f0 := RB0.out.free 0
        have f1 := RB0.out.free 1
        have f2 := RB0.out.free 2
        have f3 := RB0.out.free 3
        simp only [List.getElem?_cons_zero, List.getElem?_cons_succ] at r0 r1 r2 r3
        obtain ⟨hb, hs⟩ := put4 RB0.out (.bool false) (.slice none 0 0) (.slice none 0 0) (.slice none 0 0)
        have e0 := hb.cell 0
        have e1 := hb.cell 1
        have e2 := hb.cell 2
        have e3 := hb.cell 3
        simp only [List.getElem?_cons_zero, List.getElem?_cons_succ] at e0 e1 e2 e3
        have HT := Lib.hid (TT0.out.trans_new hs (fun k hk e => by omega))
        clear hb hs
        go_wp2_with fail
        exact bodyPost_ret (v := .tuple #[.agg #[.bool false, .slice none 0 0, .slice none 0 0, .slice none 0 0], .int .i64 4]) (by simp [results, Try.results6, go_sem, e0, e1, e2, e3]) rfl ⟨none, 0, none, 0, none, 0, by rw [HG.out]; rfl, by rw [HG.out]; exact ⟨sr_nil _ _, sr_nil _ _, nr_nil _ _⟩, HT.out⟩
end Go.Proofs.Ytcmghbglnkfbaaa
