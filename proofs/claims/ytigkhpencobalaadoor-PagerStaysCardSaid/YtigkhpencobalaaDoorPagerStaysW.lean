/- PagerStays: its walk. -/
import Derived.Test.YtigkhpencobalaaDoorPrT
namespace Go.Proofs.YtigkhpencobalaaDoor
open Go.RowKit
set_option linter.unusedVariables false
set_option linter.unusedSimpArgs false
set_option maxRecDepth 100000

theorem pages9_r {S : Nat → Prop} {w : World} {p pd fr : Nat} {st : List Nat} {D : Dsk} (h : Pq S w p pd fr st D) :
    Calls Tryd.prog 36 #[.pointer (some ⟨p, 0, none⟩)] w fun r w' => ∃ v1 v2 v3, r = .returned (.tuple #[v1, v2, v3]) ∧ Rw9 w.heap.size w' v1 (pk9 1 st) ∧ Rw9 w.heap.size w' v3 (pk9 3 st) ∧ Turn (fun _ => False) w w' := by
  obtain ⟨pa, ga, gr, SD, hP, hD, hap, rfl, hroom⟩ := h
  exact (pages9_any hP).mono fun e w' ⟨v1, v2, v3, h1, h2, h3, h4, h5⟩ => ⟨v1, v2, v3, h1, h2, h4, h5⟩
theorem Rw9.full {B : Nat} {w : World} {v : Value} {L : List Int} (h : Rw9 B w v L) (n : Nat) (hn : L.length = n) : ∃ A c, v = .slice A n c ∧ Ir w A L ∧ (A = none → n = 0 ∧ c = 0) := by
  obtain ⟨A, c, e, hi⟩ := h.ir
  subst hn
  refine ⟨A, c, e, hi, fun ha => ?_⟩
  subst ha
  obtain ⟨_, ⟨e2, hz⟩ | ⟨g, c2, cur, e2, _⟩⟩ := h
  · rw [e] at e2; injection e2 with _ e3 e4; exact ⟨e3, e4⟩
  · rw [e] at e2; injection e2 with e3; cases e3
theorem bytes_same9 (s : ByteArray) : (s.toList != s.toList) = false := by simp
theorem Rk.still {S : Nat → Prop} {w w' : World} {v : Value} {L : List Int} (h : Rk S w v L) (ht : Turn (fun _ => False) w w') : Rk S w' v L := h.step (Stp.quiet ht)
def tx9 (D : Dsk) (z : Int) : ByteArray := ⟨(pgs9 D (3 + 8 * z.toNat) 8).toArray⟩
theorem Ks.in_ {fr : Nat} {L : List Int} {D1 D : Dsk} {st : List Nat} (h : Ks fr L D1 st D) : ∀ k : Nat, (k : Int) ∈ L → ∀ q, q < 8 → fr + 8 * k + q < D.kept.length := fun k hk q hq => by
  have h1 := (h.pg k hk).1
  have h2 := h.gd.2
  omega
set_option maxHeartbeats 4000000 in
theorem pagerStays_walk (v1 v2 : Value) (qs1 qs2 : List Acv) (w : World) (h1 : Acts w.heap.size w v1 qs1) (h2 : Acts w.heap.size w v2 qs2) (hT : Tb w) :
    Calls Tryd.prog 4 #[v1, v2] w fun r w' => r = .returned (.bool true) ∧ Below w.heap.size w w' := by
  have HBG := Lib.hid (begun9 v1 qs1 w h1 hT)
  have HF1 := Lib.hid (fun (W : World) (ht : Turn (fun _ => False) w W) => few9_any w.heap.size v1 qs1 W (h1.below (ht.below (Nat.le_refl _) (fun k hk => hk.elim)) (Nat.le_refl _)))
  have HF2 := Lib.hid (fun (W : World) (ht : Turn (fun _ => False) w W) => few9_any w.heap.size v2 qs2 W (h2.below (ht.below (Nat.le_refl _) (fun k hk => hk.elim)) (Nat.le_refl _)))
  have HL := Lib.hid (fun (W : World) (ht : Turn (fun _ => False) w W) => lives9 W (hT.turn ht (fun h => h)))
  have hin := In4.run 3 (List.replicate 8 0) (fresh 70) (in4_none 8) (qs1.take 100)
  have hln := run9_len 3 (List.replicate 8 0) (fresh 70) (qs1.take 100)
  have hgd := Gd.run 3 (List.replicate 8 0) (fresh 70) ⟨⟨rfl, rfl⟩, by show 3 + 8 * (List.replicate 8 0).length ≤ (List.replicate 70 zeros).length; rw [List.length_replicate, List.length_replicate]; decide⟩ (qs1.take 100)
  generalize run9 3 (List.replicate 8 0) (fresh 70) (qs1.take 100) = R0 at *
  obtain ⟨st0, D0⟩ := R0
  simp only at hin hln HBG hgd
  have HGD := Lib.hid hgd
  have HL8 : Hid (st0.length ≤ 8) := Lib.hid (by have := hln.1; rw [List.length_replicate] at this; omega)
  have HPD : Hid (D0.pend.length ≤ 800) := Lib.hid (by
    have h3 : (fresh 70).pend.length = 0 := rfl
    have h4 : (qs1.take 100).length ≤ 100 := by rw [List.length_take]; omega
    omega)
  obtain ⟨A2, c2, rfl, hlen2, hrow2⟩ := h2
  have HA2 := Lib.hid hrow2
  clear h1 hT hin hln hrow2 hgd
  obtain ⟨n2, hn2⟩ : ∃ n, qs2.length = n := ⟨_, rfl⟩
  have HN2 := Lib.hid hn2
  rw [hn2] at hlen2 HF2 ⊢
  clear hn2
  have HFE : Hid (few9 qs2 = true → n2 ≤ 100) := Lib.hid (fun h => by unfold few9 at h; have := HN2.out; simp at h; omega)
  cases hf1 : few9 qs1 with
  | false =>
    rw [hf1] at HF1
    clear hf1
    go_enter Tryd.func4, Tryd.ntmps4
    go_wp2_with fail
    refine HBG.out.mono ?_
    rintro e w1 ⟨p, pd, S1, rfl, hM⟩
    have M1 := Lib.hid hM
    clear hM
    go_wp2_with fail
    refine (HF1.out _ M1.out.tn).mono ?_
    rintro e w2 ⟨rfl, rfl⟩
    go_wp2_with fail
    refine (HL.out _ M1.out.tn).mono ?_
    rintro e w3 ⟨rfl, ht⟩
    have T3 := Lib.hid (M1.out.tn.trans ht)
    clear ht
    go_wp2_with fail
    go_ret
    exact ⟨rfl, T3.out.below (Nat.le_refl _) (fun k hk => hk.elim)⟩
  | true =>
    rw [hf1] at HF1
    clear hf1
    cases hf2 : few9 qs2 with
    | false =>
      rw [hf2] at HF2
      clear hf2
      go_enter Tryd.func4, Tryd.ntmps4
      go_wp2_with fail
      refine HBG.out.mono ?_
      rintro e w1 ⟨p, pd, S1, rfl, hM⟩
      have M1 := Lib.hid hM
      clear hM
      go_wp2_with fail
      refine (HF1.out _ M1.out.tn).mono ?_
      rintro e w2 ⟨rfl, rfl⟩
      go_wp2_with fail
      refine (HF2.out _ M1.out.tn).mono ?_
      rintro e w2 ⟨rfl, rfl⟩
      go_wp2_with fail
      refine (HL.out _ M1.out.tn).mono ?_
      rintro e w3 ⟨rfl, ht⟩
      have T3 := Lib.hid (M1.out.tn.trans ht)
      clear ht
      go_wp2_with fail
      go_ret
      exact ⟨rfl, T3.out.below (Nat.le_refl _) (fun k hk => hk.elim)⟩
    | true =>
      have hn2 := HFE.out hf2
      rw [hf2] at HF2
      clear hf2 HFE
      go_enter Tryd.func4, Tryd.ntmps4
      go_wp2_with fail
      refine HBG.out.mono ?_
      rintro e w1 ⟨p, pd, S1, rfl, hM⟩
      have M1 := Lib.hid hM
      clear hM
      go_wp2_with fail
      refine (HF1.out _ M1.out.tn).mono ?_
      rintro e w2 ⟨rfl, rfl⟩
      go_wp2_with fail
      refine (HF2.out _ M1.out.tn).mono ?_
      rintro e w2 ⟨rfl, rfl⟩
      go_wp2_with fail
      refine (flush9_q M1.out.q (by have := HPD.out; omega)).mono ?_
      rintro e w3 ⟨rfl, S3, hq, hs⟩
      obtain ⟨fg1, fg2, fg3⟩ := flush_good HGD.out.1
      have hfl := (flush_len D0).1
      rw [fg1]
      have M3 := Lib.hid (M1.out.go hq hs)
      have HG3 : Hid (Gd 3 st0 D0.flush.1) := Lib.hid ⟨fg2, by rw [hfl]; exact HGD.out.2⟩
      clear hq hs M1 fg1 fg2 hfl
      generalize D0.flush.1 = D1 at *
      have HK0 := Lib.hid (Ks.start HG3.out fg3)
      have HPE : Hid (D1.pend.length ≤ 0) := Lib.hid (by rw [fg3]; exact Nat.le_refl _)
      clear fg3 HG3
      go_wp2_with fail
      refine (pages9_r M3.out.q).mono ?_
      rintro e w4 ⟨x1, x2, x3, rfl, r1, r3, ht⟩
      obtain ⟨n1, hn1⟩ : ∃ n, (pk9 1 st0).length = n := ⟨_, rfl⟩
      obtain ⟨n3, hn3⟩ : ∃ n, (pk9 3 st0).length = n := ⟨_, rfl⟩
      have hb1 := pkTo_le 1 st0 st0.length
      have hb3 := pkTo_le 3 st0 st0.length
      have hc1 : n1 ≤ 8 := by have := HL8.out; have : (pk9 1 st0).length ≤ st0.length := hb1; omega
      have hc3 : n3 ≤ 8 := by have := HL8.out; have : (pk9 3 st0).length ≤ st0.length := hb3; omega
      obtain ⟨A5, c5, rfl, hi5, hz5⟩ := r1.full n1 hn1
      obtain ⟨A6, c6, rfl, hi6, hz6⟩ := r3.full n3 hn3
      have M4 := Lib.hid (M3.out.still ht)
      have I5 := Lib.hid hi5
      have I6 := Lib.hid hi6
      have Z5 := Lib.hid hz5
      have Z6 := Lib.hid hz6
      have N1 := Lib.hid hn1
      have N3 := Lib.hid hn3
      clear r1 r3 hi5 hi6 hz5 hz6 hn1 hn3 hb1 hb3 ht M3
      go_wp2_with (first
        | (at_builtin; refine wpList_appI9 rfl _ _ rfl w4.heap.size (.slice (some ⟨w4.heap.size, 0, none⟩) 0 0) [] (pk9 1 st0) A5 n1 c5 rfl rfl own_new (I5.out.still ((Turn.refl _ _).alloc _)) N1.out Z5.out (by simp; omega) (by simp) ?_; intro vA XA ho ht; have HOA := Lib.hid ho; have TA := Lib.hid ((((Turn.refl (fun _ => False) w4).alloc (.cells #[] 3))).trans_new ht (fun k hk h => by have h9 : some w4.heap.size = some k := h; injection h9 with h9; omega)); clear ho ht)
        | (at_builtin; refine wpList_appI9 rfl _ _ rfl w4.heap.size vA ([] ++ pk9 1 st0) (pk9 3 st0) A6 n3 c6 rfl rfl HOA.out (I6.out.still TA.out) N3.out Z6.out (by have h7 := N1.out; simp only [List.nil_append]; omega) TA.out.size ?_; intro vB XB ho ht; have HOB := Lib.hid ho; have TB := Lib.hid (TA.out.trans_new ht (fun k hk h => by have := (own_blk9 HOA.out k h).1; omega)); clear ho ht))
      have hz4 := TB.out.size
      have HAL : Hid (Rk S3 XB vB (pk9 1 st0 ++ pk9 3 st0)) := Lib.hid (by
        have h8 := rk_of (S := S3) (show Rw9 w4.heap.size XB vB ([] ++ pk9 1 st0 ++ pk9 3 st0) from HOB.out) M4.out.q.lt
        simpa using h8)
      have MB := Lib.hid (M4.out.still TB.out)
      have HLN : Hid ((pk9 1 st0 ++ pk9 3 st0).length ≤ 16) := Lib.hid (by rw [List.length_append, N1.out, N3.out]; omega)
      clear HOA HOB TA TB M4 I5 I6 Z5 Z6 N1 N3 hz4
      have HIL : Hid (∀ z ∈ pk9 1 st0 ++ pk9 3 st0, (0 : Int) ≤ z) := Lib.hid (fun z hz => by rcases List.mem_append.1 hz with h | h <;> exact (pk9_in _ _ z h).1)
      generalize pk9 1 st0 ++ pk9 3 st0 = L at *
      obtain ⟨AL, cL, rfl, hRL⟩ := HAL.out
      obtain ⟨nL, hnL⟩ : ∃ n, L.length = n := ⟨_, rfl⟩
      have HNL := Lib.hid hnL
      rw [hnL] at HLN ⊢
      have hn16 := HLN.out
      have HRL := Lib.hid hRL
      clear hnL hRL HAL HLN
      go_loopw [11, 12, 13, 14] (fun v11 v12 v13 v14 wr => ∃ j : Nat, j ≤ nL ∧ v12 = .int .i64 j ∧ wr.ownsRow XB.heap.size 9 1 v11 ((L.take j).map (tx9 D1)).length (((L.take j).map (tx9 D1)).map Value.string) ∧ Turn (fun _ => False) XB wr) (fun _ v12 _ _ _ => nL - (intOf v12).toNat)
      case atStart => exact ⟨0, Nat.zero_le _, rfl, ⟨rfl, .inl ⟨rfl, rfl⟩⟩, Turn.refl _ _⟩
      case round =>
        obtain ⟨j, hj, rfl, ho, ht⟩ := hrel
        obtain ⟨AW, cW, rfl⟩ := own_slice9 ho
        have HO := Lib.hid ho
        have TT := Lib.hid ht
        clear ho ht
        have hlW : ((L.take j).map (tx9 D1)).length ≤ 16 := by rw [List.length_map, List.length_take]; have := HNL.out; omega
        obtain ⟨mW, hmW⟩ : ∃ m, ((L.take j).map (tx9 D1)).length = m := ⟨_, rfl⟩
        have HMW := Lib.hid hmW
        rw [hmW] at hlW ⊢
        clear hmW
        by_cases hlt : j < nL
        · have hl1 : (j : Int) < (nL : Int) := by omega
          have hl0 : (0 : Int) ≤ (j : Int) := by omega
          have hq := wrap_of ((j : Int) + 1) (by omega) (by omega)
          have hjL : j < L.length := by rw [HNL.out]; exact hlt
          obtain ⟨z, hz⟩ : ∃ z, L[j]? = some z := ⟨_, List.getElem?_eq_getElem hjL⟩
          have hzm : z ∈ L := List.mem_of_getElem? hz
          obtain ⟨b, rfl, hb1, _, hb3⟩ := HRL.out j z hz
          have c0 : wr.cell? ⟨b, j, none⟩ = some (.int .i64 z) := (World.cell?_of_block (w := XB) (a := ⟨b, j, none⟩) (TT.out.block b hb1 (fun h => h))).trans hb3
          obtain ⟨k, rfl⟩ : ∃ k : Nat, z = k := ⟨z.toNat, by have := HIL.out z hzm; omega⟩
          have HRD := Lib.hid (read9_k (MB.out.still TT.out).q HK0.out k hzm)
          have HNX : Hid ((L.take (j + 1)).map (tx9 D1) = (L.take j).map (tx9 D1) ++ [tx9 D1 (k : Int)]) := Lib.hid (by
            rw [List.take_add_one, hz, List.map_append]; rfl)
          have HTX : Hid (tx9 D1 (k : Int) = ⟨(pgs9 D1 (3 + 8 * k) 8).toArray⟩) := Lib.hid (by unfold tx9; rw [Int.toNat_natCast])
          obtain ⟨TXT, hTXT⟩ : ∃ s, tx9 D1 (k : Int) = s := ⟨_, rfl⟩
          rw [hTXT] at HNX HTX
          clear hz hzm hjL hTXT hb3
          go_wp2_with fail
          refine HRD.out.mono ?_
          rintro e w5 ⟨AR, cR, rfl, hsl, ht5⟩
          have hcv := sl_conv hsl
          rw [← HTX.out] at hcv
          have T5 := Lib.hid (TT.out.trans ht5)
          have O5 := Lib.hid (own_far9 HO.out ht5 (fun _ _ h => h))
          clear hsl ht5 HRD
          go_wp2_with (at_builtin; refine wpList_app1S9 rfl _ _ rfl XB.heap.size (.slice AW mW cW) ((L.take j).map (tx9 D1)) TXT w5.heap.size rfl rfl (by have h8 := own_far9 O5.out ((Turn.refl (fun _ => False) w5).alloc (.cells #[.string TXT] 9)) (fun _ _ h => h); rw [HMW.out] at h8 ⊢; exact h8) (Blk.new w5 9 [.string TXT]) (by rw [HMW.out]; omega) (by have := T5.out.size; rw [World.size_alloc]; omega) ?_; intro vN XN ho ht; have HON := Lib.hid ho; have TN := Lib.hid ((T5.out.alloc (.cells #[.string TXT] 9)).trans_new ht (fun q hq h => by have h8 := O5.out; rw [HMW.out] at h8; have := (own_blk9 h8 q h).1; omega)); clear ho ht)
          go_roundw
          case rel => exact ⟨j + 1, by omega, by simp [hq], by rw [HNX.out, List.length_append]; exact HON.out, TN.out⟩
          case measure => simp [intOf, hq]; omega
        · obtain rfl : j = nL := by omega
          have HWS : Hid (L.take j = L) := Lib.hid (by rw [← HNL.out, List.take_length])
          rw [HWS.out] at HO HMW
          have MC := Lib.hid (MB.out.still TT.out)
          have HRW : Hid (Rks S3 wr AW (L.map (tx9 D1))) := Lib.hid (rks_of (B := XB.heap.size) (by have h8 := HO.out; rw [HMW.out] at h8; exact h8) MB.out.q.lt)
          have HRA : Hid (Rk S3 wr (.slice AL j cL) L) := Lib.hid (Rk.still ⟨AL, cL, by rw [HNL.out], HRL.out⟩ TT.out)
          have hPE : D1.pend.length ≤ 800 := by have := HPE.out; omega
          have HP0 := Lib.hid hPE
          clear hPE HO TT HWS MB
          go_wp2_with fail
          go_loopw [15] (fun v15 wx => ∃ (i : Nat) (Sj : Nat → Prop) (stj : List Nat) (Dj : Dsk), i ≤ n2 ∧ v15 = .int .i64 i ∧ Mk9 w Sj wx p pd 3 stj Dj ∧ Hid (Ks 3 L D1 stj Dj) ∧ Hid (Dj.pend.length ≤ 800 + 8 * i) ∧ Rk Sj wx (.slice AL j cL) L ∧ Rks Sj wx AW (L.map (tx9 D1))) (fun v15 _ => n2 - (intOf v15).toNat)
          case atStart => exact ⟨0, S3, st0, D1, Nat.zero_le _, rfl, MC.out, HK0, HP0, HRA.out, HRW.out⟩
          case round =>
            obtain ⟨i, Sj, stj, Dj, hi, rfl, hM, HSN, HPJ, hR, hW⟩ := hrel
            have MM := Lib.hid hM
            have RR := Lib.hid hR
            have WW := Lib.hid hW
            clear hM hR hW
            by_cases hlt2 : i < n2
            · have hl1 : (i : Int) < (n2 : Int) := by omega
              have hl0 : (0 : Int) ≤ (i : Int) := by omega
              have hq := wrap_of ((i : Int) + 1) (by omega) (by omega)
              have hjL : i < qs2.length := by rw [HN2.out]; exact hlt2
              obtain ⟨a, ha⟩ : ∃ a, qs2[i]? = some a := ⟨_, List.getElem?_eq_getElem hjL⟩
              obtain ⟨b, o, rfl, hb, hcs⟩ := HA2.out (by rw [HN2.out]; omega)
              obtain ⟨⟨k0, k1, k2, k3⟩, hiv, _, _⟩ := hcs i a ha
              have hcell : ∀ q v, w.cell? ⟨b, q, none⟩ = some v → wr.cell? ⟨b, q, none⟩ = some v := fun q v hv => (World.cell?_of_block (w := w) (a := ⟨b, q, none⟩) (MM.out.tn.block b hb (fun h => h))).trans hv
              have c0 := hcell _ _ k0
              have c1 := hcell _ _ k1
              have c2' := hcell _ _ k2
              have c3 := hcell _ _ k3
              have HIV := Lib.hid ((hiv.below (MM.out.tn.below (Nat.le_refl _) (fun k hk => hk.elim)) (Nat.le_refl _)).iv (S := Sj) MM.out.tn.size MM.out.new)
              have HPN : Hid (Dj.pend.length + 8 < 1000000000) := Lib.hid (by have := HPJ.out; omega)
              have HPL := Lib.hid (play9_any MM.out.q a HIV.out hiv.len HPN.out)
              have HP2 := Lib.hid (len_pl9 3 stj Dj a).2
              clear hcs hcell k0 k1 k2 k3 ha hjL hiv
              by_cases hk3 : a.k = 3
              · clear HPL HP2
                go_wp2_with fail
                go_roundw
                case rel => exact ⟨i + 1, Sj, stj, Dj, by omega, by simp [hq], MM.out, HSN, Lib.hid (by have := HPJ.out; omega), RR.out, WW.out⟩
                case measure => simp [intOf, hq]; omega
              · have y1 : (a.k != 3) = true := bne_iff_ne.2 hk3
                have HSN2 := Lib.hid (HSN.out.pl HSN.out.in_ a hk3)
                go_wp2_with fail
                refine HPL.out.mono ?_
                rintro e w6 ⟨rfl, S6, hq6, hs6⟩
                have M6 := Lib.hid (MM.out.go hq6 hs6)
                have R6 := Lib.hid (RR.out.step hs6)
                have W6 := Lib.hid (WW.out.step hs6)
                clear hq6 hs6
                go_wp2_with fail
                go_roundw
                case rel => exact ⟨i + 1, S6, _, _, by omega, by simp [hq], M6.out, HSN2, Lib.hid (by have := HPJ.out; have := HP2.out; omega), R6.out, W6.out⟩
                case measure => simp [intOf, hq]; omega
            · have hl1 : ¬ (i : Int) < (n2 : Int) := by omega
              obtain ⟨wx, rfl⟩ : ∃ W, W = wr := ⟨_, rfl⟩
              go_wp2_with fail
              go_loopw [16, 17, 18] (fun v16 v17 v18 wy => ∃ q : Nat, q ≤ j ∧ v16 = .int .i64 q ∧ Turn (fun _ => False) wx wy) (fun v16 _ _ _ => j - (intOf v16).toNat)
              case atStart => exact ⟨0, Nat.zero_le _, rfl, Turn.refl _ _⟩
              case round =>
                obtain ⟨q, hqj, rfl, ht⟩ := hrel
                have TT := Lib.hid ht
                clear ht
                by_cases hlt3 : q < j
                · have hl3 : (q : Int) < (j : Int) := by omega
                  have hl0 : (0 : Int) ≤ (q : Int) := by omega
                  have hq := wrap_of ((q : Int) + 1) (by omega) (by omega)
                  have hjL : q < L.length := by rw [HNL.out]; exact hlt3
                  obtain ⟨z, hz⟩ : ∃ z, L[q]? = some z := ⟨_, List.getElem?_eq_getElem hjL⟩
                  have hzm : z ∈ L := List.mem_of_getElem? hz
                  obtain ⟨AL2, cL2, eAL, hAL⟩ := RR.out
                  obtain ⟨b, e2, hb1, _, hb3⟩ := hAL q z hz
                  injection eAL with e3 e4 e5
                  subst e3
                  subst e2
                  have c0 : wr.cell? ⟨b, q, none⟩ = some (.int .i64 z) := (World.cell?_of_block (w := wx) (a := ⟨b, q, none⟩) (TT.out.block b hb1 (fun h => h))).trans hb3
                  obtain ⟨k, rfl⟩ : ∃ k : Nat, z = k := ⟨z.toNat, by have := HIL.out z hzm; omega⟩
                  have HRD := Lib.hid (read9_k (MM.out.still TT.out).q HSN.out k hzm)
                  have HTX : Hid (tx9 D1 (k : Int) = ⟨(pgs9 D1 (3 + 8 * k) 8).toArray⟩) := Lib.hid (by unfold tx9; rw [Int.toNat_natCast])
                  obtain ⟨b2, e6, hb4, _, hb5⟩ := WW.out q (tx9 D1 (k : Int)) (by rw [List.getElem?_map, hz]; rfl)
                  subst e6
                  obtain ⟨TXT, hTXT⟩ : ∃ s, tx9 D1 (k : Int) = s := ⟨_, rfl⟩
                  rw [hTXT] at HTX hb5
                  have HSM := bytes_same9 TXT
                  have HCW := Lib.hid (fun (W : World) (hW : Turn (fun _ => False) wx W) => (World.cell?_of_block (w := wx) (a := ⟨b2, q, none⟩) (hW.block b2 hb4 (fun h => h))).trans hb5)
                  have hmq : (q : Int) < (mW : Int) := by have := HMW.out; rw [List.length_map, HNL.out] at this; omega
                  clear hz hzm hjL hTXT hb3 hb5 hAL e4 e5
                  go_wp2_with fail
                  refine HRD.out.mono ?_
                  rintro e w7 ⟨AR, cR, rfl, hsl, ht7⟩
                  have T7 := Lib.hid (TT.out.trans ht7)
                  have hcv := sl_conv (w := w7.drew) (by first | exact hsl.turn8 ((Turn.refl (fun _ => False) w7).drew) | exact hsl.turn ((Turn.refl (fun _ => False) w7).drew) (by first | assumption | omega | exact Nat.le_refl _) (fun _ _ h => h))
                  rw [← HTX.out] at hcv
                  clear hsl ht7 HRD
                  go_wp2_with fail
                  have cwd := HCW.out _ T7.out.drew
                  refine wp_region_noPanic ?_
                  refine wp_region_held_drew (S := fun X => X.cell? ⟨b2, q, none⟩ = some (.string TXT) ∧ (convert 47 9 (.slice AR 1024 cR)).run Tryd.prog X = .ok (.string TXT) X) (by kernel_rfl) ⟨cwd, hcv⟩ (fun hHeld => ?_)
                  refine wpAnyH_take (i := 0) (v := ?_) rfl (by kernel_rfl) (by kernel_rfl) (by kernel_rfl) (fun _ _ _ h => h) (Or.inl ⟨by rfl, ?_⟩) (by assumption) ?_
                  rotate_left 1
                  · intro w' hSw
                    go_simp
                    all_goals first | with_reducible rfl | (rw [if_neg (by omega)]; done) | (rw [if_pos (by omega)]; done) | (rw [if_neg (by omega)]; with_reducible rfl) | (rw [if_pos (by omega)]; with_reducible rfl)
                  try simp only [List.getElem_toArray, List.getElem_cons_zero, Act.put, List.setIfInBounds_toArray, List.set_cons_zero, List.set_cons_succ]
                  refine wpAnyH_take (i := 1) (v := ?_) rfl (by kernel_rfl) (by kernel_rfl) (by kernel_rfl) (fun _ _ _ h => h) (Or.inl ⟨by rfl, ?_⟩) (by assumption) ?_
                  rotate_left 1
                  · intro w' hSw
                    go_simp
                    all_goals first | with_reducible rfl | (rw [if_neg (by omega)]; done) | (rw [if_pos (by omega)]; done) | (rw [if_neg (by omega)]; with_reducible rfl) | (rw [if_pos (by omega)]; with_reducible rfl)
                  try simp only [List.getElem_toArray, List.getElem_cons_zero, List.getElem_cons_succ, Act.put, List.setIfInBounds_toArray, List.set_cons_zero, List.set_cons_succ]
                  refine wpAnyH_take (i := 2) (v := ?_) rfl (by kernel_rfl) (by kernel_rfl) (by kernel_rfl) (fun _ _ _ h => h) (Or.inl ⟨by rfl, ?_⟩) (by assumption) ?_
                  rotate_left 1
                  · intro w' hSw
                    go_simp
                    all_goals first | with_reducible rfl | (rw [if_neg (by omega)]; done) | (rw [if_pos (by omega)]; done) | (rw [if_neg (by omega)]; with_reducible rfl) | (rw [if_pos (by omega)]; with_reducible rfl)
                  try simp only [List.getElem_toArray, List.getElem_cons_zero, List.getElem_cons_succ, Act.put, List.setIfInBounds_toArray, List.set_cons_zero, List.set_cons_succ]
                  refine wpAnyH_take (i := 3) (v := ?_) rfl (by kernel_rfl) (by kernel_rfl) (by kernel_rfl) (fun _ _ _ h => h) (Or.inl ⟨by rfl, ?_⟩) (by assumption) ?_
                  rotate_left 1
                  · intro w' hSw
                    go_simp
                    all_goals first | with_reducible rfl | (rw [if_neg (by omega)]; done) | (rw [if_pos (by omega)]; done) | (rw [if_neg (by omega)]; with_reducible rfl) | (rw [if_pos (by omega)]; with_reducible rfl)
                  try simp only [List.getElem_toArray, List.getElem_cons_zero, List.getElem_cons_succ, Act.put, List.setIfInBounds_toArray, List.set_cons_zero, List.set_cons_succ]
                  refine wpAnyH_take (i := 4) (v := ?_) rfl (by kernel_rfl) (by kernel_rfl) (by kernel_rfl) (fun _ _ _ h => h) (Or.inl ⟨by rfl, ?_⟩) (by assumption) ?_
                  rotate_left 1
                  · intro w' hSw
                    obtain ⟨hS1, hS2⟩ := hSw
                    go_simp
                    all_goals first | with_reducible rfl | (rw [if_neg (by omega)]; done) | (rw [if_pos (by omega)]; done) | (rw [if_neg (by omega)]; with_reducible rfl) | (rw [if_pos (by omega)]; with_reducible rfl)
                  try simp only [List.getElem_toArray, List.getElem_cons_zero, List.getElem_cons_succ, Act.put, List.setIfInBounds_toArray, List.set_cons_zero, List.set_cons_succ]
                  refine wpAnyH_take (i := 5) (v := ?_) rfl (by kernel_rfl) (by kernel_rfl) (by kernel_rfl) (fun _ _ _ h => h) (Or.inl ⟨by rfl, ?_⟩) (by assumption) ?_
                  rotate_left 1
                  · intro w' hSw
                    go_simp
                    all_goals first | with_reducible rfl | (rw [if_neg (by omega)]; done) | (rw [if_pos (by omega)]; done) | (rw [if_neg (by omega)]; with_reducible rfl) | (rw [if_pos (by omega)]; with_reducible rfl)
                  try simp only [List.getElem_toArray, List.getElem_cons_zero, List.getElem_cons_succ, Act.put, List.setIfInBounds_toArray, List.set_cons_zero, List.set_cons_succ]
                  refine wpAnyH_take (i := 6) (v := ?_) rfl (by kernel_rfl) (by kernel_rfl) (by kernel_rfl) (fun _ _ _ h => h) (Or.inl ⟨by rfl, ?_⟩) (by assumption) ?_
                  rotate_left 1
                  · intro w' hSw
                    go_simp
                    all_goals first | with_reducible rfl | (rw [if_neg (by omega)]; done) | (rw [if_pos (by omega)]; done) | (rw [if_neg (by omega)]; with_reducible rfl) | (rw [if_pos (by omega)]; with_reducible rfl)
                  try simp only [List.getElem_toArray, List.getElem_cons_zero, List.getElem_cons_succ, Act.put, List.setIfInBounds_toArray, List.set_cons_zero, List.set_cons_succ]
                  refine wpAnyH_take (i := 7) (v := ?_) rfl (by kernel_rfl) (by kernel_rfl) (by kernel_rfl) (fun _ _ _ h => h) (Or.inl ⟨by rfl, ?_⟩) (by assumption) ?_
                  rotate_left 1
                  · intro w' hSw
                    go_simp
                    all_goals first | with_reducible rfl | (rw [if_neg (by omega)]; done) | (rw [if_pos (by omega)]; done) | (rw [if_neg (by omega)]; with_reducible rfl) | (rw [if_pos (by omega)]; with_reducible rfl)
                  try simp only [List.getElem_toArray, List.getElem_cons_zero, List.getElem_cons_succ, Act.put, List.setIfInBounds_toArray, List.set_cons_zero, List.set_cons_succ]
                  refine wpAnyH_take (i := 8) (v := ?_) rfl (by kernel_rfl) (by kernel_rfl) (by kernel_rfl) (fun _ _ _ h => h) (Or.inl ⟨by rfl, ?_⟩) (by assumption) ?_
                  rotate_left 1
                  · intro w' hSw
                    obtain ⟨hS1, hS2⟩ := hSw
                    go_simp
                    all_goals first | with_reducible rfl | (rw [if_neg (by omega)]; done) | (rw [if_pos (by omega)]; done) | (rw [if_neg (by omega)]; with_reducible rfl) | (rw [if_pos (by omega)]; with_reducible rfl)
                  try simp only [List.getElem_toArray, List.getElem_cons_zero, List.getElem_cons_succ, Act.put, List.setIfInBounds_toArray, List.set_cons_zero, List.set_cons_succ]
                  refine wpAnyH_take (i := 9) (v := ?_) rfl (by kernel_rfl) (by kernel_rfl) (by kernel_rfl) (fun _ _ _ h => h) (Or.inl ⟨by rfl, ?_⟩) (by assumption) ?_
                  rotate_left 1
                  · intro w' hSw
                    go_simp
                    all_goals first | with_reducible rfl | (rw [if_neg (by omega)]; done) | (rw [if_pos (by omega)]; done) | (rw [if_neg (by omega)]; with_reducible rfl) | (rw [if_pos (by omega)]; with_reducible rfl)
                  try simp only [List.getElem_toArray, List.getElem_cons_zero, List.getElem_cons_succ, Act.put, List.setIfInBounds_toArray, List.set_cons_zero, List.set_cons_succ]
                  refine wpAnyH_take (i := 10) (v := ?_) rfl (by kernel_rfl) (by kernel_rfl) (by kernel_rfl) (fun _ _ _ h => h) (Or.inl ⟨by rfl, ?_⟩) (by assumption) ?_
                  rotate_left 1
                  · intro w' hSw
                    go_simp
                    all_goals first | with_reducible rfl | (rw [if_neg (by omega)]; done) | (rw [if_pos (by omega)]; done) | (rw [if_neg (by omega)]; with_reducible rfl) | (rw [if_pos (by omega)]; with_reducible rfl)
                  try simp only [List.getElem_toArray, List.getElem_cons_zero, List.getElem_cons_succ, Act.put, List.setIfInBounds_toArray, List.set_cons_zero, List.set_cons_succ]
                  refine wpAnyH_done (by kernel_rfl) ?_ _
                  refine NoPanic.normal ?_
                  go_wp2_with fail
                  go_roundw
                  case rel => exact ⟨q + 1, by omega, by simp [hq], T7.out.drew⟩
                  case measure => simp [intOf, hq]; omega
                · obtain rfl : q = j := by omega
                  have M9 := Lib.hid (MM.out.still TT.out)
                  go_wp2_with fail
                  refine (HL.out _ M9.out.tn).mono ?_
                  rintro e w10 ⟨rfl, ht⟩
                  have T9 := Lib.hid (M9.out.tn.trans ht)
                  clear ht
                  go_wp2_with fail
                  go_ret
                  exact ⟨rfl, T9.out.below (Nat.le_refl _) (fun k hk => hk.elim)⟩
end Go.Proofs.YtigkhpencobalaaDoor
