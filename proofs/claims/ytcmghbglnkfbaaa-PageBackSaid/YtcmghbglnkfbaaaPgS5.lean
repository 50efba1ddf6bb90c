/- Layer 8: the program's Read; the document's Read of whatever bytes. -/
import Derived.Test.YtcmghbglnkfbaaaPgS3
import Derived.Test.YtcmghbglnkfbaaaPgS4
import Derived.Test.YtcmghbglnkfbaaaPgRe
import Derived.Test.YtcmghbglnkfbaaaPgRh
import Derived.Test.YtcmghbglnkfbaaaPgRj
import Derived.Test.YtcmghbglnkfbaaaPgN
namespace Go.Proofs.Ytcmghbglnkfbaaa
open Go.RowKit
set_option linter.unusedVariables false
set_option linter.unusedSimpArgs false
set_option maxRecDepth 100000

theorem ba_ne8 {S T : ByteArray} (h : S ≠ T) : (S.toList == T.toList) = false := by
  have : S.toList ≠ T.toList := fun e => h (by
    have h1 : S.data.toList = T.data.toList := by rw [ByteArray.toList_eq, ByteArray.toList_eq] at e; exact e
    exact ByteArray.ext (Array.ext' h1))
  simpa using this
theorem equal8 (v1 v2 : Value) (l1 l2 : List UInt8) (w : World) (B1 B2 : Nat) (h1 : Sl w B1 v1 l1) (h2 : Sl w B2 v2 l2) :
    Calls Try.prog 14 #[v1, v2] w fun e w' => e = .returned (.bool (decide (l1 = l2))) ∧ w = w' := by
  have c1 := sl_conv h1
  have c2 := sl_conv h2
  obtain ⟨A1, k1, rfl, _⟩ := h1
  obtain ⟨A2, k2, rfl, _⟩ := h2
  generalize l1.length = n1 at *
  generalize l2.length = n2 at *
  by_cases he : l1 = l2
  · subst he
    rw [decide_eq_true (p := l1 = l1) rfl]
    obtain ⟨S, hS⟩ : ∃ S : ByteArray, ⟨l1.toArray⟩ = S := ⟨_, rfl⟩
    rw [hS] at c1 c2
    have hs := str_same S
    clear hS
    go_enter Try.func14, Try.ntmps14
    go_wp2
    go_ret
    exact ⟨rfl, rfl⟩
  · rw [decide_eq_false he]
    have hne : (⟨l1.toArray⟩ : ByteArray) ≠ ⟨l2.toArray⟩ := fun e => he (by injection e with e; simpa using e)
    obtain ⟨S, hS⟩ : ∃ S : ByteArray, ⟨l1.toArray⟩ = S := ⟨_, rfl⟩
    obtain ⟨T, hT⟩ : ∃ S : ByteArray, ⟨l2.toArray⟩ = S := ⟨_, rfl⟩
    rw [hS] at c1 hne
    rw [hT] at c2 hne
    have hs := ba_ne8 hne
    clear hS hT hne he
    go_enter Try.func14, Try.ntmps14
    go_wp2
    go_ret
    exact ⟨rfl, rfl⟩
theorem fields_any (p : Nat) (l : List UInt8) (hl : l.length = 1024) (w : World) (hR : Rdr w p l 0 0) :
    Calls Try.prog 12 #[.pointer (some ⟨p, 0, none⟩)] w fun e w' => ∃ A1 c1 A2 c2 A3 c3, e = .returned (.tuple #[nv8 A1 c1 A2 c2 A3 c3 ((read8 l).getD nd0), .bool (read8 l).isSome]) ∧ (∀ X, Turn (fun k => k ≤ w.heap.size) w' X → No X A1 c1 A2 c2 A3 c3 ((read8 l).getD nd0)) ∧ Turn (fun k => k = p) w w' := by
  by_cases h0 : l[0]? = some 76
  · exact fieldsL p l hl h0 w hR
  · exact fieldsK p l hl h0 w hR
theorem read8_few {l : List UInt8} (hl : l.length ≤ 2000) {n : Nd} (h : read8 l = some n) : Few8 n := by
  unfold read8 at h
  cases hi : it8 l (start8 l) (num 2 l 1) with
  | none => rw [hi] at h; cases h
  | some x =>
    obtain ⟨m, b⟩ := x
    rw [hi] at h
    injection h with h
    subst h
    exact (it8_in _ _ _ hi).few hl
set_option maxHeartbeats 4000000 in
theorem read_1024 (B : Nat) (v : Value) (l : List UInt8) (w : World) (hA : Sl w B v l) (hB : B ≤ w.heap.size) (hl : l.length = 1024) :
    Calls Try.prog 5 #[v] w fun e w' => ∃ A1 c1 A2 c2 A3 c3, e = .returned (.tuple #[nv8 A1 c1 A2 c2 A3 c3 (rd8 l).1, .int .i64 ((rd8 l).2 : Nat)]) ∧ No w' A1 c1 A2 c2 A3 c3 (rd8 l).1 ∧ Turn (fun _ => False) w w' := by
  have HNR : Hid (∀ W, Turn (fun _ => False) w W → Calls Try.prog 13 #[v] W fun e w' => ∃ p, e = .returned (.pointer (some ⟨p, 0, none⟩)) ∧ Rdr w' p l 0 0 ∧ W.heap.size ≤ p ∧ Below W.heap.size W w') := Lib.hid (fun W ht => newReader_any B v l W (hA.below (ht.below (Nat.le_refl _) (fun k hk => hk.elim)) hB) (Nat.le_trans hB ht.size) (by omega))
  have HSL : Hid (∀ W, Turn (fun _ => False) w W → Sl W B v l) := Lib.hid (fun W ht => hA.below (ht.below (Nat.le_refl _) (fun k hk => hk.elim)) hB)
  obtain ⟨A, cap, rfl, _, _⟩ := hA
  rw [hl] at HNR HSL ⊢
  have HL := Lib.hid hl
  have T0 := Lib.hid ((Turn.refl (fun _ => False) w).alloc (.cells #[.bool false, .slice none 0 0, .slice none 0 0, .slice none 0 0] 26))
  have B0 := Lib.hid (Blk.new w 26 [.bool false, .slice none 0 0, .slice none 0 0, .slice none 0 0])
  clear hl
  go_enter Try.func5, Try.ntmps5
  go_wp2_with fail
  refine (HNR.out _ T0.out).mono ?_
  rintro e w1 ⟨p, rfl, hr, hp, hb⟩
  rw [World.size_alloc] at hp
  have t1 : Turn (fun _ => False) (w.alloc (.cells #[.bool false, .slice none 0 0, .slice none 0 0, .slice none 0 0] 26)) w1 := Turn.of_below hb (fun k h1 h2 => by omega)
  have T1 := Lib.hid (T0.out.trans t1)
  have B1 := Lib.hid (B0.out.turn t1 (fun h => h))
  have hp2 : w.heap.size < p := by omega
  have hw1 : w.heap.size < w1.heap.size := B1.out.lt
  have RR := Lib.hid hr
  clear hr hb hp t1 T0 B0
  go_wp2_with fail
  refine (fields_any p l HL.out _ RR.out).mono ?_
  rintro e w2 ⟨A1, c1, A2, c2, A3, c3, rfl, hn, ht⟩
  have T2 := Lib.hid (T1.out.trans_new ht (fun k hk e => by omega))
  have B2 := Lib.hid (B1.out.turn ht (by omega))
  clear ht T1 B1 RR
  cases hrd : read8 l with
  | none =>
    have HG : Hid (rd8 l = (nd0, 4)) := Lib.hid (rd8_none hrd)
    clear hn hrd
    simp only [Option.getD_none, Option.isSome_none, nv8, nd0, List.length_nil]
    have B3 := Lib.hid (B2.out.alloc (.cells #[.bool false, .slice A1 0 c1, .slice A2 0 c2, .slice A3 0 c3] 26))
    have T3 := Lib.hid (T2.out.alloc (.cells #[.bool false, .slice A1 0 c1, .slice A2 0 c2, .slice A3 0 c3] 26))
    have r0 := B3.out.cell 0
    have f0 := B3.out.free 0
    have r1 := B3.out.cell 1
    have f1 := B3.out.free 1
    have r2 := B3.out.cell 2
    have f2 := B3.out.free 2
    have r3 := B3.out.cell 3
    have f3 := B3.out.free 3
    simp only [List.getElem?_cons_zero, List.getElem?_cons_succ] at r0 r1 r2 r3
    obtain ⟨hb, hs⟩ := put4 B3.out (.bool false) (.slice none 0 0) (.slice none 0 0) (.slice none 0 0)
    have e0 := hb.cell 0
    have e1 := hb.cell 1
    have e2 := hb.cell 2
    have e3 := hb.cell 3
    simp only [List.getElem?_cons_zero, List.getElem?_cons_succ] at e0 e1 e2 e3
    have HT := Lib.hid (T3.out.trans_new hs (fun k hk e => by omega))
    have HN : Hid (∀ X, No X none 0 none 0 none 0 nd0) := Lib.hid (fun X => ⟨sr_nil _ _, sr_nil _ _, nr_nil _ _⟩)
    clear hb hs
    go_wp2_with fail
    exact bodyPost_ret (v := .tuple #[.agg #[.bool false, .slice none 0 0, .slice none 0 0, .slice none 0 0], .int .i64 4]) (by simp [results, Try.results5, go_sem, e0, e1, e2, e3]) rfl ⟨none, 0, none, 0, none, 0, by rw [HG.out]; rfl, by rw [HG.out]; exact HN.out _, HT.out⟩
  | some n =>
    rw [hrd] at hn
    simp only [Option.getD_some, Option.isSome_some]
    have HF := Lib.hid (read8_few (by have := HL.out; omega) hrd)
    have HRD := Lib.hid hrd
    simp only [Option.getD_some] at hn
    have HNO := Lib.hid (hn _ (Turn.refl _ _))
    have HNP := Lib.hid hn
    clear hn hrd
    have HBY : Hid (∀ W, Turn (fun _ => False) w2 W → Calls Try.prog 10 #[nv8 A1 c1 A2 c2 A3 c3 n] W fun e w' => ∃ A c, e = .returned (.tuple #[.slice A (pg8 n (check8 n)).length c, .int .i64 (check8 n : Nat)]) ∧ Sl w' w'.heap.size (.slice A (pg8 n (check8 n)).length c) (pg8 n (check8 n)) ∧ Turn (fun _ => False) W w') := Lib.hid (fun W hW => bytes_sl n A1 c1 A2 c2 A3 c3 W (HNO.out.turn hW) HF.out)
    obtain ⟨leaf, KL, VL, ZL⟩ := n
    simp only [nv8] at HBY ⊢
    have hcs := check8_le ⟨leaf, KL, VL, ZL⟩
    have ta := (Turn.refl (fun _ => False) w2).alloc (.cells #[.bool leaf, .slice A1 KL.length c1, .slice A2 VL.length c2, .slice A3 ZL.length c3] 26)
    have BN := Blk.new w2 26 [.bool leaf, .slice A1 KL.length c1, .slice A2 VL.length c2, .slice A3 ZL.length c3]
    have TA := Lib.hid ta
    have B3 := Lib.hid (B2.out.turn ta (fun h => h))
    have y0 := BN.cell 0
    have y1 := BN.cell 1
    have y2 := BN.cell 2
    have y3 := BN.cell 3
    simp only [List.getElem?_cons_zero, List.getElem?_cons_succ] at y0 y1 y2 y3
    have HBN := Lib.hid BN
    clear ta BN
    by_cases hc : check8 ⟨leaf, KL, VL, ZL⟩ = 0
    · rw [hc] at HBY
      have HC := Lib.hid hc
      clear hc hcs
      by_cases hpl : pgb ⟨leaf, KL, VL, ZL⟩ = l
      · have HG : Hid (rd8 l = (⟨leaf, KL, VL, ZL⟩, 0)) := Lib.hid (rd8_ok HL.out HRD.out HC.out hpl)
        have HEQ : Hid (∀ W, Turn (fun _ => False) w W → ∀ v1, Sl W W.heap.size v1 (pg8 ⟨leaf, KL, VL, ZL⟩ 0) → Calls Try.prog 14 #[v1, .slice A 1024 cap] W fun e w' => e = .returned (.bool true) ∧ W = w') := Lib.hid (fun W hW v1 h1 => by
          have := equal8 v1 _ _ l W _ _ h1 (HSL.out W hW)
          rw [show pg8 ⟨leaf, KL, VL, ZL⟩ 0 = l from hpl] at this
          rw [decide_eq_true rfl] at this
          exact this)
        generalize (pg8 ⟨leaf, KL, VL, ZL⟩ 0) = PB at *
        clear hpl
        go_wp2_with fail
        refine (HBY.out _ TA.out).mono ?_
        rintro e w3 ⟨AB, cB, rfl, hsl, ht3⟩
        have T3 := Lib.hid (T2.out.trans (TA.out.trans ht3))
        have TQ := Lib.hid (TA.out.trans ht3)
        have B4 := Lib.hid (B3.out.turn ht3 (fun h => h))
        have BN4 := HBN.out.turn ht3 (fun h => h)
        have HSB := Lib.hid hsl
        have z0 := BN4.cell 0
        have z1 := BN4.cell 1
        have z2 := BN4.cell 2
        have z3 := BN4.cell 3
        simp only [List.getElem?_cons_zero, List.getElem?_cons_succ] at z0 z1 z2 z3
        clear ht3 hsl BN4
        generalize PB.length = lb at *
        go_wp2_with fail
        refine (HEQ.out _ T3.out _ HSB.out).mono ?_
        rintro e w4 ⟨rfl, rfl⟩
        have HNW : Hid (∀ X, Turn (fun k => k = w.heap.size) w3 X → No X A1 c1 A2 c2 A3 c3 ⟨leaf, KL, VL, ZL⟩) := Lib.hid (fun X hX => HNP.out X (((TQ.out.mono (T := fun k => k ≤ w1.heap.size) (fun _ _ h => h.elim))).trans (hX.mono (fun k _ hk => by omega))))
        have r0 := B4.out.cell 0
        have f0 := B4.out.free 0
        have r1 := B4.out.cell 1
        have f1 := B4.out.free 1
        have r2 := B4.out.cell 2
        have f2 := B4.out.free 2
        have r3 := B4.out.cell 3
        have f3 := B4.out.free 3
        simp only [List.getElem?_cons_zero, List.getElem?_cons_succ] at r0 r1 r2 r3
        obtain ⟨hb, hs⟩ := put4 B4.out (.bool leaf) (.slice A1 KL.length c1) (.slice A2 VL.length c2) (.slice A3 ZL.length c3)
        have e0 := hb.cell 0
        have e1 := hb.cell 1
        have e2 := hb.cell 2
        have e3 := hb.cell 3
        simp only [List.getElem?_cons_zero, List.getElem?_cons_succ] at e0 e1 e2 e3
        have HT := Lib.hid (T3.out.trans_new hs (fun k hk e => by omega))
        have HNQ := Lib.hid (HNW.out _ hs)
        clear hb hs
        go_wp2_with fail
        exact bodyPost_ret (v := .tuple #[.agg #[.bool leaf, .slice A1 KL.length c1, .slice A2 VL.length c2, .slice A3 ZL.length c3], .int .i64 0]) (by simp [results, Try.results5, go_sem, e0, e1, e2, e3]) rfl ⟨A1, c1, A2, c2, A3, c3, by rw [HG.out]; rfl, by rw [HG.out]; exact HNQ.out, HT.out⟩
      · have HG : Hid (rd8 l = (nd0, 4)) := Lib.hid (rd8_bad HRD.out (.inr hpl))
        have HEQ : Hid (∀ W, Turn (fun _ => False) w W → ∀ v1, Sl W W.heap.size v1 (pg8 ⟨leaf, KL, VL, ZL⟩ 0) → Calls Try.prog 14 #[v1, .slice A 1024 cap] W fun e w' => e = .returned (.bool false) ∧ W = w') := Lib.hid (fun W hW v1 h1 => by
          have := equal8 v1 _ _ l W _ _ h1 (HSL.out W hW)
          rw [decide_eq_false (show ¬ pg8 ⟨leaf, KL, VL, ZL⟩ 0 = l from hpl)] at this
          exact this)
        generalize (pg8 ⟨leaf, KL, VL, ZL⟩ 0) = PB at *
        clear hpl
        go_wp2_with fail
        refine (HBY.out _ TA.out).mono ?_
        rintro e w3 ⟨AB, cB, rfl, hsl, ht3⟩
        have T3 := Lib.hid (T2.out.trans (TA.out.trans ht3))
        have B4 := Lib.hid (B3.out.turn ht3 (fun h => h))
        have HSB := Lib.hid hsl
        clear ht3 hsl
        generalize PB.length = lb at *
        go_wp2_with fail
        refine (HEQ.out _ T3.out _ HSB.out).mono ?_
        rintro e w4 ⟨rfl, rfl⟩
        have r0 := B4.out.cell 0
        have f0 := B4.out.free 0
        have r1 := B4.out.cell 1
        have f1 := B4.out.free 1
        have r2 := B4.out.cell 2
        have f2 := B4.out.free 2
        have r3 := B4.out.cell 3
        have f3 := B4.out.free 3
        simp only [List.getElem?_cons_zero, List.getElem?_cons_succ] at r0 r1 r2 r3
        obtain ⟨hb, hs⟩ := put4 B4.out (.bool false) (.slice none 0 0) (.slice none 0 0) (.slice none 0 0)
        have e0 := hb.cell 0
        have e1 := hb.cell 1
        have e2 := hb.cell 2
        have e3 := hb.cell 3
        simp only [List.getElem?_cons_zero, List.getElem?_cons_succ] at e0 e1 e2 e3
        have HT := Lib.hid (T3.out.trans_new hs (fun k hk e => by omega))
        have HN : Hid (∀ X, No X none 0 none 0 none 0 nd0) := Lib.hid (fun X => ⟨sr_nil _ _, sr_nil _ _, nr_nil _ _⟩)
        clear hb hs
        go_wp2_with fail
        exact bodyPost_ret (v := .tuple #[.agg #[.bool false, .slice none 0 0, .slice none 0 0, .slice none 0 0], .int .i64 4]) (by simp [results, Try.results5, go_sem, e0, e1, e2, e3]) rfl ⟨none, 0, none, 0, none, 0, by rw [HG.out]; rfl, by rw [HG.out]; exact HN.out _, HT.out⟩
    · have HG : Hid (rd8 l = (nd0, 4)) := Lib.hid (rd8_bad HRD.out (.inl hc))
      have hne : ((check8 ⟨leaf, KL, VL, ZL⟩ : Int) == 0) = false := by simp; omega
      have hne2 : ¬ (check8 ⟨leaf, KL, VL, ZL⟩ : Int) = 0 := by omega
      generalize (pg8 ⟨leaf, KL, VL, ZL⟩ (check8 ⟨leaf, KL, VL, ZL⟩)) = PB at *
      generalize check8 ⟨leaf, KL, VL, ZL⟩ = C at *
      clear hc hcs
      go_wp2_with fail
      refine (HBY.out _ TA.out).mono ?_
      rintro e w3 ⟨AB, cB, rfl, hsl, ht3⟩
      have T3 := Lib.hid (T2.out.trans (TA.out.trans ht3))
      have B4 := Lib.hid (B3.out.turn ht3 (fun h => h))
      clear ht3 hsl
      generalize PB.length = lb at *
      have r0 := B4.out.cell 0
      have f0 := B4.out.free 0
      have r1 := B4.out.cell 1
      have f1 := B4.out.free 1
      have r2 := B4.out.cell 2
      have f2 := B4.out.free 2
      have r3 := B4.out.cell 3
      have f3 := B4.out.free 3
      simp only [List.getElem?_cons_zero, List.getElem?_cons_succ] at r0 r1 r2 r3
      obtain ⟨hb, hs⟩ := put4 B4.out (.bool false) (.slice none 0 0) (.slice none 0 0) (.slice none 0 0)
      have e0 := hb.cell 0
      have e1 := hb.cell 1
      have e2 := hb.cell 2
      have e3 := hb.cell 3
      simp only [List.getElem?_cons_zero, List.getElem?_cons_succ] at e0 e1 e2 e3
      have HT := Lib.hid (T3.out.trans_new hs (fun k hk e => by omega))
      have HN : Hid (∀ X, No X none 0 none 0 none 0 nd0) := Lib.hid (fun X => ⟨sr_nil _ _, sr_nil _ _, nr_nil _ _⟩)
      clear hb hs
      go_wp2_with fail
      exact bodyPost_ret (v := .tuple #[.agg #[.bool false, .slice none 0 0, .slice none 0 0, .slice none 0 0], .int .i64 4]) (by simp [results, Try.results5, go_sem, e0, e1, e2, e3]) rfl ⟨none, 0, none, 0, none, 0, by rw [HG.out]; rfl, by rw [HG.out]; exact HN.out _, HT.out⟩
end Go.Proofs.Ytcmghbglnkfbaaa
