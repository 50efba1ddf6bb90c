/- The walk of ambrylaw08.PageBack. -/
import Derived.Test.YtcmghbglnkfbaaaPgS6
import Derived.Test.YtcmghbglnkfbaaaFrame
namespace Go.Proofs.Ytcmghbglnkfbaaa
open Go.RowKit
set_option linter.unusedVariables false
set_option linter.unusedSimpArgs false
set_option maxRecDepth 100000

theorem turn_below8 {w w' : World} (h : Turn (fun _ => False) w w') : Below w.heap.size w w' := ⟨h.os, h.tape, h.output, h.size, fun k hk => h.block k hk (fun h => h)⟩
set_option maxHeartbeats 8000000 in
theorem pageBack_walk (v : Value) (n : Nd) (v2 : Value) (l : List UInt8) (w : World) (hv : NodeV w w.heap.size v n) (hs : Sl w w.heap.size v2 l) (hb : (∀ s ∈ n.keys, s.size ≤ 140737488351232) ∧ ∀ s ∈ n.vals, s.size ≤ 140737488351232) :
    Calls Try.prog 4 #[v, v2] w fun e w' => e = .returned (.bool true) ∧ Below w.heap.size w w' := by
  obtain ⟨A1, c1, A2, c2, A3, c3, rfl, hno⟩ := hv.no (Nat.le_refl _)
  clear hv
  have HSL : Hid (∀ W, Turn (fun _ => False) w W → Sl W w.heap.size v2 l) := Lib.hid (fun W ht => hs.below (ht.below (Nat.le_refl _) (fun k hk => hk.elim)) (Nat.le_refl _))
  have HRD := Lib.hid (fun W (ht : Turn (fun _ => False) w W) => read_any w.heap.size v2 l W (HSL.out W ht) ht.size)
  have hsm := rd8_small l
  have HSM : Hid (((rd8 l).2 = 0 ∧ l.length = 1024 ∧ check8 (rd8 l).1 = 0 ∧ pgb (rd8 l).1 = l) ∨ ((rd8 l).2 = 4 ∧ (rd8 l).1 = nd0)) := Lib.hid (by
    rcases hsm.2.1 with h | h
    · exact .inl ⟨h, hsm.2.2.1 h⟩
    · exact .inr ⟨h, hsm.2.2.2 h⟩)
  have HFM := Lib.hid hsm.1
  clear hsm
  obtain ⟨m, hm⟩ : ∃ m, (rd8 l).1 = m := ⟨_, rfl⟩
  obtain ⟨x, hx⟩ : ∃ x, (rd8 l).2 = x := ⟨_, rfl⟩
  rw [hm] at HRD HSM HFM
  rw [hx] at HRD HSM
  clear hm hx
  obtain ⟨AB, cB, rfl, _⟩ := hs
  obtain ⟨nb, hnb⟩ : ∃ k, l.length = k := ⟨_, rfl⟩
  have HNB := Lib.hid hnb
  rw [hnb] at HRD HSL ⊢
  clear hnb
  have HFW := Lib.hid (fun W => few_any n A1 c1 A2 c2 A3 c3 W)
  have HLV := Lib.hid (fun W => lives8 W)
  have T0 := Lib.hid ((Turn.refl (fun _ => False) w).alloc (.cells #[.bool n.leaf, .slice A1 n.keys.length c1, .slice A2 n.vals.length c2, .slice A3 n.kids.length c3] 26))
  have B0 := Lib.hid (Blk.new w 26 [.bool n.leaf, .slice A1 n.keys.length c1, .slice A2 n.vals.length c2, .slice A3 n.kids.length c3])
  cases hfw : few8 n with
  | false =>
    rw [hfw] at HFW
    obtain ⟨leaf, K, V, Z⟩ := n
    simp only [nv8] at HFW T0 B0 ⊢
    generalize K.length = nk at *
    generalize V.length = nv at *
    generalize Z.length = nd at *
    go_enter Try.func4, Try.ntmps4
    go_wp2_with fail
    refine (HFW.out _).mono ?_
    rintro e w1 ⟨rfl, ht1⟩
    have T1 := Lib.hid (T0.out.trans ht1)
    go_wp2_with fail
    refine (HLV.out _).mono ?_
    rintro e w2 ⟨rfl, ht2⟩
    have T2 := Lib.hid (T1.out.trans ht2)
    go_wp2_with fail
    go_ret
    exact ⟨rfl, turn_below8 T2.out⟩
  | true =>
    have hf := few8_yes hfw hb.1 hb.2
    rw [hfw] at HFW
    have HBY := Lib.hid (fun W (ht : Turn (fun _ => False) w W) => bytes_sl n A1 c1 A2 c2 A3 c3 W (hno.turn ht) hf)
    have HCK := Lib.hid (fun W (ht : Turn (fun _ => False) w W) => check_any n A1 c1 A2 c2 A3 c3 W (hno.turn ht) hf)
    have HNO := Lib.hid hno
    have HF := Lib.hid hf
    clear hno hf hb hfw
    have hcs := check8_le n
    by_cases hc : check8 n = 0
    · rw [hc] at HBY
      rw [show (pg8 n 0).length = 1024 from len_pgb hc] at HBY
      have HRX : Hid (∀ W v, Sl W W.heap.size v (pg8 n 0) → Calls Try.prog 5 #[v] W fun e w' => ∃ M1 m1 M2 m2 M3 m3, e = .returned (.tuple #[nv8 M1 m1 M2 m2 M3 m3 n, .int .i64 0]) ∧ No w' M1 m1 M2 m2 M3 m3 n ∧ Turn (fun _ => False) W w') := Lib.hid (fun W v h => by
        have := read_any W.heap.size v (pg8 n 0) W h (Nat.le_refl _)
        rw [show rd8 (pg8 n 0) = (n, 0) from rd8_pgb hc] at this
        exact this)
      have HSX := Lib.hid (fun M1 m1 M2 m2 M3 m3 W (h1 : No W A1 c1 A2 c2 A3 c3 n) (h2 : No W M1 m1 M2 m2 M3 m3 n) => refSame_any n A1 c1 A2 c2 A3 c3 M1 m1 M2 m2 M3 m3 W h1 h2 (Nat.le_trans HF.out.nk (by decide)) (Nat.le_trans HF.out.nv (by decide)) (Nat.le_trans HF.out.nd (by decide)))
      generalize (pg8 n 0) = PB at *
      clear hc hcs HCK
      obtain ⟨leaf, K, V, Z⟩ := n
      simp only [nv8] at HFW HBY HRX HSX T0 B0 ⊢
      generalize K.length = nk at *
      generalize V.length = nv at *
      generalize Z.length = nd at *
      go_enter Try.func4, Try.ntmps4
      go_wp2_with fail
      refine (HFW.out _).mono ?_
      rintro e w1 ⟨rfl, ht1⟩
      have T1 := Lib.hid (T0.out.trans ht1)
      have B1 := Lib.hid (B0.out.turn ht1 (fun h => h))
      have y0 := B1.out.cell 0
      have y1 := B1.out.cell 1
      have y2 := B1.out.cell 2
      have y3 := B1.out.cell 3
      simp only [List.getElem?_cons_zero, List.getElem?_cons_succ] at y0 y1 y2 y3
      clear ht1 T0 B0
      go_wp2_with fail
      refine (HBY.out _ T1.out).mono ?_
      rintro e w2 ⟨AX, cX, rfl, hsl, ht2⟩
      have T2 := Lib.hid (T1.out.trans ht2)
      have B2 := Lib.hid (B1.out.turn ht2 (fun h => h))
      have HX := Lib.hid hsl
      clear hsl ht2 T1 B1 y0 y1 y2 y3
      go_wp2_with fail
      refine (HRX.out _ _ HX.out).mono ?_
      rintro e w3 ⟨M1, m1, M2, m2, M3, m3, rfl, hn, ht3⟩
      have ta := (Turn.refl (fun _ => False) w3).alloc (.cells #[.bool leaf, .slice M1 nk m1, .slice M2 nv m2, .slice M3 nd m3] 26)
      have BM := Blk.new w3 26 [.bool leaf, .slice M1 nk m1, .slice M2 nv m2, .slice M3 nd m3]
      have T3 := Lib.hid ((T2.out.trans ht3).trans ta)
      have B3 := Lib.hid ((B2.out.turn ht3 (fun h => h)).turn ta (fun h => h))
      have HM3 := Lib.hid (hn.turn ta)
      have y0 := B3.out.cell 0
      have y1 := B3.out.cell 1
      have y2 := B3.out.cell 2
      have y3 := B3.out.cell 3
      simp only [List.getElem?_cons_zero, List.getElem?_cons_succ] at y0 y1 y2 y3
      have z0 := BM.cell 0
      have z1 := BM.cell 1
      have z2 := BM.cell 2
      have z3 := BM.cell 3
      simp only [List.getElem?_cons_zero, List.getElem?_cons_succ] at z0 z1 z2 z3
      clear ht3 ta BM hn T2 B2
      go_wp2_with fail
      refine (HSX.out _ _ _ _ _ _ _ (HNO.out.turn T3.out) HM3.out).mono ?_
      rintro e w4 ⟨rfl, ht4⟩
      have T4 := Lib.hid (T3.out.trans ht4)
      clear ht4 T3 B3 y0 y1 y2 y3 z0 z1 z2 z3
      go_wp2_with fail
      refine (HRD.out _ T4.out).mono ?_
      rintro e u1 ⟨M1, m1, M2, m2, M3, m3, rfl, hn, ht⟩
      have U1 := Lib.hid (T4.out.trans ht)
      have HN1 := Lib.hid hn
      clear hn ht
      rcases HSM.out with ⟨rfl, hl4, hck, hpg⟩ | ⟨rfl, rfl⟩
      · have HBM := Lib.hid (fun W (ht : Turn (fun _ => False) u1 W) => bytes_sl m M1 m1 M2 m2 M3 m3 W (HN1.out.turn ht) HFM.out)
        rw [hck] at HBM
        rw [show pg8 m 0 = l from hpg] at HBM
        have HST := HSL
        clear hck hpg hl4
        obtain ⟨SS, hSS⟩ : ∃ S : ByteArray, ⟨l.toArray⟩ = S := ⟨_, rfl⟩
        have HSS := Lib.hid hSS
        have hsame := str_same SS
        clear hSS
        obtain ⟨lf, MK, MV, MZ⟩ := m
        simp only [nv8] at HBM ⊢
        generalize MK.length = qk at *
        generalize MV.length = qv at *
        generalize MZ.length = qd at *
        have TA := Lib.hid ((Turn.refl (fun _ => False) u1).alloc (.cells #[.bool lf, .slice M1 qk m1, .slice M2 qv m2, .slice M3 qd m3] 26))
        have BM := Lib.hid (Blk.new u1 26 [.bool lf, .slice M1 qk m1, .slice M2 qv m2, .slice M3 qd m3])
        have q0 := BM.out.cell 0
        have q1 := BM.out.cell 1
        have q2 := BM.out.cell 2
        have q3 := BM.out.cell 3
        simp only [List.getElem?_cons_zero, List.getElem?_cons_succ] at q0 q1 q2 q3
        have HLB := Lib.hid ((rfl : nb = nb))
        go_wp2_with fail
        refine (HBM.out _ TA.out).mono ?_
        rintro e u2 ⟨AX, cX, rfl, hsl, ht⟩
        have U2 := Lib.hid (U1.out.trans (TA.out.trans ht))
        have hc1 := sl_conv hsl
        have hc2 := sl_conv (HST.out _ U2.out)
        rw [HSS.out] at hc1 hc2
        clear hsl ht
        generalize l.length = lx at *
        go_wp2_with fail
        refine (HLV.out _).mono ?_
        rintro e u3 ⟨rfl, ht⟩
        have U3 := Lib.hid (U2.out.trans ht)
        clear ht
        go_wp2_with fail
        go_ret
        exact ⟨rfl, turn_below8 U3.out⟩
      · have HSN := Lib.hid (fun W (ht : Turn (fun _ => False) u1 W) => refSame_any nd0 M1 m1 M2 m2 M3 m3 none 0 none 0 none 0 W (HN1.out.turn ht) ⟨sr_nil _ _, sr_nil _ _, nr_nil _ _⟩ (by decide) (by decide) (by decide))
        simp only [nv8, nd0, List.length_nil] at HSN ⊢
        have TA := Lib.hid ((Turn.refl (fun _ => False) u1).alloc (.cells #[.bool false, .slice M1 0 m1, .slice M2 0 m2, .slice M3 0 m3] 26))
        have BM := Lib.hid (Blk.new u1 26 [.bool false, .slice M1 0 m1, .slice M2 0 m2, .slice M3 0 m3])
        have q0 := BM.out.cell 0
        have q1 := BM.out.cell 1
        have q2 := BM.out.cell 2
        have q3 := BM.out.cell 3
        simp only [List.getElem?_cons_zero, List.getElem?_cons_succ] at q0 q1 q2 q3
        go_wp2_with fail
        refine (HSN.out _ TA.out).mono ?_
        rintro e u2 ⟨rfl, ht⟩
        have U2 := Lib.hid (U1.out.trans (TA.out.trans ht))
        clear ht
        go_wp2_with fail
        refine (HLV.out _).mono ?_
        rintro e u3 ⟨rfl, ht⟩
        have U3 := Lib.hid (U2.out.trans ht)
        clear ht
        go_wp2_with fail
        go_ret
        exact ⟨rfl, turn_below8 U3.out⟩
    · have hp0 : (pg8 n (check8 n)).length = 0 := by unfold pg8; rw [if_neg hc]; rfl
      rw [hp0] at HBY
      generalize pg8 n (check8 n) = PB at *
      have hne : ((check8 n : Int) == 0) = false := by simp; omega
      have hne2 : ¬ (check8 n : Int) = 0 := by omega
      have hee : ((check8 n : Int) == (check8 n : Int)) = true := by simp
      generalize check8 n = C at *
      clear hc hcs hp0
      obtain ⟨leaf, K, V, Z⟩ := n
      simp only [nv8] at HFW HBY HCK T0 B0 ⊢
      generalize K.length = nk at *
      generalize V.length = nv at *
      generalize Z.length = nd at *
      go_enter Try.func4, Try.ntmps4
      go_wp2_with fail
      refine (HFW.out _).mono ?_
      rintro e w1 ⟨rfl, ht1⟩
      have T1 := Lib.hid (T0.out.trans ht1)
      have B1 := Lib.hid (B0.out.turn ht1 (fun h => h))
      have y0 := B1.out.cell 0
      have y1 := B1.out.cell 1
      have y2 := B1.out.cell 2
      have y3 := B1.out.cell 3
      simp only [List.getElem?_cons_zero, List.getElem?_cons_succ] at y0 y1 y2 y3
      clear ht1 T0 B0
      go_wp2_with fail
      refine (HBY.out _ T1.out).mono ?_
      rintro e w2 ⟨AX, cX, rfl, hsl, ht2⟩
      have T2 := Lib.hid (T1.out.trans ht2)
      have B2 := Lib.hid (B1.out.turn ht2 (fun h => h))
      clear hsl ht2 T1 B1 y0 y1 y2 y3
      have y0 := B2.out.cell 0
      have y1 := B2.out.cell 1
      have y2 := B2.out.cell 2
      have y3 := B2.out.cell 3
      simp only [List.getElem?_cons_zero, List.getElem?_cons_succ] at y0 y1 y2 y3
      go_wp2_with fail
      refine (HCK.out _ T2.out).mono ?_
      rintro e w3 ⟨rfl, ht3⟩
      have T3 := Lib.hid (T2.out.trans ht3)
      clear ht3 T2 B2 y0 y1 y2 y3
      go_wp2_with fail
      refine (HRD.out _ T3.out).mono ?_
      rintro e u1 ⟨M1, m1, M2, m2, M3, m3, rfl, hn, ht⟩
      have U1 := Lib.hid (T3.out.trans ht)
      have HN1 := Lib.hid hn
      clear hn ht
      rcases HSM.out with ⟨rfl, hl4, hck, hpg⟩ | ⟨rfl, rfl⟩
      · have HBM := Lib.hid (fun W (ht : Turn (fun _ => False) u1 W) => bytes_sl m M1 m1 M2 m2 M3 m3 W (HN1.out.turn ht) HFM.out)
        rw [hck] at HBM
        rw [show pg8 m 0 = l from hpg] at HBM
        have HST := HSL
        clear hck hpg hl4
        obtain ⟨SS, hSS⟩ : ∃ S : ByteArray, ⟨l.toArray⟩ = S := ⟨_, rfl⟩
        have HSS := Lib.hid hSS
        have hsame := str_same SS
        clear hSS
        obtain ⟨lf, MK, MV, MZ⟩ := m
        simp only [nv8] at HBM ⊢
        generalize MK.length = qk at *
        generalize MV.length = qv at *
        generalize MZ.length = qd at *
        have TA := Lib.hid ((Turn.refl (fun _ => False) u1).alloc (.cells #[.bool lf, .slice M1 qk m1, .slice M2 qv m2, .slice M3 qd m3] 26))
        have BM := Lib.hid (Blk.new u1 26 [.bool lf, .slice M1 qk m1, .slice M2 qv m2, .slice M3 qd m3])
        have q0 := BM.out.cell 0
        have q1 := BM.out.cell 1
        have q2 := BM.out.cell 2
        have q3 := BM.out.cell 3
        simp only [List.getElem?_cons_zero, List.getElem?_cons_succ] at q0 q1 q2 q3
        have HLB := Lib.hid ((rfl : nb = nb))
        go_wp2_with fail
        refine (HBM.out _ TA.out).mono ?_
        rintro e u2 ⟨AX, cX, rfl, hsl, ht⟩
        have U2 := Lib.hid (U1.out.trans (TA.out.trans ht))
        have hc1 := sl_conv hsl
        have hc2 := sl_conv (HST.out _ U2.out)
        rw [HSS.out] at hc1 hc2
        clear hsl ht
        generalize l.length = lx at *
        go_wp2_with fail
        refine (HLV.out _).mono ?_
        rintro e u3 ⟨rfl, ht⟩
        have U3 := Lib.hid (U2.out.trans ht)
        clear ht
        go_wp2_with fail
        go_ret
        exact ⟨rfl, turn_below8 U3.out⟩
      · have HSN := Lib.hid (fun W (ht : Turn (fun _ => False) u1 W) => refSame_any nd0 M1 m1 M2 m2 M3 m3 none 0 none 0 none 0 W (HN1.out.turn ht) ⟨sr_nil _ _, sr_nil _ _, nr_nil _ _⟩ (by decide) (by decide) (by decide))
        simp only [nv8, nd0, List.length_nil] at HSN ⊢
        have TA := Lib.hid ((Turn.refl (fun _ => False) u1).alloc (.cells #[.bool false, .slice M1 0 m1, .slice M2 0 m2, .slice M3 0 m3] 26))
        have BM := Lib.hid (Blk.new u1 26 [.bool false, .slice M1 0 m1, .slice M2 0 m2, .slice M3 0 m3])
        have q0 := BM.out.cell 0
        have q1 := BM.out.cell 1
        have q2 := BM.out.cell 2
        have q3 := BM.out.cell 3
        simp only [List.getElem?_cons_zero, List.getElem?_cons_succ] at q0 q1 q2 q3
        go_wp2_with fail
        refine (HSN.out _ TA.out).mono ?_
        rintro e u2 ⟨rfl, ht⟩
        have U2 := Lib.hid (U1.out.trans (TA.out.trans ht))
        clear ht
        go_wp2_with fail
        refine (HLV.out _).mono ?_
        rintro e u3 ⟨rfl, ht⟩
        have U3 := Lib.hid (U2.out.trans ht)
        clear ht
        go_wp2_with fail
        go_ret
        exact ⟨rfl, turn_below8 U3.out⟩
end Go.Proofs.Ytcmghbglnkfbaaa
