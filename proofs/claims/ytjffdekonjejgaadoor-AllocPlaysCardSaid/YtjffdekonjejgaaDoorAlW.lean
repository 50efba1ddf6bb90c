/- Layer 7: the document's rows. -/
import Derived.Test.YtjffdekonjejgaaDoorAlV
namespace Go.Proofs.YtjffdekonjejgaaDoor
open Go.RowKit
set_option linter.unusedVariables false
set_option maxRecDepth 100000

theorem own_cell7 {w : World} {base t size n : Nat} {v : Value} {xs : List Value} (h : w.ownsRow base t size v n xs) (hn : 0 < n) : ∃ b c, v = .slice (some ⟨b, 0, none⟩) n c ∧ base ≤ b ∧ ∀ off, off < n * size → w.cell? ⟨b, off, none⟩ = xs[off]? ∧ w.frozen? ⟨b, off, none⟩ = false := by
  rcases h.2 with ⟨_, h0⟩ | ⟨b, c, cur, rfl, hb, hh, _, _, _, ht⟩
  · omega
  · refine ⟨b, c, rfl, hb, fun off ho => ?_⟩
    have hB : Blk w b t cur.toList := by unfold Blk; simpa using hh
    refine ⟨?_, hB.free off⟩
    rw [hB.cell, ← ht, List.getElem?_take_of_lt ho]
theorem own_set7 {w : World} {base t size n b c off : Nat} {xs : List Value} (h : w.ownsRow base t size (.slice (some ⟨b, 0, none⟩) n c) n xs) (ho : off < n * size) (u : Value) : (w.setCell ⟨b, off, none⟩ u).ownsRow base t size (.slice (some ⟨b, 0, none⟩) n c) n (xs.set off u) := by
  refine ⟨by rw [List.length_set]; exact h.1, ?_⟩
  rcases h.2 with ⟨h1, _⟩ | ⟨g, cap, cur, hv, hb, hh, h3, h4, h5, h6⟩
  · cases h1
  · injection hv with e1 e2 e3
    injection e1 with e1
    injection e1 with e1
    subst e1
    have hB : Blk w b t cur.toList := by unfold Blk; simpa using hh
    have hP := hB.put off u
    refine .inr ⟨b, cap, (cur.toList.set off u).toArray, by rw [e3], hb, hP, h3, h4, by simpa using h5, ?_⟩
    rw [← h6]
    simp only
    rw [List.take_set]
theorem rows7_step_end (l : List Bool) (r : Nat) (ys : List (Nat × Nat)) (h : rows7 l = ys ++ rw7 l.length r (l.drop l.length ++ [false])) : rows7 l = ys ++ (if 0 < r then [(l.length - r, r)] else []) := by
  rw [h, List.drop_length, List.nil_append, rw7, rw7, List.append_nil]
theorem rows7_step (l : List Bool) (i r : Nat) (hi : i < l.length) : rw7 i r (l.drop i ++ [false]) = if l.getD i false then rw7 (i + 1) (r + 1) (l.drop (i + 1) ++ [false]) else (if 0 < r then [(i - r, r)] else []) ++ rw7 (i + 1) 0 (l.drop (i + 1) ++ [false]) := by
  rw [List.drop_eq_getElem_cons hi, List.cons_append, List.getD_eq_getElem?_getD, List.getElem?_eq_getElem hi]
  cases l[i] <;> simp [rw7]
theorem set_last7 (ys : List (Nat × Nat)) (a b c : Nat) (n : Nat) (hn : n = ys.length) : ((ys ++ [(a, b)]).flatMap rc7).set (n * 2 + 1) (.int .i64 (c : Int)) = (ys ++ [(a, c)]).flatMap rc7 := by
  subst hn
  rw [List.flatMap_append, List.flatMap_append, List.set_append_right _ _ (by rw [len_rc7]; omega), len_rc7]
  simp [rc7]
set_option maxHeartbeats 4000000 in
theorem refRows7 (v : Value) (l : List Bool) (hl : l.length ≤ 16384) (w : World) (h : Tf w v l) :
    Calls Tryd.prog 16 #[.agg #[v]] w fun r w' => ∃ u, r = .returned u ∧ w'.ownsRow w.heap.size 52 2 u (rows7 l).length ((rows7 l).flatMap rc7) ∧ Turn (fun _ => False) w w' := by
  obtain ⟨b, c, rest, rfl, hb⟩ := h
  have hbl := hb.lt
  have HT1 : Hid (Turn (fun _ => False) w (w.alloc (.cells #[.slice (some ⟨b, 0, none⟩) l.length c] 29))) := Lib.hid ((Turn.refl _ w).alloc _)
  have HB1 := Lib.hid (hb.turn HT1.out (fun h => h))
  have HC1 : Hid (Blk (w.alloc (.cells #[.slice (some ⟨b, 0, none⟩) l.length c] 29)) w.heap.size 29 [.slice (some ⟨b, 0, none⟩) l.length c]) := Lib.hid (Blk.new w _ _)
  obtain ⟨i0, hi, hz, hs, hbb⟩ := info_parts_ info_pair
  have HI := Lib.hid hi
  have HZ := Lib.hid hz
  have HS := Lib.hid hs
  have HB := Lib.hid hbb
  obtain ⟨n, hn⟩ : ∃ n, n = l.length := ⟨_, rfl⟩
  have HN := Lib.hid hn
  rw [← hn] at HT1 HB1 HC1 hl ⊢
  have hsz1 : (w.alloc (.cells #[.slice (some ⟨b, 0, none⟩) n c] 29)).heap.size = w.heap.size + 1 := by simp
  have H0 : Hid (∀ W : World, W.ownsRow (w.heap.size + 1) 52 2 (.slice none 0 0) 0 []) := Lib.hid (fun W => World.ownsRow_nil _ _ _ _)
  clear hi hz hs hbb hb hn
  go_enter Tryd.func16, Tryd.ntmps16
  go_wp2_with fail
  generalize (w.alloc (.cells #[.slice (some ⟨b, 0, none⟩) n c] 29)) = W1 at *
  have HSZ := Lib.hid hsz1
  clear hsz1
  go_loopw [3, 4, 5] (fun v3 v4 v5 wr => ∃ (i r : Nat) (ys : List (Nat × Nat)), i ≤ n ∧ r ≤ i ∧ v5 = .int .i64 i ∧ v4 = .int .i64 r ∧ wr.ownsRow (w.heap.size + 1) 52 2 v3 (ys ++ (if 0 < r then [(i - r, r)] else [])).length ((ys ++ (if 0 < r then [(i - r, r)] else [])).flatMap rc7) ∧
    rows7 l = ys ++ rw7 i r (l.drop i ++ [false]) ∧ ys.length ≤ i ∧ Turn (fun _ => False) W1 wr) (fun _ _ v5 _ => n - (intOf v5).toNat)
  case atStart => exact ⟨0, 0, [], Nat.zero_le _, Nat.le_refl _, rfl, rfl, H0.out _, rfl, Nat.le_refl _, Turn.refl _ _⟩
  case round =>
    obtain ⟨i, r, ys, hin, hri, rfl, rfl, ho, hE, hyl, ht⟩ := hrel
    obtain ⟨A, cap, rfl⟩ := own_slice7 ho
    have HO := Lib.hid ho
    have HE := Lib.hid hE
    have HT := Lib.hid ht
    have HBr := HB1.out.turn ht (fun h => h)
    have HCr := HC1.out.turn ht (fun h => h)
    have y0 := HCr.cell 0
    simp only [List.getElem?_cons_zero] at y0
    have hszr := ht.size
    rw [HSZ.out] at hszr
    clear ho hE ht HCr
    have e1 := wrap_of ((i : Int) + 1) (by omega) (by omega)
    have e2 := wrap_of ((r : Int) + 1) (by omega) (by omega)
    by_cases hlt : i < n
    · have hlti : (i : Int) < (n : Int) := by omega
      have x0 := HBr.cell i
      rw [List.getElem?_append_left (by rw [len_tb, ← HN.out]; exact hlt), tb_at _ _ (by rw [← HN.out]; exact hlt)] at x0
      have HST := Lib.hid (rows7_step l i r (by rw [← HN.out]; exact hlt))
      clear HBr
      cases hb : l.getD i false with
      | false =>
        rw [hb] at x0 HST
        clear hb
        have HE2 : Hid (rows7 l = (ys ++ (if 0 < r then [(i - r, r)] else [])) ++ rw7 (i + 1) 0 (l.drop (i + 1) ++ [false])) := Lib.hid (by rw [HE.out, HST.out]; simp)
        have hyl2 : (ys ++ (if 0 < r then [(i - r, r)] else [])).length ≤ i + 1 := by rw [List.length_append]; split <;> simp <;> omega
        generalize (ys ++ (if 0 < r then [(i - r, r)] else [])) = xs at *
        go_wp2_with fail
        go_roundw
        case rel => exact ⟨i + 1, 0, xs, hlt, Nat.zero_le _, by simp, rfl, by simpa using HO.out, HE2.out, hyl2, HT.out⟩
        case measure => (simp [intOf]; try omega)
      | true =>
        rw [hb] at x0 HST
        clear hb
        have HE2 : Hid (rows7 l = ys ++ rw7 (i + 1) (r + 1) (l.drop (i + 1) ++ [false])) := Lib.hid (by rw [HE.out, HST.out]; simp)
        have HIF : Hid ((ys ++ (if 0 < r + 1 then [(i + 1 - (r + 1), r + 1)] else [])) = ys ++ [(i - r, r + 1)]) := Lib.hid (by rw [if_pos (by omega), show i + 1 - (r + 1) = i - r from by omega])
        clear HST HE
        by_cases hr0 : r = 0
        · subst hr0
          have hO0 := HO.out
          rw [if_neg (by omega), List.append_nil] at hO0
          obtain ⟨m, hm⟩ : ∃ m, m = ys.length := ⟨_, rfl⟩
          have HM := Lib.hid hm
          rw [if_neg (by omega), List.append_nil, ← hm]
          rw [← hm] at hO0 hyl
          have HO0 := Lib.hid hO0
          have NB := Lib.hid (Blk.new wr 52 [.int .i64 (i : Int), .int .i64 0])
          have HNC : Hid (∀ (j : Nat) (u : Value), [Value.int .i64 (i : Int), Value.int .i64 0][j]? = some u → (wr.alloc (.cells #[.int .i64 i, .int .i64 0] 52)).cell? ((⟨wr.heap.size, 0, none⟩ : Addr).add j) = some u) := Lib.hid (fun j u hu => by
            rw [Addr.add_mid, Nat.zero_add, NB.out.cell]
            exact hu)
          clear hO0 hm HO
          have e3 := wrap_of ((m : Int) + 1 - 1) (by omega) (by omega)
          go_wp2_with (at_builtin; refine wpList_append_own_at _ rfl _ _ 39 rfl (w.heap.size + 1) 52 i0 _ 2 16 Tryd.underlying39 HI.out HZ.out HS.out HB.out (by rfl) (by decide) (.slice A m cap) m (ys.flatMap rc7) rfl (HO0.out.alloc _) ⟨wr.heap.size, 0, none⟩ 1 1 [.int .i64 (i : Int), .int .i64 0] rfl rfl HNC.out (by simp [Value.oneCell']) (by unfold maxLen; omega) (by omega) (by rw [World.size_alloc]; omega) ?_; intro v5 w5 ho5 hg5 hv5 hl5; clear hv5 hl5; obtain ⟨b5, c5, rfl, hb5, hc5⟩ := own_cell7 ho5 (by omega); have x5 := (hc5 (m * 2 + 1) (by omega)).1; rw [List.getElem?_append_right (by rw [len_rc7, HM.out]; omega), len_rc7, ← HM.out, show m * 2 + 1 - m * 2 = 1 from by omega] at x5; simp only [List.getElem?_cons_succ, List.getElem?_cons_zero] at x5; have z5 := (hc5 (m * 2 + 1) (by omega)).2; have HO5 := Lib.hid ho5; have HG5 := Lib.hid (grown_turn7 hg5); clear hc5 ho5 hg5)
          have OF := own_set7 HO5.out (off := m * 2 + 1) (by omega) (.int .i64 ((1 : Nat) : Int))
          have hsl := set_last7 ys i 0 1 m HM.out
          rw [List.flatMap_append] at hsl
          have hsl2 : (ys.flatMap rc7 ++ [Value.int .i64 (i : Int), Value.int .i64 0]).set (m * 2 + 1) (.int .i64 ((1 : Nat) : Int)) = (ys ++ [(i, 1)]).flatMap rc7 := hsl
          rw [hsl2] at OF
          have TS := (Turn.refl (fun k => k = b5) w5).setCell (p := ⟨b5, m * 2 + 1, none⟩) (.inl rfl) (.int .i64 ((1 : Nat) : Int))
          have TF := ((HT.out.alloc (.cells #[.int .i64 i, .int .i64 0] 52)).trans_new HG5.out (fun k hk e => by have := own_base7 HO0.out k e; rw [HSZ.out] at hk; omega)).trans_new TS (fun k hk e => by rw [HSZ.out] at hk; omega)
          go_roundw
          case rel => exact ⟨i + 1, 1, ys, hlt, by omega, by simp, by simp, by rw [HIF.out]; simpa [← HM.out] using OF, HE2.out, by rw [← HM.out]; omega, TF⟩
          case measure => (simp [intOf]; try omega)
        · have hO0 := HO.out
          rw [if_pos (by omega)] at hO0
          obtain ⟨m, hm⟩ : ∃ m, m = ys.length := ⟨_, rfl⟩
          have HM := Lib.hid hm
          have hlen : (ys ++ [(i - r, r)]).length = m + 1 := by simp [hm]
          rw [if_pos (by omega), hlen]
          rw [hlen] at hO0
          rw [← hm] at hyl
          obtain ⟨b5, c5, he5, hb5, hc5⟩ := own_cell7 hO0 (by omega)
          injection he5 with h51 h52 h53
          subst h51
          subst h53
          have x5 := (hc5 (m * 2 + 1) (by omega)).1
          rw [List.flatMap_append, List.getElem?_append_right (by rw [len_rc7, ← hm]; omega), len_rc7, ← hm, show m * 2 + 1 - m * 2 = 1 from by omega] at x5
          have x5' : wr.cell? ⟨b5, m * 2 + 1, none⟩ = some (.int .i64 (r : Int)) := x5
          have z5 := (hc5 (m * 2 + 1) (by omega)).2
          have HO5 := Lib.hid hO0
          have e3 := wrap_of ((m : Int) + 1 - 1) (by omega) (by omega)
          have hr1 : ((r : Int) + 1 == 1) = false := by simp; omega
          clear hc5 hO0 hm HO x5 hlen h52
          go_wp2_with fail
          have OF := own_set7 HO5.out (off := m * 2 + 1) (by omega) (.int .i64 ((r + 1 : Nat) : Int))
          rw [set_last7 ys (i - r) r (r + 1) m HM.out] at OF
          have TS := HT.out.setCell (p := ⟨b5, m * 2 + 1, none⟩) (.inr (by rw [HSZ.out]; exact hb5)) (.int .i64 ((r + 1 : Nat) : Int))
          go_roundw
          case rel => exact ⟨i + 1, r + 1, ys, hlt, by omega, by simp, by simp, by rw [HIF.out]; simpa [← HM.out] using OF, HE2.out, by rw [← HM.out]; omega, by simpa using TS⟩
          case measure => (simp [intOf]; try omega)
    · obtain rfl : i = n := by omega
      have HR : Hid (rows7 l = ys ++ (if 0 < r then [(i - r, r)] else [])) := Lib.hid (by
        have := rows7_step_end l r ys (by rw [← HN.out]; exact HE.out)
        rw [← HN.out] at this; exact this)
      rw [← HR.out] at HO ⊢
      have hex : ¬ (i : Int) < (i : Int) := by omega
      clear HBr
      go_wp2_with fail
      go_ret
      exact ⟨.slice A (rows7 l).length cap, rfl, own_low7 (base := w.heap.size + 1) (b2 := w.heap.size) HO.out (Nat.le_succ _), HT1.out.trans HT.out⟩
end Go.Proofs.YtjffdekonjejgaaDoor
