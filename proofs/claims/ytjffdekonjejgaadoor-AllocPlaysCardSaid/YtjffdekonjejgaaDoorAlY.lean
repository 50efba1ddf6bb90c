/- Layer 7: the document's Give, Take. -/
import Derived.Test.YtjffdekonjejgaaDoorAlX
namespace Go.Proofs.YtjffdekonjejgaaDoor
open Go.RowKit
set_option linter.unusedVariables false
set_option maxRecDepth 100000

/-- A struct result's cell is no flag's. -/
theorem tf_far {W : World} {v : Value} {l : List Bool} {p : Nat} {cs : List Value} (h : Tf W v l) (hp : Blk W p 29 cs) : ∀ q, v.ownBlock = some q → ¬ q = p := by
  obtain ⟨b, c, r, rfl, hb⟩ := h
  intro q hq e
  simp [Value.ownBlock] at hq
  subst hq
  subst e
  exact absurd (hb.same hp).1 (by decide)
set_option maxHeartbeats 4000000 in
theorem refGive7 (v : Value) (l : List Bool) (i k : Int) (hi : -9223372036854775808 ≤ i ∧ i ≤ 9223372036854775807) (hk : -9223372036854775808 ≤ k ∧ k ≤ 9223372036854775807) (hl : l.length ≤ 16384) (hl0 : 0 < l.length) (w : World) (h : Tf w v l) :
    Calls Tryd.prog 25 #[.agg #[v], .int .i64 i, .int .i64 k] w fun r w' => ∃ v', r = .returned (.tuple #[.agg #[v'], .int .i64 (giv7 l i k).2]) ∧ Tf w' v' (giv7 l i k).1 ∧ Turn (fun _ => False) w w' := by
  have HT := Lib.hid h
  obtain ⟨b, c, rest, rfl, hb⟩ := h
  have hbl := hb.lt
  obtain ⟨N, hN⟩ : ∃ N, N = l.length := ⟨_, rfl⟩
  have HNL := Lib.hid hN
  have HB := Lib.hid hb
  rw [← hN] at HT hl hl0 ⊢
  have HT2 : Hid (Turn (fun _ => False) w ((w.alloc (.cells #[.slice (some ⟨b, 0, none⟩) N c] 29)).alloc (.cells #[.slice none 0 0] 29))) := Lib.hid (((Turn.refl _ w).alloc _).alloc _)
  have HC2 : Hid (Blk ((w.alloc (.cells #[.slice (some ⟨b, 0, none⟩) N c] 29)).alloc (.cells #[.slice none 0 0] 29)) w.heap.size 29 [.slice (some ⟨b, 0, none⟩) N c]) := Lib.hid ((Blk.new w 29 [.slice (some ⟨b, 0, none⟩) N c]).alloc _)
  have HD2 : Hid (Blk ((w.alloc (.cells #[.slice (some ⟨b, 0, none⟩) N c] 29)).alloc (.cells #[.slice none 0 0] 29)) (w.heap.size + 1) 29 [.slice none 0 0]) := Lib.hid (Blk.new_ _ 29 [.slice none 0 0] (by simp))
  clear hb hN
  by_cases hk1 : k < 1
  · have HR : Hid (giv7 l i k = (l, 2)) := Lib.hid (by unfold giv7; rw [if_pos hk1])
    rw [HR.out]
    go_enter Tryd.func25, Tryd.ntmps25
    go_wp2_with fail
    exact bodyPost_ret (v := .tuple #[.agg #[.slice (some ⟨b, 0, none⟩) N c], .int .i64 2]) (by simp [results, Tryd.results25, go_sem]) rfl ⟨_, rfl, HT.out.still (((Turn.refl _ w).alloc _).alloc _), ((Turn.refl _ w).alloc _).alloc _⟩
  · by_cases hr : i < 0 ∨ (N : Int) - i < k
    · have HR : Hid (giv7 l i k = (l, 6)) := Lib.hid (by unfold giv7; rw [if_neg hk1, if_pos (by rw [← HNL.out]; exact hr)])
      rw [HR.out]
      have hc : i < 0 ∨ (0 ≤ i ∧ (N : Int) < k) ∨ (0 ≤ i ∧ k ≤ (N : Int) ∧ (N : Int) - k < i) := by omega
      have hk2 : 1 ≤ k := by omega
      clear hr hk1
      rcases hc with h1 | ⟨h1, h2⟩ | ⟨h1, h2, h3⟩
      · go_enter Tryd.func25, Tryd.ntmps25
        go_wp2_with fail
        exact bodyPost_ret (v := .tuple #[.agg #[.slice (some ⟨b, 0, none⟩) N c], .int .i64 6]) (by simp [results, Tryd.results25, go_sem]) rfl ⟨_, rfl, HT.out.still (((Turn.refl _ w).alloc _).alloc _), ((Turn.refl _ w).alloc _).alloc _⟩
      · go_enter Tryd.func25, Tryd.ntmps25
        go_wp2_with fail
        exact bodyPost_ret (v := .tuple #[.agg #[.slice (some ⟨b, 0, none⟩) N c], .int .i64 6]) (by simp [results, Tryd.results25, go_sem]) rfl ⟨_, rfl, HT.out.still (((Turn.refl _ w).alloc _).alloc _), ((Turn.refl _ w).alloc _).alloc _⟩
      · have e1 := wrap_of ((N : Int) - k) (by omega) (by omega)
        go_enter Tryd.func25, Tryd.ntmps25
        go_wp2_with fail
        exact bodyPost_ret (v := .tuple #[.agg #[.slice (some ⟨b, 0, none⟩) N c], .int .i64 6]) (by simp [results, Tryd.results25, go_sem]) rfl ⟨_, rfl, HT.out.still (((Turn.refl _ w).alloc _).alloc _), ((Turn.refl _ w).alloc _).alloc _⟩
    · obtain ⟨I, rfl⟩ : ∃ n : Nat, i = (n : Int) := ⟨i.toNat, by omega⟩
      obtain ⟨K, rfl⟩ : ∃ n : Nat, k = (n : Int) := ⟨k.toNat, by omega⟩
      have hIK : I + K ≤ N := by omega
      have HR : Hid (giv7 l I K = if some7 l I K then (l, 7) else (flip l I K, 0)) := Lib.hid (by unfold giv7; rw [if_neg hk1, if_neg (by rw [← HNL.out]; exact hr), Int.toNat_natCast, Int.toNat_natCast])
      have hk2 : (1 : Int) ≤ (K : Int) := by omega
      have hi0 : (0 : Int) ≤ (I : Int) := by omega
      have hk3 : (K : Int) ≤ (N : Int) := by omega
      have hi3 : (I : Int) ≤ (N : Int) - (K : Int) := by omega
      have e1 := wrap_of ((N : Int) - (K : Int)) (by omega) (by omega)
      clear hr hk1
      go_enter Tryd.func25, Tryd.ntmps25
      go_wp2_with fail
      generalize ((w.alloc (.cells #[.slice (some ⟨b, 0, none⟩) N c] 29)).alloc (.cells #[.slice none 0 0] 29)) = W2 at *
      have HB2 := Lib.hid (HB.out.turn HT2.out (fun h => h))
      have y0 := HC2.out.cell 0
      have y1 := HD2.out.cell 0
      have y2 := HD2.out.free 0
      simp only [List.getElem?_cons_zero] at y0 y1
      go_loop [8] (fun v8 => ∃ j : Nat, j ≤ K ∧ v8 = .int .i64 j ∧ (∀ q, q < j → l.getD (I + q) false = false)) (fun v8 => K - (intOf v8).toNat)
      case atStart => exact ⟨0, Nat.zero_le _, rfl, fun q h => absurd h (by omega)⟩
      case round =>
        obtain ⟨j, hj, rfl, hq⟩ := hrel
        have HQ := Lib.hid hq
        clear hq
        by_cases hlt : j < K
        · have e2 := wrap_of ((I : Int) + (j : Int)) (by omega) (by omega)
          have e3 := wrap_of ((j : Int) + 1) (by omega) (by omega)
          have hji : (j : Int) < (K : Int) := by omega
          have hb0 : (I : Int) + (j : Int) < (N : Int) := by omega
          have hb1 : (0 : Int) ≤ (I : Int) + (j : Int) := by omega
          have hb2 : ((I : Int) + (j : Int)).toNat = I + j := by omega
          have x0 := HB2.out.cell (I + j)
          rw [List.getElem?_append_left (by rw [len_tb, ← HNL.out]; omega), tb_at _ _ (by rw [← HNL.out]; omega)] at x0
          cases hb : l.getD (I + j) false with
          | true =>
            have HR2 : Hid (giv7 l I K = (l, 7)) := Lib.hid (by rw [HR.out, some7_yes hlt hb]; rfl)
            rw [hb] at x0
            clear hb
            go_wp2_with fail
            have TS := (Turn.refl (fun k => k = w.heap.size + 1) W2).setCell (p := ⟨w.heap.size + 1, 0, none⟩) (.inl rfl) (.slice (some ⟨b, 0, none⟩) N c)
            have z0 := (HD2.out.put 0 (.slice (some ⟨b, 0, none⟩) N c)).cell 0
            simp only [List.set_cons_zero, List.getElem?_cons_zero] at z0
            refine bodyPost_ret (v := .tuple #[.agg #[.slice (some ⟨b, 0, none⟩) N c], .int .i64 7]) (by simp [results, Tryd.results25, go_sem, z0]) rfl ?_
            rw [HR2.out]
            exact ⟨_, rfl, (HT.out.still HT2.out).turn TS (tf_far (HT.out.still HT2.out) HD2.out), HT2.out.trans_new TS (fun k hk h => by omega)⟩
          | false =>
            have HQ2 : Hid (∀ q, q < j + 1 → l.getD (I + q) false = false) := Lib.hid (fun q h => by
              rcases Nat.lt_succ_iff_lt_or_eq.1 h with h | h
              · exact HQ.out q h
              · rw [h]; exact hb)
            rw [hb] at x0
            clear hb
            go_wp2_with fail
            go_round
            case rel => exact ⟨j + 1, hlt, by simp, HQ2.out⟩
            case measure => (simp [intOf]; try omega)
        · obtain rfl : j = K := by omega
          have HR2 : Hid (giv7 l I j = (flip l I j, 0)) := Lib.hid (by rw [HR.out, some7_no HQ.out]; rfl)
          have HW := Lib.hid (refWith7 _ l I j true (by rw [← HNL.out]; exact hl) (by rw [← HNL.out]; omega) (by rw [← HNL.out]; exact hl0) W2 (HT.out.still HT2.out))
          rw [setr_flip l I true j (by rw [← HNL.out]; omega) (fun q a c => by have := HQ.out (q - I) (by omega); rw [show I + (q - I) = q from by omega] at this; simpa using this)] at HW
          generalize flip l I j = X at *
          go_wp2_with fail
          refine HW.out.mono ?_
          rintro e w3 ⟨v3, rfl, ht3, hw3⟩
          obtain ⟨b3, k3, rfl⟩ := ht3.sl
          have C3 := HD2.out.turn hw3 (fun h => h)
          have c3 := C3.cell 0
          have z3 := C3.free 0
          simp only [List.getElem?_cons_zero] at c3
          have HC3 := Lib.hid C3
          have HT3 := Lib.hid ht3
          have HW3 := Lib.hid hw3
          clear C3 ht3 hw3
          go_wp2_with fail
          have TS := (Turn.refl (fun k => k = w.heap.size + 1) w3).setCell (p := ⟨w.heap.size + 1, 0, none⟩) (.inl rfl) (.slice (some ⟨b3, 0, none⟩) X.length k3)
          have z0 := (HC3.out.put 0 (.slice (some ⟨b3, 0, none⟩) X.length k3)).cell 0
          simp only [List.set_cons_zero, List.getElem?_cons_zero] at z0
          refine bodyPost_ret (v := .tuple #[.agg #[.slice (some ⟨b3, 0, none⟩) X.length k3], .int .i64 0]) (by simp [results, Tryd.results25, go_sem, z0]) rfl ?_
          rw [HR2.out]
          exact ⟨_, rfl, HT3.out.turn TS (tf_far HT3.out HC3.out), (HT2.out.trans HW3.out).trans_new TS (fun k hk h => by omega)⟩
end Go.Proofs.YtjffdekonjejgaaDoor
