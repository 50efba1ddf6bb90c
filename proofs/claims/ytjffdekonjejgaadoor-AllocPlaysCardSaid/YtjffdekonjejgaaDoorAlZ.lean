/- Layer 7: the document's Take. -/
import Derived.Test.YtjffdekonjejgaaDoorAlY
namespace Go.Proofs.YtjffdekonjejgaaDoor
open Go.RowKit
set_option linter.unusedVariables false
set_option maxRecDepth 100000

theorem find_at7 {K : Nat} {xs : List (Nat × Nat)} {j : Nat} {x : Nat × Nat} (hx : xs[j]? = some x) (hk : K ≤ x.2) (hq : ∀ q y, q < j → xs[q]? = some y → y.2 < K) : xs.find? (fun x => decide ((K : Int) ≤ (x.2 : Int))) = some x := by
  induction xs generalizing j with
  | nil => simp at hx
  | cons y xs ih =>
    cases j with
    | zero =>
      simp only [List.getElem?_cons_zero, Option.some.injEq] at hx
      subst hx
      rw [List.find?_cons, decide_eq_true (by omega)]
    | succ j =>
      have h0 := hq 0 y (by omega) rfl
      rw [List.find?_cons, decide_eq_false (by omega)]
      exact ih (by simpa using hx) (fun q z h1 h2 => hq (q + 1) z (by omega) (by simpa using h2))
theorem find_no7 {K : Nat} {xs : List (Nat × Nat)} (hq : ∀ q y, q < xs.length → xs[q]? = some y → y.2 < K) : xs.find? (fun x => decide ((K : Int) ≤ (x.2 : Int))) = none := by
  rw [List.find?_eq_none]
  intro y hy
  obtain ⟨q, hl, rfl⟩ := List.getElem_of_mem hy
  have := hq q _ hl (List.getElem?_eq_getElem hl)
  simp; omega
set_option maxHeartbeats 4000000 in
theorem refTake7 (v : Value) (l : List Bool) (k : Int) (hk : k ≤ 9223372036854775807) (hl : l.length ≤ 16384) (hl0 : 0 < l.length) (w : World) (h : Tf w v l) :
    Calls Tryd.prog 26 #[.agg #[v], .int .i64 k] w fun r w' => ∃ v', r = .returned (.tuple #[.agg #[v'], .int .i64 (tak7 l k).2.1, .int .i64 (tak7 l k).2.2]) ∧ Tf w' v' (tak7 l k).1 ∧ Turn (fun _ => False) w w' := by
  have HT := Lib.hid h
  have hrn := rows7_len (l ++ [false]) 0 0
  have hrl : (rows7 l).length ≤ 16385 := by
    rw [List.length_append] at hrn
    unfold rows7
    simp only [List.length_cons, List.length_nil] at hrn
    omega
  obtain ⟨b, c, rest, rfl, hb⟩ := h
  have hbl := hb.lt
  obtain ⟨N, hN⟩ : ∃ N, N = l.length := ⟨_, rfl⟩
  have HNL := Lib.hid hN
  rw [← hN] at HT hl hl0 ⊢
  have HT2 : Hid (Turn (fun _ => False) w ((w.alloc (.cells #[.slice (some ⟨b, 0, none⟩) N c] 29)).alloc (.cells #[.slice none 0 0] 29))) := Lib.hid (((Turn.refl _ w).alloc _).alloc _)
  have HC2 : Hid (Blk ((w.alloc (.cells #[.slice (some ⟨b, 0, none⟩) N c] 29)).alloc (.cells #[.slice none 0 0] 29)) w.heap.size 29 [.slice (some ⟨b, 0, none⟩) N c]) := Lib.hid ((Blk.new w 29 [.slice (some ⟨b, 0, none⟩) N c]).alloc _)
  have HD2 : Hid (Blk ((w.alloc (.cells #[.slice (some ⟨b, 0, none⟩) N c] 29)).alloc (.cells #[.slice none 0 0] 29)) (w.heap.size + 1) 29 [.slice none 0 0]) := Lib.hid (Blk.new_ _ 29 [.slice none 0 0] (by simp))
  clear hb hN hrn
  by_cases hk1 : k < 1
  · have HR : Hid (tak7 l k = (l, 0, 2)) := Lib.hid (by unfold tak7; rw [if_pos hk1])
    rw [HR.out]
    go_enter Tryd.func26, Tryd.ntmps26
    go_wp2_with fail
    exact bodyPost_ret (v := .tuple #[.agg #[.slice (some ⟨b, 0, none⟩) N c], .int .i64 0, .int .i64 2]) (by simp [results, Tryd.results26, go_sem]) rfl ⟨_, rfl, HT.out.still (((Turn.refl _ w).alloc _).alloc _), ((Turn.refl _ w).alloc _).alloc _⟩
  · obtain ⟨K, rfl⟩ : ∃ n : Nat, k = (n : Int) := ⟨k.toNat, by omega⟩
    have hK1 : 1 ≤ K := by omega
    have hk2 : (1 : Int) ≤ (K : Int) := by omega
    have HTA : Hid (∀ x, (rows7 l).find? (fun x => decide ((K : Int) ≤ (x.2 : Int))) = some x → tak7 l K = (flip l x.1 K, (x.1 : Int), 0)) := Lib.hid (fun x hx => by unfold tak7; rw [if_neg hk1, hx]; simp)
    have HTB : Hid ((rows7 l).find? (fun x => decide ((K : Int) ≤ (x.2 : Int))) = none → tak7 l K = (l, 0, 10)) := Lib.hid (fun hx => by unfold tak7; rw [if_neg hk1, hx])
    have HRW := Lib.hid (refRows7 _ l (by rw [← HNL.out]; exact hl) _ (HT.out.still HT2.out))
    have HMM := Lib.hid (rows7_mem l)
    clear hk1
    go_enter Tryd.func26, Tryd.ntmps26
    go_wp2_with fail
    refine HRW.out.mono ?_
    rintro e W3 ⟨u, rfl, ho3, hw3⟩
    have P3 := Lib.hid (pr_own ho3)
    obtain ⟨A, c3, rfl⟩ := own_slice7 ho3
    have C3 := HC2.out.turn hw3 (fun h => h)
    have D3 := HD2.out.turn hw3 (fun h => h)
    have HC3 := Lib.hid C3
    have HD3 := Lib.hid D3
    have T3 := Lib.hid (HT2.out.trans hw3)
    have TF3 := Lib.hid (HT.out.still T3.out)
    have y0 := C3.cell 0
    have y1 := D3.cell 0
    have y2 := D3.free 0
    simp only [List.getElem?_cons_zero] at y0 y1
    clear ho3 hw3 C3 D3 HRW HC2 HD2 HT2
    obtain ⟨m, hm⟩ : ∃ m, m = (rows7 l).length := ⟨_, rfl⟩
    have HM := Lib.hid hm
    rw [← hm] at hrl ⊢
    clear hm
    go_wp2_with fail
    go_loop [8] (fun v8 => ∃ j : Nat, j ≤ m ∧ v8 = .int .i64 j ∧ (∀ q y, q < j → (rows7 l)[q]? = some y → y.2 < K)) (fun v8 => m - (intOf v8).toNat)
    case atStart => exact ⟨0, Nat.zero_le _, rfl, fun q y h => absurd h (by omega)⟩
    case round =>
      obtain ⟨j, hj, rfl, hq⟩ := hrel
      have HQ := Lib.hid hq
      clear hq
      have e3 := wrap_of ((j : Int) + 1) (by omega) (by omega)
      by_cases hlt : j < m
      · obtain ⟨x, hx⟩ : ∃ x, (rows7 l)[j]? = some x := ⟨_, List.getElem?_eq_getElem (by rw [← HM.out]; exact hlt)⟩
        obtain ⟨A', c', he, hP⟩ := P3.out
        injection he with he1 he2 he3
        obtain ⟨g, hg, hgl, hcells⟩ := hP (by rw [← HM.out]; omega)
        rw [← he1] at hg
        subst hg
        obtain ⟨q0, q1⟩ := hcells j x hx
        have hxm := HMM.out x (List.mem_of_getElem? hx)
        obtain ⟨x1, x2⟩ := x
        simp only at q0 q1 hxm
        have hji : (j : Int) < (m : Int) := by omega
        have HX := Lib.hid hx
        clear hcells hP he1 he2 he3 hx
        by_cases hkx : K ≤ x2
        · have hkxi : (K : Int) ≤ (x2 : Int) := by omega
          have HF := Lib.hid (HTA.out (x1, x2) (find_at7 HX.out hkx HQ.out))
          have HW := Lib.hid (fun W (hW : Tf W (.slice (some ⟨b, 0, none⟩) N c) l) => refWith7 _ l x1 K false (by rw [← HNL.out]; exact hl) (by omega) (by rw [← HNL.out]; exact hl0) W hW)
          rw [setr_flip l x1 false K (by omega) (fun q a d => by rw [hxm.2.2 q a (by omega)]; rfl)] at HW
          have HQ0 := Lib.hid q0
          generalize flip l x1 K = X at *
          clear hxm
          go_wp2_with fail
          clear q0 q1
          refine wp_region_noPanic ?_
          refine wp_region_held_drew (S := fun Y => Y.cell? ⟨w.heap.size, 0, none⟩ = some (.slice (some ⟨b, 0, none⟩) N c) ∧ Y.cell? ⟨g, j * 2, none⟩ = some (.int .i64 x1)) (by kernel_rfl) ⟨HC3.out.drew.cell 0, HQ0.out⟩ (fun hHeld => ?_)
          -- region
          refine wpAnyH_take (i := 0) (v := ?_) rfl (by kernel_rfl) (by kernel_rfl) (by kernel_rfl) (fun _ _ _ h => h) (Or.inl ⟨by rfl, ?_⟩) (by assumption) ?_
          rotate_left 1
          · intro w' hSw
            obtain ⟨p0, p1⟩ := hSw
            go_simp
            all_goals first | with_reducible rfl | (rw [if_neg (by omega)]; done) | (rw [if_pos (by omega)]; done) | (rw [if_neg (by omega)]; with_reducible rfl) | (rw [if_pos (by omega)]; with_reducible rfl)
          try simp only [List.getElem_toArray, List.getElem_cons_zero, Act.put, List.setIfInBounds_toArray, List.set_cons_zero, List.set_cons_succ]
          refine wpAnyH_take (i := 1) (v := ?_) rfl (by kernel_rfl) (by kernel_rfl) (by kernel_rfl) (fun _ _ _ h => h) (Or.inl ⟨by rfl, ?_⟩) (by assumption) ?_
          rotate_left 1
          · intro w' hSw
            go_simp
            all_goals first | with_reducible rfl | (rw [if_neg (by omega)]; done) | (rw [if_pos (by omega)]; done) | (rw [if_neg (by omega)]; with_reducible rfl) | (rw [if_pos (by omega)]; with_reducible rfl)
          try simp only [List.getElem_toArray, List.getElem_cons_zero, List.getElem_cons_succ, Act.put, List.setIfInBounds_toArray, List.set_cons_zero, List.set_cons_succ]
          refine wpAnyH_take (i := 2) (v := ?_) rfl (by kernel_rfl) (by kernel_rfl) (by kernel_rfl) (fun _ _ _ h => h) (Or.inl ⟨by rfl, ?_⟩) (by assumption) ?_
          rotate_left 1
          · intro w' hSw
            go_simp
            all_goals first | with_reducible rfl | (rw [if_neg (by omega)]; done) | (rw [if_pos (by omega)]; done) | (rw [if_neg (by omega)]; with_reducible rfl) | (rw [if_pos (by omega)]; with_reducible rfl)
          try simp only [List.getElem_toArray, List.getElem_cons_zero, List.getElem_cons_succ, Act.put, List.setIfInBounds_toArray, List.set_cons_zero, List.set_cons_succ]
          refine wpAnyH_take (i := 3) (v := ?_) rfl (by kernel_rfl) (by kernel_rfl) (by kernel_rfl) (fun _ _ _ h => h) (Or.inl ⟨by rfl, ?_⟩) (by assumption) ?_
          rotate_left 1
          · intro w' hSw
            go_simp
            all_goals first | with_reducible rfl | (rw [if_neg (by omega)]; done) | (rw [if_pos (by omega)]; done) | (rw [if_neg (by omega)]; with_reducible rfl) | (rw [if_pos (by omega)]; with_reducible rfl)
          try simp only [List.getElem_toArray, List.getElem_cons_zero, List.getElem_cons_succ, Act.put, List.setIfInBounds_toArray, List.set_cons_zero, List.set_cons_succ]
          refine wpAnyH_take (i := 4) (v := ?_) rfl (by kernel_rfl) (by kernel_rfl) (by kernel_rfl) (fun _ _ _ h => h) (Or.inl ⟨by rfl, ?_⟩) (by assumption) ?_
          rotate_left 1
          · intro w' hSw
            go_simp
            all_goals first | with_reducible rfl | (rw [if_neg (by omega)]; done) | (rw [if_pos (by omega)]; done) | (rw [if_neg (by omega)]; with_reducible rfl) | (rw [if_pos (by omega)]; with_reducible rfl)
          try simp only [List.getElem_toArray, List.getElem_cons_zero, List.getElem_cons_succ, Act.put, List.setIfInBounds_toArray, List.set_cons_zero, List.set_cons_succ]
          refine wpAnyH_take (i := 5) (v := ?_) rfl (by kernel_rfl) (by kernel_rfl) (by kernel_rfl) (fun _ _ _ h => h) (Or.inl ⟨by rfl, ?_⟩) (by assumption) ?_
          rotate_left 1
          · intro w' hSw
            obtain ⟨p0, p1⟩ := hSw
            go_simp
            all_goals first | with_reducible rfl | (rw [if_neg (by omega)]; done) | (rw [if_pos (by omega)]; done) | (rw [if_neg (by omega)]; with_reducible rfl) | (rw [if_pos (by omega)]; with_reducible rfl)
          try simp only [List.getElem_toArray, List.getElem_cons_zero, List.getElem_cons_succ, Act.put, List.setIfInBounds_toArray, List.set_cons_zero, List.set_cons_succ]
          refine wpAnyH_take (i := 6) (v := ?_) rfl (by kernel_rfl) (by kernel_rfl) (by kernel_rfl) (fun _ _ _ h => h) (Or.inl ⟨by rfl, ?_⟩) (by assumption) ?_
          rotate_left 1
          · intro w' hSw
            go_simp
            all_goals first | with_reducible rfl | (rw [if_neg (by omega)]; done) | (rw [if_pos (by omega)]; done) | (rw [if_neg (by omega)]; with_reducible rfl) | (rw [if_pos (by omega)]; with_reducible rfl)
          try simp only [List.getElem_toArray, List.getElem_cons_zero, List.getElem_cons_succ, Act.put, List.setIfInBounds_toArray, List.set_cons_zero, List.set_cons_succ]
          refine wpAnyH_take (i := 8) (v := ?_) rfl (by kernel_rfl) (by kernel_rfl) (by kernel_rfl) (fun _ _ _ h => h) (Or.inl ⟨by rfl, ?_⟩) (by assumption) ?_
          rotate_left 1
          · intro w' hSw
            go_simp
            all_goals first | with_reducible rfl | (rw [if_neg (by omega)]; done) | (rw [if_pos (by omega)]; done) | (rw [if_neg (by omega)]; with_reducible rfl) | (rw [if_pos (by omega)]; with_reducible rfl)
          try simp only [List.getElem_toArray, List.getElem_cons_zero, List.getElem_cons_succ, Act.put, List.setIfInBounds_toArray, List.set_cons_zero, List.set_cons_succ]
          refine wpAnyH_take (i := 9) (v := ?_) rfl (by kernel_rfl) (by kernel_rfl) (by kernel_rfl) (fun _ _ _ h => h) (Or.inl ⟨by rfl, ?_⟩) (by assumption) ?_
          rotate_left 1
          · intro w' hSw
            go_simp
            all_goals first | with_reducible rfl | (rw [if_neg (by omega)]; done) | (rw [if_pos (by omega)]; done) | (rw [if_neg (by omega)]; with_reducible rfl) | (rw [if_pos (by omega)]; with_reducible rfl)
          try simp only [List.getElem_toArray, List.getElem_cons_zero, List.getElem_cons_succ, Act.put, List.setIfInBounds_toArray, List.set_cons_zero, List.set_cons_succ]
          refine wpAnyH_take (i := 10) (v := ?_) rfl (by kernel_rfl) (by kernel_rfl) (by kernel_rfl) (fun _ _ _ h => h) (Or.inl ⟨by rfl, ?_⟩) (by assumption) ?_
          rotate_left 1
          · intro w' hSw
            go_simp
            all_goals first | with_reducible rfl | (rw [if_neg (by omega)]; done) | (rw [if_pos (by omega)]; done) | (rw [if_neg (by omega)]; with_reducible rfl) | (rw [if_pos (by omega)]; with_reducible rfl)
          try simp only [List.getElem_toArray, List.getElem_cons_zero, List.getElem_cons_succ, Act.put, List.setIfInBounds_toArray, List.set_cons_zero, List.set_cons_succ]
          refine wpAnyH_take (i := 11) (v := ?_) rfl (by kernel_rfl) (by kernel_rfl) (by kernel_rfl) (fun _ _ _ h => h) (Or.inl ⟨by rfl, ?_⟩) (by assumption) ?_
          rotate_left 1
          · intro w' hSw
            go_simp
            all_goals first | with_reducible rfl | (rw [if_neg (by omega)]; done) | (rw [if_pos (by omega)]; done) | (rw [if_neg (by omega)]; with_reducible rfl) | (rw [if_pos (by omega)]; with_reducible rfl)
          try simp only [List.getElem_toArray, List.getElem_cons_zero, List.getElem_cons_succ, Act.put, List.setIfInBounds_toArray, List.set_cons_zero, List.set_cons_succ]
          refine wpAnyH_take (i := 12) (v := ?_) rfl (by kernel_rfl) (by kernel_rfl) (by kernel_rfl) (fun _ _ _ h => h) (Or.inl ⟨by rfl, ?_⟩) (by assumption) ?_
          rotate_left 1
          · intro w' hSw
            obtain ⟨p0, p1⟩ := hSw
            go_simp
            all_goals first | with_reducible rfl | (rw [if_neg (by omega)]; done) | (rw [if_pos (by omega)]; done) | (rw [if_neg (by omega)]; with_reducible rfl) | (rw [if_pos (by omega)]; with_reducible rfl)
          try simp only [List.getElem_toArray, List.getElem_cons_zero, List.getElem_cons_succ, Act.put, List.setIfInBounds_toArray, List.set_cons_zero, List.set_cons_succ]
          refine wpAnyH_ready (rs := [7]) (by kernel_rfl) (by simp) ?_
          refine AllReadyH.cons rfl (fun K hK => ?_) AllReadyH.nil
          refine step_call rfl 33 Tryd.f33 _ _ rfl Tryd.func33 (by kernel_rfl) (by kernel_rfl) _ _ ((HW.out _ (TF3.out.still ((Turn.refl _ _).drew))).mono (fun e w' h => (by obtain ⟨v', h1, h2, h3⟩ := h; exact ⟨_, h1, v', rfl, h2, h3⟩ : ∃ v, e = .returned v ∧ (∃ v', v = .agg #[v'] ∧ Tf w' v' X ∧ Turn (fun _ => False) W3.drew w')))) (by go_simp) ?_
          rintro v7 w7 ⟨v7', rfl, ht7, hw7⟩
          obtain ⟨b3, k3, rfl⟩ := ht7.sl
          have C7 := Lib.hid (HC3.out.drew.turn hw7 (fun h => h))
          have D7 := Lib.hid (HD3.out.drew.turn hw7 (fun h => h))
          have T7 := Lib.hid ht7
          have W7 := Lib.hid (T3.out.drew.trans hw7)
          have Q7 := (World.cell?_of_block (w := W3) (a := ⟨g, j * 2, none⟩) (hw7.block g hgl (fun h => h))).trans HQ0.out
          have c7 := D7.out.cell 0
          have z7 := D7.out.free 0
          simp only [List.getElem?_cons_zero] at c7
          clear ht7 hw7
          refine hK.out _ _ ⟨C7.out.cell 0, Q7⟩ (fun hHeld => ?_)
          clear hK K
          try simp only [List.getElem_toArray, List.getElem_cons_zero, List.getElem_cons_succ, Act.put, List.setIfInBounds_toArray, List.set_cons_zero, List.set_cons_succ]
          refine wpAnyH_ready (rs := [13]) (by kernel_rfl) (by simp) ?_
          refine AllReadyH.cons rfl (fun K hK => ?_) AllReadyH.nil
          go_simp
          have hgne : ¬ g = w.heap.size + 1 := by
            intro e
            have h1 := D7.out.cell (j * 2)
            rw [← e, Q7] at h1
            have h2 : j * 2 = 0 := by
              rcases Nat.eq_zero_or_pos (j * 2) with h | h
              · exact h
              · rw [List.getElem?_eq_none (by simp; omega)] at h1; cases h1
            rw [h2] at h1
            cases h1
          have TS := Lib.hid ((Turn.refl (fun k => k = w.heap.size + 1) w7).setCell (p := ⟨w.heap.size + 1, 0, none⟩) (.inl rfl) (.slice (some ⟨b3, 0, none⟩) X.length k3))
          refine hK.out _ _ ⟨(C7.out.turn TS.out (by omega)).cell 0, (World.cell?_of_block (w := w7) (a := ⟨g, j * 2, none⟩) (TS.out.block g (cell_lt Q7) hgne)).trans Q7⟩ (fun hHeld => ?_)
          clear hK K
          try simp only [List.getElem_toArray, List.getElem_cons_zero, List.getElem_cons_succ, Act.put, List.setIfInBounds_toArray, List.set_cons_zero, List.set_cons_succ]
          refine wpAnyH_take (i := 14) (v := ?_) rfl (by kernel_rfl) (by kernel_rfl) (by kernel_rfl) (fun _ _ _ h => h) (Or.inl ⟨by rfl, ?_⟩) (by assumption) ?_
          rotate_left 1
          · intro w' hSw
            go_simp
            all_goals first | with_reducible rfl | (rw [if_neg (by omega)]; done) | (rw [if_pos (by omega)]; done) | (rw [if_neg (by omega)]; with_reducible rfl) | (rw [if_pos (by omega)]; with_reducible rfl)
          try simp only [List.getElem_toArray, List.getElem_cons_zero, List.getElem_cons_succ, Act.put, List.setIfInBounds_toArray, List.set_cons_zero, List.set_cons_succ]
          refine wpAnyH_take (i := 15) (v := ?_) rfl (by kernel_rfl) (by kernel_rfl) (by kernel_rfl) (fun _ _ _ h => h) (Or.inl ⟨by rfl, ?_⟩) (by assumption) ?_
          rotate_left 1
          · intro w' hSw
            go_simp
            all_goals first | with_reducible rfl | (rw [if_neg (by omega)]; done) | (rw [if_pos (by omega)]; done) | (rw [if_neg (by omega)]; with_reducible rfl) | (rw [if_pos (by omega)]; with_reducible rfl)
          try simp only [List.getElem_toArray, List.getElem_cons_zero, List.getElem_cons_succ, Act.put, List.setIfInBounds_toArray, List.set_cons_zero, List.set_cons_succ]
          refine wpAnyH_done (by kernel_rfl) ?_ _
          refine NoPanic.normal ?_
          -- region end
          clear hHeld
          go_wp2
          have z0 := (D7.out.put 0 (.slice (some ⟨b3, 0, none⟩) X.length k3)).cell 0
          simp only [List.set_cons_zero, List.getElem?_cons_zero] at z0
          refine bodyPost_ret (v := .tuple #[.agg #[.slice (some ⟨b3, 0, none⟩) X.length k3], .int .i64 x1, .int .i64 0]) (by simp [results, Tryd.results26, go_sem, z0]) rfl ?_
          rw [HF.out]
          exact ⟨_, rfl, T7.out.turn TS.out (tf_far T7.out D7.out), W7.out.trans_new TS.out (fun k hk h => by omega)⟩
        · have hkxi : (x2 : Int) < (K : Int) := by omega
          have HQ2 : Hid (∀ q y, q < j + 1 → (rows7 l)[q]? = some y → y.2 < K) := Lib.hid (fun q y h h2 => by
            rcases Nat.lt_succ_iff_lt_or_eq.1 h with h | h
            · exact HQ.out q y h h2
            · rw [h, HX.out] at h2
              injection h2 with h2
              subst h2
              simp only; omega)
          go_wp2_with fail
          go_round
          case rel => exact ⟨j + 1, hlt, by simp, HQ2.out⟩
          case measure => (simp [intOf]; try omega)
      · obtain rfl : j = m := by omega
        have HF := Lib.hid (HTB.out (find_no7 (by rw [← HM.out]; exact HQ.out)))
        go_wp2_with fail
        have TS := (Turn.refl (fun k => k = w.heap.size + 1) W3).setCell (p := ⟨w.heap.size + 1, 0, none⟩) (.inl rfl) (.slice (some ⟨b, 0, none⟩) N c)
        have z0 := (HD3.out.put 0 (.slice (some ⟨b, 0, none⟩) N c)).cell 0
        simp only [List.set_cons_zero, List.getElem?_cons_zero] at z0
        refine bodyPost_ret (v := .tuple #[.agg #[.slice (some ⟨b, 0, none⟩) N c], .int .i64 0, .int .i64 10]) (by simp [results, Tryd.results26, go_sem, z0]) rfl ?_
        rw [HF.out]
        exact ⟨_, rfl, TF3.out.turn TS (tf_far TF3.out HD3.out), T3.out.trans_new TS (fun k hk h => by omega)⟩
end Go.Proofs.YtjffdekonjejgaaDoor
