/- PagerCounts: its walk (draft: stands at its first loop). -/
import Derived.Test.YtinnpbabkbppmaaDoorPrR
import Derived.Test.YtinnpbabkbppmaaDoorPrU
namespace Go.Proofs.YtinnpbabkbppmaaDoor
open Go.RowKit
set_option linter.unusedVariables false
set_option linter.unusedSimpArgs false
set_option maxRecDepth 100000

theorem wpAnyH_named9 {P : Program} {md : Region.Mode} {ops : Array Oper} {Q : Exit → Act → World → Prop} {S : World → Prop} {fuel : Nat} {listed : Array Bool} {a : Act} {w : World} (h : ∀ X, X = w → wpAnyH P md ops Q S fuel listed a X) : wpAnyH P md ops Q S fuel listed a w := h w rfl
theorem info_int9 : (Tryd.prog.info? 3).map (fun i => (i.zero, i.size, i.bytes)) = some (some (.int .i64 0), 1, 8) := by kernel_rfl
theorem make_ints9 (w : World) : (Instr.makeSlice 38 (.int .i64 8) (.int .i64 8)).run Tryd.prog w = .ok (.slice (some ⟨w.heap.size, 0, none⟩) 8 8) (w.alloc (.cells ((List.replicate 8 (0 : Int)).map (Value.int .i64)).toArray 3)) := by
  obtain ⟨i, hi, hz, hs, hb⟩ := info_parts_ info_int9
  have := run_makeSlice (P := Tryd.prog) (w := w) 38 3 i _ Tryd.underlying38 hi hz .i64 .i64 8 8 (by decide) (Int.le_refl _) (by rw [hs]; decide) (by rw [hb]; decide) (by omega)
  rw [this, hs, show (Value.int .i64 0).cells = (List.replicate 1 (Value.int .i64 0)).toArray from rfl, made_same 1 _ _ (by decide)]
  rfl
theorem tk9_cell {w : World} {g z : Nat} {T L : List Int} {x : Int} (hb : Blk w g 3 (T.map (Value.int .i64))) (h : Tk9 T L) (hz : z < 8) (hx : T.getD z 0 = x) : w.cell? ⟨g, z, none⟩ = some (.int .i64 x) := by
  have h2 : z < T.length := by rw [h.1]; exact hz
  rw [hb.cell z, List.getElem?_map, List.getElem?_eq_getElem h2]
  rw [List.getD_eq_getElem?_getD, List.getElem?_eq_getElem h2] at hx
  simp only [Option.getD_some] at hx
  rw [hx]; rfl
set_option maxHeartbeats 4000000 in
theorem pagerCounts_walk (v1 v2 : Value) (qs1 : List Acv) (bs : List UInt8) (w : World) (h1 : Acts w.heap.size w v1 qs1) (h2 : Sl w w.heap.size v2 bs) (hbs : bs.length ≤ 140737488355328) (hT : Tb w) :
    Calls Tryd.prog 4 #[v1, v2] w fun r w' => r = .returned (.bool true) ∧ Below w.heap.size w w' := by
  have HBG := Lib.hid (begun9 v1 qs1 w h1 hT)
  have HF1 := Lib.hid (fun (W : World) (ht : Turn (fun _ => False) w W) => few9_any w.heap.size v1 qs1 W (h1.below (ht.below (Nat.le_refl _) (fun k hk => hk.elim)) (Nat.le_refl _)))
  have HL := Lib.hid (fun (W : World) (ht : Turn (fun _ => False) w W) => lives9 W (hT.turn ht (fun h => h)))
  have HSL := Lib.hid h2
  have hin := In4.run 3 (List.replicate 8 0) (fresh 70) (in4_none 8) (qs1.take 100)
  have hln := run9_len 3 (List.replicate 8 0) (fresh 70) (qs1.take 100)
  have hgd := Gd.run 3 (List.replicate 8 0) (fresh 70) ⟨⟨rfl, rfl⟩, by decide⟩ (qs1.take 100)
  generalize run9 3 (List.replicate 8 0) (fresh 70) (qs1.take 100) = R0 at *
  obtain ⟨st0, D0⟩ := R0
  simp only at hin hln hgd HBG
  have HGD := Lib.hid hgd
  have HBS := Lib.hid hbs
  clear hgd hbs
  have HPD : Hid (D0.pend.length ≤ 800) := Lib.hid (by
    have h3 : (fresh 70).pend.length = 0 := rfl
    have h4 : (qs1.take 100).length ≤ 100 := by rw [List.length_take]; omega
    omega)
  have HIN := Lib.hid hin
  have HL8 : Hid (st0.length = 8) := Lib.hid (by have := hln.1; rw [List.length_replicate] at this; exact this)
  clear h1 h2 hT hin hln
  cases hf1 : few9 qs1 with
  | false =>
    rw [hf1] at HF1
    clear hf1
    go_enter Tryd.func4, Tryd.ntmps4
    go_wp2_with fail
    refine HBG.out.mono ?_
    rintro e w1 ⟨p, pd, S1, rfl, hM⟩
    have M1 := Lib.hid hM
    clear hM
    go_wp2_with fail
    refine (HF1.out _ M1.out.tn).mono ?_
    rintro e w2 ⟨rfl, rfl⟩
    go_wp2_with fail
    refine (HL.out _ M1.out.tn).mono ?_
    rintro e w3 ⟨rfl, ht⟩
    have T3 := Lib.hid (M1.out.tn.trans ht)
    clear ht
    go_wp2_with fail
    go_ret
    exact ⟨rfl, T3.out.below (Nat.le_refl _) (fun k hk => hk.elim)⟩
  | true =>
    rw [hf1] at HF1
    clear hf1
    go_enter Tryd.func4, Tryd.ntmps4
    go_wp2_with fail
    refine HBG.out.mono ?_
    rintro e w1 ⟨p, pd, S1, rfl, hM⟩
    have M1 := Lib.hid hM
    clear hM
    go_wp2_with fail
    refine (HF1.out _ M1.out.tn).mono ?_
    rintro e w2 ⟨rfl, rfl⟩
    go_wp2_with fail
    refine (pages9_q M1.out.q).mono ?_
    rintro e w4 ⟨x1, x2, x3, rfl, r1, r2, r3, hq, ht⟩
    have M4 := Lib.hid (M1.out.still ht)
    obtain ⟨B1, c1, rfl, hr1⟩ := r1
    obtain ⟨B2, c2, rfl, hr2⟩ := r2
    obtain ⟨B3, c3, rfl, hr3⟩ := r3
    have R1 := Lib.hid hr1
    have R2 := Lib.hid hr2
    have R3 := Lib.hid hr3
    obtain ⟨n1, hn1⟩ : ∃ n, (pk9 1 st0).length = n := ⟨_, rfl⟩
    obtain ⟨n2, hn2⟩ : ∃ n, (pk9 2 st0).length = n := ⟨_, rfl⟩
    obtain ⟨n3, hn3⟩ : ∃ n, (pk9 3 st0).length = n := ⟨_, rfl⟩
    have N1 := Lib.hid hn1
    have N2 := Lib.hid hn2
    have N3 := Lib.hid hn3
    rw [hn1, hn2, hn3]
    clear hr1 hr2 hr3 hn1 hn2 hn3 hq ht M1
    obtain ⟨Y, hY⟩ : ∃ Y, w4.alloc (.cells ((List.replicate 8 (0 : Int)).map (Value.int .i64)).toArray 3) = Y := ⟨_, rfl⟩
    have hmk := make_ints9 w4
    rw [hY] at hmk
    have TK : Hid (Blk Y w4.heap.size 3 ((List.replicate 8 (0 : Int)).map (Value.int .i64))) := Lib.hid (hY ▸ Blk.new _ _ _)
    have tY : Hid (Turn (fun _ => False) w4 Y) := Lib.hid (hY ▸ (Turn.refl _ _).alloc _)
    have hgY : w4.heap.size < Y.heap.size := TK.out.lt
    clear hY
    go_wp2_with fail
    obtain ⟨Z, hZ⟩ : ∃ Z, Y.alloc (.cells #[.slice B1 n1 c1, .slice B2 n2 c2, .slice B3 n3 c3] 38) = Z := ⟨_, rfl⟩
    have BZ : Hid (Blk Z Y.heap.size 38 [.slice B1 n1 c1, .slice B2 n2 c2, .slice B3 n3 c3]) := Lib.hid (hZ ▸ Blk.new _ _ _)
    have TZ : Hid (Blk Z w4.heap.size 3 ((List.replicate 8 (0 : Int)).map (Value.int .i64))) := Lib.hid (hZ ▸ TK.out.alloc _)
    have tZ : Hid (Turn (fun _ => False) w4 Z) := Lib.hid (hZ ▸ tY.out.alloc _)
    have HROW : Hid (∀ k, k < 3 → ∃ B c n, ([.slice B1 n1 c1, .slice B2 n2 c2, .slice B3 n3 c3] : List Value)[k]? = some (.slice B n c) ∧ (pk9 (k + 1) st0).length = n ∧ ∀ (j : Nat) (z : Int), (pk9 (k + 1) st0)[j]? = some z → ∃ b, B = some ⟨b, 0, none⟩ ∧ b < w4.heap.size ∧ ¬ S1 b ∧ w4.cell? ⟨b, j, none⟩ = some (.int .i64 z)) := Lib.hid (fun k hk => by
      rcases (show k = 0 ∨ k = 1 ∨ k = 2 by omega) with rfl | rfl | rfl
      · exact ⟨B1, c1, n1, rfl, N1.out, R1.out⟩
      · exact ⟨B2, c2, n2, rfl, N2.out, R2.out⟩
      · exact ⟨B3, c3, n3, rfl, N3.out, R3.out⟩)
    rw [hZ]
    clear hZ hmk
    obtain ⟨gy, hgy⟩ : ∃ g, Y.heap.size = g := ⟨_, rfl⟩
    obtain ⟨gt, hgt⟩ : ∃ g, w4.heap.size = g := ⟨_, rfl⟩
    rw [hgy] at hgY BZ ⊢
    rw [hgt] at hgY TK TZ HROW ⊢
    have HGT := Lib.hid hgt
    clear hgy hgt
    go_loopw [12, 13, 50] (fun v12 v13 v50 wy => ∃ (k : Nat) (T : List Int), k ≤ 3 ∧ v50 = .int .i64 k ∧ Tk9 T (pre9 st0 k) ∧ Blk wy gt 3 (T.map (Value.int .i64)) ∧ Turn (fun q => q = gt) Z wy) (fun _ _ v50 _ => 3 - (intOf v50).toNat)
    case atStart => exact ⟨0, _, by omega, rfl, tk9_nil, TZ.out, Turn.refl _ _⟩
    case round =>
      obtain ⟨k, T, hk3, rfl, hTk, hBk, htk⟩ := hrel
      have TT := Lib.hid htk
      have TB := Lib.hid hBk
      have HT := Lib.hid hTk
      clear htk hBk hTk
      by_cases hlt : k < 3
      · have hl1 : (k : Int) < 3 := by omega
        have hl0 : (0 : Int) ≤ (k : Int) := by omega
        have hq := wrap_of ((k : Int) + 1) (by omega) (by omega)
        obtain ⟨B, c, n, hrow, hlen, hcells⟩ := HROW.out k hlt
        have HLEN := Lib.hid hlen
        have HC := Lib.hid hcells
        have cr : wr.cell? ⟨gy, k, none⟩ = some (.slice B n c) := by
          rw [(BZ.out.turn TT.out (by omega)).cell k]; exact hrow
        have hn8 : (n : Int) ≤ 8 := by have := pkTo_le (k + 1) st0 st0.length; have h2 : (pkTo (k + 1) st0 st0.length).length = n := hlen; have := HL8.out; omega
        clear hrow hlen hcells
        obtain ⟨wx, rfl⟩ : ∃ W, W = wr := ⟨_, rfl⟩
        go_wp2_with fail
        go_loopw [13] (fun v13 wy => ∃ (i : Nat) (T2 : List Int), i ≤ n ∧ v13 = .int .i64 i ∧ Tk9 T2 (pre9 st0 k ++ (pk9 (k + 1) st0).take i) ∧ Blk wy gt 3 (T2.map (Value.int .i64)) ∧ Turn (fun q => q = gt) Z wy) (fun v13 _ => n - (intOf v13).toNat)
        case atStart => exact ⟨0, T, Nat.zero_le _, rfl, by rw [List.take_zero, List.append_nil]; exact HT.out, TB.out, TT.out⟩
        case round =>
          obtain ⟨i, T2, hin, rfl, hTk, hBk, htk⟩ := hrel
          have TT2 := Lib.hid htk
          have TB2 := Lib.hid hBk
          have HT2 := Lib.hid hTk
          clear htk hBk hTk cr
          by_cases hli : i < n
          · have hi1 : (i : Int) < (n : Int) := by omega
            have hi0 : (0 : Int) ≤ (i : Int) := by omega
            have hqi := wrap_of ((i : Int) + 1) (by omega) (by omega)
            obtain ⟨zz, hz⟩ : ∃ z, (pk9 (k + 1) st0)[i]? = some z := ⟨_, List.getElem?_eq_getElem (by rw [HLEN.out]; exact hli)⟩
            obtain ⟨z, rfl, hzl, hzs⟩ := (pkTo_mem (k + 1) st0 st0.length zz).1 (List.mem_of_getElem? hz)
            obtain ⟨hz0, hTn⟩ := tk9_snoc HT2.out z (by have := HL8.out; omega) (pre9_new st0 k i _ hz)
            obtain ⟨b, rfl, hb1, hb2, hb3⟩ := HC.out i z hz
            have HCW := Lib.hid (fun (W : World) (hW : Turn (fun q => q = gt) Z W) => (World.cell?_of_block (w := Z) (a := ⟨b, i, none⟩) (hW.block b (by have := tZ.out.size; have := HGT.out; omega) (fun h => by omega))).trans ((World.cell?_of_block (w := w4) (a := ⟨b, i, none⟩) (tZ.out.block b (by have := HGT.out; omega) (fun h => h))).trans hb3))
            have hz8 : (z : Int) < 8 := by have := HL8.out; omega
            have hz9 : (0 : Int) ≤ (z : Int) := by omega
            have HZ := Lib.hid hz
            have HTN := Lib.hid hTn
            have HZ0 := Lib.hid hz0
            clear hz hTn hz0 hzs hb3
            have hzlt : ¬ (z : Int) < 0 := by omega
            have cg : wr.cell? ⟨gt, z, none⟩ = some (.int .i64 0) := tk9_cell TB2.out HT2.out (by omega) HZ0.out
            have cw := HCW.out wr TT2.out
            have hfz : wr.frozen? ⟨gt, z, none⟩ = false := TB2.out.free z
            have hREL : Hid (Tk9 (T2.set z 1) (pre9 st0 k ++ (pk9 (k + 1) st0).take (i + 1)) ∧ Blk (wr.setCell ⟨gt, z, none⟩ (.int .i64 1)).drew gt 3 ((T2.set z 1).map (Value.int .i64)) ∧ Turn (fun q => q = gt) Z (wr.setCell ⟨gt, z, none⟩ (.int .i64 1)).drew) := Lib.hid ⟨by rw [List.take_add_one, HZ.out, ← List.append_assoc]; exact HTN.out, by rw [List.map_set]; exact (TB2.out.put z (.int .i64 1)).drew, (TT2.out.setCell (.inl rfl) _).drew⟩
            rcases (show Hid (i = 0) ∨ ∃ i0, Hid (i = i0 + 1) by cases i; exact .inl (Lib.hid rfl); exact .inr ⟨_, Lib.hid rfl⟩) with h0 | ⟨i0, h0⟩
            · have HIG : Hid (decide ((0 : Int) < (i : Int)) = false) := Lib.hid (by have := h0.out; simp; omega)
              have HIG2 : Hid (decide (0 < i) = false) := Lib.hid (by have := h0.out; simp; omega)
              go_wp2_with fail
              refine wp_region_noPanic ?_
              refine wp_region_held_drew (S := fun X => X.cell? ⟨b, i, none⟩ = some (.int .i64 z)) (by kernel_rfl) (HCW.out _ TT2.out.drew) (fun hHeld => ?_)
              refine wpAnyH_take (i := 0) (v := ?_) rfl (by kernel_rfl) (by kernel_rfl) (by kernel_rfl) (fun _ _ _ h => h) (Or.inl ⟨by rfl, ?_⟩) (by assumption) ?_
              rotate_left 1
              · intro w' hSw
                go_simp
                all_goals first | with_reducible rfl | (rw [if_neg (by omega)]; done) | (rw [if_pos (by omega)]; done) | (rw [if_neg (by omega)]; with_reducible rfl) | (rw [if_pos (by omega)]; with_reducible rfl)
              try simp only [List.getElem_toArray, List.getElem_cons_zero, Act.put, List.setIfInBounds_toArray, List.set_cons_zero, List.set_cons_succ]
              refine wpAnyH_take (i := 1) (v := ?_) rfl (by kernel_rfl) (by kernel_rfl) (by kernel_rfl) (fun _ _ _ h => h) (Or.inl ⟨by rfl, ?_⟩) (by assumption) ?_
              rotate_left 1
              · intro w' hSw
                go_simp
                all_goals first | with_reducible rfl | (rw [if_neg (by omega)]; done) | (rw [if_pos (by omega)]; done) | (rw [if_neg (by omega)]; with_reducible rfl) | (rw [if_pos (by omega)]; with_reducible rfl)
              try simp only [List.getElem_toArray, List.getElem_cons_zero, List.getElem_cons_succ, Act.put, List.setIfInBounds_toArray, List.set_cons_zero, List.set_cons_succ]
              refine wpAnyH_take (i := 2) (v := ?_) rfl (by kernel_rfl) (by kernel_rfl) (by kernel_rfl) (fun _ _ _ h => h) (Or.inl ⟨by rfl, ?_⟩) (by assumption) ?_
              rotate_left 1
              · intro w' hSw
                go_simp
                all_goals first | with_reducible rfl | (rw [if_neg (by omega)]; done) | (rw [if_pos (by omega)]; done) | (rw [if_neg (by omega)]; with_reducible rfl) | (rw [if_pos (by omega)]; with_reducible rfl)
              try simp only [List.getElem_toArray, List.getElem_cons_zero, List.getElem_cons_succ, Act.put, List.setIfInBounds_toArray, List.set_cons_zero, List.set_cons_succ]
              refine wpAnyH_take (i := 3) (v := ?_) rfl (by kernel_rfl) (by kernel_rfl) (by kernel_rfl) (fun _ _ _ h => h) (Or.inl ⟨by rfl, ?_⟩) (by assumption) ?_
              rotate_left 1
              · intro w' hSw
                have hS1 := hSw
                go_simp
                all_goals first | with_reducible rfl | (rw [if_neg (by omega)]; done) | (rw [if_pos (by omega)]; done) | (rw [if_neg (by omega)]; with_reducible rfl) | (rw [if_pos (by omega)]; with_reducible rfl)
              try simp only [List.getElem_toArray, List.getElem_cons_zero, List.getElem_cons_succ, Act.put, List.setIfInBounds_toArray, List.set_cons_zero, List.set_cons_succ]
              refine wpAnyH_take (i := 4) (v := ?_) rfl (by kernel_rfl) (by kernel_rfl) (by kernel_rfl) (fun _ _ _ h => h) (Or.inl ⟨by rfl, ?_⟩) (by assumption) ?_
              rotate_left 1
              · intro w' hSw
                go_simp
                all_goals first | with_reducible rfl | (rw [if_neg (by omega)]; done) | (rw [if_pos (by omega)]; done) | (rw [if_neg (by omega)]; with_reducible rfl) | (rw [if_pos (by omega)]; with_reducible rfl)
              try simp only [List.getElem_toArray, List.getElem_cons_zero, List.getElem_cons_succ, Act.put, List.setIfInBounds_toArray, List.set_cons_zero, List.set_cons_succ]
              refine wpAnyH_take (i := 5) (v := ?_) rfl (by kernel_rfl) (by kernel_rfl) (by kernel_rfl) (fun _ _ _ h => h) (Or.inl ⟨by rfl, ?_⟩) (by assumption) ?_
              rotate_left 1
              · intro w' hSw
                go_simp
                all_goals first | with_reducible rfl | (rw [if_neg (by omega)]; done) | (rw [if_pos (by omega)]; done) | (rw [if_neg (by omega)]; with_reducible rfl) | (rw [if_pos (by omega)]; with_reducible rfl)
              try simp only [List.getElem_toArray, List.getElem_cons_zero, List.getElem_cons_succ, Act.put, List.setIfInBounds_toArray, List.set_cons_zero, List.set_cons_succ]
              refine wpAnyH_take (i := 6) (v := ?_) rfl (by kernel_rfl) (by kernel_rfl) (by kernel_rfl) (fun _ _ _ h => h) (Or.inl ⟨by rfl, ?_⟩) (by assumption) ?_
              rotate_left 1
              · intro w' hSw
                go_simp
                all_goals first | with_reducible rfl | (rw [if_neg (by omega)]; done) | (rw [if_pos (by omega)]; done) | (rw [if_neg (by omega)]; with_reducible rfl) | (rw [if_pos (by omega)]; with_reducible rfl)
              try simp only [List.getElem_toArray, List.getElem_cons_zero, List.getElem_cons_succ, Act.put, List.setIfInBounds_toArray, List.set_cons_zero, List.set_cons_succ]
              refine wpAnyH_take (i := 7) (v := ?_) rfl (by kernel_rfl) (by kernel_rfl) (by kernel_rfl) (fun _ _ _ h => h) (Or.inl ⟨by rfl, ?_⟩) (by assumption) ?_
              rotate_left 1
              · intro w' hSw
                go_simp
                all_goals first | with_reducible rfl | (rw [if_neg (by omega)]; done) | (rw [if_pos (by omega)]; done) | (rw [if_neg (by omega)]; with_reducible rfl) | (rw [if_pos (by omega)]; with_reducible rfl)
              try simp only [List.getElem_toArray, List.getElem_cons_zero, List.getElem_cons_succ, Act.put, List.setIfInBounds_toArray, List.set_cons_zero, List.set_cons_succ]
              refine wpAnyH_take (i := 8) (v := ?_) rfl (by kernel_rfl) (by kernel_rfl) (by kernel_rfl) (fun _ _ _ h => h) (Or.inl ⟨by rfl, ?_⟩) (by assumption) ?_
              rotate_left 1
              · intro w' hSw
                go_simp
                all_goals first | with_reducible rfl | (rw [if_neg (by omega)]; done) | (rw [if_pos (by omega)]; done) | (rw [if_neg (by omega)]; with_reducible rfl) | (rw [if_pos (by omega)]; with_reducible rfl)
              try simp only [List.getElem_toArray, List.getElem_cons_zero, List.getElem_cons_succ, Act.put, List.setIfInBounds_toArray, List.set_cons_zero, List.set_cons_succ]
              refine wpAnyH_take (i := 9) (v := ?_) rfl (by kernel_rfl) (by kernel_rfl) (by kernel_rfl) (fun _ _ _ h => h) (Or.inl ⟨by rfl, ?_⟩) (by assumption) ?_
              rotate_left 1
              · intro w' hSw
                have hS1 := hSw
                go_simp
                all_goals first | with_reducible rfl | (rw [if_neg (by omega)]; done) | (rw [if_pos (by omega)]; done) | (rw [if_neg (by omega)]; with_reducible rfl) | (rw [if_pos (by omega)]; with_reducible rfl)
              try simp only [List.getElem_toArray, List.getElem_cons_zero, List.getElem_cons_succ, Act.put, List.setIfInBounds_toArray, List.set_cons_zero, List.set_cons_succ]
              refine wpAnyH_take (i := 10) (v := ?_) rfl (by kernel_rfl) (by kernel_rfl) (by kernel_rfl) (fun _ _ _ h => h) (Or.inl ⟨by rfl, ?_⟩) (by assumption) ?_
              rotate_left 1
              · intro w' hSw
                have y1 : ¬ (7 : Int) < (z : Int) := by omega
                have y2 : decide ((7 : Int) < (z : Int)) = false := by simpa using y1
                go_simp
                all_goals first | with_reducible rfl | (rw [if_neg (by omega)]; done) | (rw [if_pos (by omega)]; done) | (rw [if_neg (by omega)]; with_reducible rfl) | (rw [if_pos (by omega)]; with_reducible rfl)
              try simp only [List.getElem_toArray, List.getElem_cons_zero, List.getElem_cons_succ, Act.put, List.setIfInBounds_toArray, List.set_cons_zero, List.set_cons_succ]
              refine wpAnyH_take (i := 11) (v := ?_) rfl (by kernel_rfl) (by kernel_rfl) (by kernel_rfl) (fun _ _ _ h => h) (Or.inl ⟨by rfl, ?_⟩) (by assumption) ?_
              rotate_left 1
              · intro w' hSw
                go_simp
                all_goals first | with_reducible rfl | (rw [if_neg (by omega)]; done) | (rw [if_pos (by omega)]; done) | (rw [if_neg (by omega)]; with_reducible rfl) | (rw [if_pos (by omega)]; with_reducible rfl)
              try simp only [List.getElem_toArray, List.getElem_cons_zero, List.getElem_cons_succ, Act.put, List.setIfInBounds_toArray, List.set_cons_zero, List.set_cons_succ]
              refine wpAnyH_take (i := 12) (v := ?_) rfl (by kernel_rfl) (by kernel_rfl) (by kernel_rfl) (fun _ _ _ h => h) (Or.inl ⟨by rfl, ?_⟩) (by assumption) ?_
              rotate_left 1
              · intro w' hSw
                go_simp
                all_goals first | with_reducible rfl | (rw [if_neg (by omega)]; done) | (rw [if_pos (by omega)]; done) | (rw [if_neg (by omega)]; with_reducible rfl) | (rw [if_pos (by omega)]; with_reducible rfl)
              try simp only [List.getElem_toArray, List.getElem_cons_zero, List.getElem_cons_succ, Act.put, List.setIfInBounds_toArray, List.set_cons_zero, List.set_cons_succ]
              refine wpAnyH_take (i := 13) (v := ?_) rfl (by kernel_rfl) (by kernel_rfl) (by kernel_rfl) (fun _ _ _ h => h) (Or.inl ⟨by rfl, ?_⟩) (by assumption) ?_
              rotate_left 1
              · intro w' hSw
                go_simp
                all_goals first | with_reducible rfl | (rw [if_neg (by omega)]; done) | (rw [if_pos (by omega)]; done) | (rw [if_neg (by omega)]; with_reducible rfl) | (rw [if_pos (by omega)]; with_reducible rfl)
              try simp only [List.getElem_toArray, List.getElem_cons_zero, List.getElem_cons_succ, Act.put, List.setIfInBounds_toArray, List.set_cons_zero, List.set_cons_succ]
              refine wpAnyH_take (i := 14) (v := ?_) rfl (by kernel_rfl) (by kernel_rfl) (by kernel_rfl) (fun _ _ _ h => h) (Or.inl ⟨by rfl, ?_⟩) (by assumption) ?_
              rotate_left 1
              · intro w' hSw
                go_simp
                all_goals first | (rw [HIG2.out]; done) | (rw [HIG.out]; done) | with_reducible rfl | (rw [if_neg (by omega)]; done) | (rw [if_pos (by omega)]; done) | (rw [if_neg (by omega)]; with_reducible rfl) | (rw [if_pos (by omega)]; with_reducible rfl)
              try simp only [List.getElem_toArray, List.getElem_cons_zero, List.getElem_cons_succ, Act.put, List.setIfInBounds_toArray, List.set_cons_zero, List.set_cons_succ]
              refine wpAnyH_take (i := 15) (v := ?_) rfl (by kernel_rfl) (by kernel_rfl) (by kernel_rfl) (fun _ _ _ h => h) (Or.inl ⟨by rfl, ?_⟩) (by assumption) ?_
              rotate_left 1
              · intro w' hSw
                go_simp
                all_goals first | with_reducible rfl | (rw [if_neg (by omega)]; done) | (rw [if_pos (by omega)]; done) | (rw [if_neg (by omega)]; with_reducible rfl) | (rw [if_pos (by omega)]; with_reducible rfl)
              try simp only [List.getElem_toArray, List.getElem_cons_zero, List.getElem_cons_succ, Act.put, List.setIfInBounds_toArray, List.set_cons_zero, List.set_cons_succ]
              refine wpAnyH_take (i := 16) (v := undef) rfl (by kernel_rfl) (by kernel_rfl) (by kernel_rfl) (fun _ _ _ h => h) (Or.inr ⟨by rfl, rfl⟩) (by assumption) ?_
              try simp only [List.getElem_toArray, List.getElem_cons_zero, List.getElem_cons_succ, Act.put, List.setIfInBounds_toArray, List.set_cons_zero, List.set_cons_succ]
              refine wpAnyH_take (i := 17) (v := undef) rfl (by kernel_rfl) (by kernel_rfl) (by kernel_rfl) (fun _ _ _ h => h) (Or.inr ⟨by rfl, rfl⟩) (by assumption) ?_
              try simp only [List.getElem_toArray, List.getElem_cons_zero, List.getElem_cons_succ, Act.put, List.setIfInBounds_toArray, List.set_cons_zero, List.set_cons_succ]
              refine wpAnyH_take (i := 18) (v := undef) rfl (by kernel_rfl) (by kernel_rfl) (by kernel_rfl) (fun _ _ _ h => h) (Or.inr ⟨by rfl, rfl⟩) (by assumption) ?_
              try simp only [List.getElem_toArray, List.getElem_cons_zero, List.getElem_cons_succ, Act.put, List.setIfInBounds_toArray, List.set_cons_zero, List.set_cons_succ]
              refine wpAnyH_take (i := 19) (v := undef) rfl (by kernel_rfl) (by kernel_rfl) (by kernel_rfl) (fun _ _ _ h => h) (Or.inr ⟨by rfl, rfl⟩) (by assumption) ?_
              try simp only [List.getElem_toArray, List.getElem_cons_zero, List.getElem_cons_succ, Act.put, List.setIfInBounds_toArray, List.set_cons_zero, List.set_cons_succ]
              refine wpAnyH_take (i := 20) (v := undef) rfl (by kernel_rfl) (by kernel_rfl) (by kernel_rfl) (fun _ _ _ h => h) (Or.inr ⟨by rfl, rfl⟩) (by assumption) ?_
              try simp only [List.getElem_toArray, List.getElem_cons_zero, List.getElem_cons_succ, Act.put, List.setIfInBounds_toArray, List.set_cons_zero, List.set_cons_succ]
              refine wpAnyH_take (i := 21) (v := undef) rfl (by kernel_rfl) (by kernel_rfl) (by kernel_rfl) (fun _ _ _ h => h) (Or.inr ⟨by rfl, rfl⟩) (by assumption) ?_
              try simp only [List.getElem_toArray, List.getElem_cons_zero, List.getElem_cons_succ, Act.put, List.setIfInBounds_toArray, List.set_cons_zero, List.set_cons_succ]
              refine wpAnyH_take (i := 22) (v := undef) rfl (by kernel_rfl) (by kernel_rfl) (by kernel_rfl) (fun _ _ _ h => h) (Or.inr ⟨by rfl, rfl⟩) (by assumption) ?_
              try simp only [List.getElem_toArray, List.getElem_cons_zero, List.getElem_cons_succ, Act.put, List.setIfInBounds_toArray, List.set_cons_zero, List.set_cons_succ]
              refine wpAnyH_take (i := 23) (v := undef) rfl (by kernel_rfl) (by kernel_rfl) (by kernel_rfl) (fun _ _ _ h => h) (Or.inr ⟨by rfl, rfl⟩) (by assumption) ?_
              try simp only [List.getElem_toArray, List.getElem_cons_zero, List.getElem_cons_succ, Act.put, List.setIfInBounds_toArray, List.set_cons_zero, List.set_cons_succ]
              refine wpAnyH_take (i := 24) (v := undef) rfl (by kernel_rfl) (by kernel_rfl) (by kernel_rfl) (fun _ _ _ h => h) (Or.inr ⟨by rfl, rfl⟩) (by assumption) ?_
              try simp only [List.getElem_toArray, List.getElem_cons_zero, List.getElem_cons_succ, Act.put, List.setIfInBounds_toArray, List.set_cons_zero, List.set_cons_succ]
              refine wpAnyH_take (i := 25) (v := undef) rfl (by kernel_rfl) (by kernel_rfl) (by kernel_rfl) (fun _ _ _ h => h) (Or.inr ⟨by rfl, rfl⟩) (by assumption) ?_
              try simp only [List.getElem_toArray, List.getElem_cons_zero, List.getElem_cons_succ, Act.put, List.setIfInBounds_toArray, List.set_cons_zero, List.set_cons_succ]
              refine wpAnyH_take (i := 26) (v := ?_) rfl (by kernel_rfl) (by kernel_rfl) (by kernel_rfl) (fun _ _ _ h => h) (Or.inl ⟨by rfl, ?_⟩) (by assumption) ?_
              rotate_left 1
              · intro w' hSw
                go_simp
                all_goals first | with_reducible rfl | (rw [if_neg (by omega)]; done) | (rw [if_pos (by omega)]; done) | (rw [if_neg (by omega)]; with_reducible rfl) | (rw [if_pos (by omega)]; with_reducible rfl)
              try simp only [List.getElem_toArray, List.getElem_cons_zero, List.getElem_cons_succ, Act.put, List.setIfInBounds_toArray, List.set_cons_zero, List.set_cons_succ]
              refine wpAnyH_take (i := 27) (v := ?_) rfl (by kernel_rfl) (by kernel_rfl) (by kernel_rfl) (fun _ _ _ h => h) (Or.inl ⟨by rfl, ?_⟩) (by assumption) ?_
              rotate_left 1
              · intro w' hSw
                go_simp
                all_goals first | with_reducible rfl | (rw [if_neg (by omega)]; done) | (rw [if_pos (by omega)]; done) | (rw [if_neg (by omega)]; with_reducible rfl) | (rw [if_pos (by omega)]; with_reducible rfl)
              try simp only [List.getElem_toArray, List.getElem_cons_zero, List.getElem_cons_succ, Act.put, List.setIfInBounds_toArray, List.set_cons_zero, List.set_cons_succ]
              refine wpAnyH_done (by kernel_rfl) ?_ _
              refine NoPanic.normal ?_
              go_wp2_with fail
              go_roundw
              case rel => exact ⟨i + 1, T2.set z 1, by omega, by simp [hqi], hREL.out.1, hREL.out.2.1, hREL.out.2.2⟩
              case measure => simp [intOf, hqi]; omega
            · have HIG : Hid (decide ((0 : Int) < (i : Int)) = true) := Lib.hid (by have := h0.out; simp; omega)
              have HIG2 : Hid (decide (0 < i) = true) := Lib.hid (by have := h0.out; simp; omega)
              obtain ⟨z0, hz1⟩ : ∃ z, (pk9 (k + 1) st0)[i0]? = some z := ⟨_, List.getElem?_eq_getElem (by rw [HLEN.out]; have := h0.out; omega)⟩
              have hzz : ¬ (z : Int) ≤ z0 := by have := pk9_lt (k + 1) st0 i0 z0 z hz1 (by rw [← h0.out]; exact HZ.out); omega
              obtain ⟨b', e1, hb1', hb2', hb3'⟩ := HC.out i0 z0 hz1
              injection e1 with e2
              injection e2 with e3
              subst e3
              have HCW0 := Lib.hid (fun (W : World) (hW : Turn (fun q => q = gt) Z W) => (World.cell?_of_block (w := Z) (a := ⟨b, i0, none⟩) (hW.block b (by have := tZ.out.size; have := HGT.out; omega) (fun h => by omega))).trans ((World.cell?_of_block (w := w4) (a := ⟨b, i0, none⟩) (tZ.out.block b (by have := HGT.out; omega) (fun h => h))).trans hb3'))
              have cw0 := HCW0.out wr TT2.out
              have hsub := (wrap_of ((i : Int) - 1) (by omega) (by omega)).trans (show (i : Int) - 1 = (i0 : Int) by have := h0.out; omega)
              have hi00 : (0 : Int) ≤ (i0 : Int) := by omega
              have hi01 : (i0 : Int) < (n : Int) := by have := h0.out; omega
              have HZZ : Hid (decide ((z : Int) ≤ z0) = false) := Lib.hid (by simp; omega)
              clear hz1 hb3' hzz
              go_wp2_with fail
              refine wp_region_noPanic ?_
              refine wp_region_held_drew (S := fun X => X.cell? ⟨b, i, none⟩ = some (.int .i64 z) ∧ X.cell? ⟨b, i0, none⟩ = some (.int .i64 z0)) (by kernel_rfl) ⟨HCW.out _ TT2.out.drew, HCW0.out _ TT2.out.drew⟩ (fun hHeld => ?_)
              refine wpAnyH_take (i := 0) (v := ?_) rfl (by kernel_rfl) (by kernel_rfl) (by kernel_rfl) (fun _ _ _ h => h) (Or.inl ⟨by rfl, ?_⟩) (by assumption) ?_
              rotate_left 1
              · intro w' hSw
                go_simp
                all_goals first | with_reducible rfl | (rw [if_neg (by omega)]; done) | (rw [if_pos (by omega)]; done) | (rw [if_neg (by omega)]; with_reducible rfl) | (rw [if_pos (by omega)]; with_reducible rfl)
              try simp only [List.getElem_toArray, List.getElem_cons_zero, Act.put, List.setIfInBounds_toArray, List.set_cons_zero, List.set_cons_succ]
              refine wpAnyH_take (i := 1) (v := ?_) rfl (by kernel_rfl) (by kernel_rfl) (by kernel_rfl) (fun _ _ _ h => h) (Or.inl ⟨by rfl, ?_⟩) (by assumption) ?_
              rotate_left 1
              · intro w' hSw
                go_simp
                all_goals first | with_reducible rfl | (rw [if_neg (by omega)]; done) | (rw [if_pos (by omega)]; done) | (rw [if_neg (by omega)]; with_reducible rfl) | (rw [if_pos (by omega)]; with_reducible rfl)
              try simp only [List.getElem_toArray, List.getElem_cons_zero, List.getElem_cons_succ, Act.put, List.setIfInBounds_toArray, List.set_cons_zero, List.set_cons_succ]
              refine wpAnyH_take (i := 2) (v := ?_) rfl (by kernel_rfl) (by kernel_rfl) (by kernel_rfl) (fun _ _ _ h => h) (Or.inl ⟨by rfl, ?_⟩) (by assumption) ?_
              rotate_left 1
              · intro w' hSw
                go_simp
                all_goals first | with_reducible rfl | (rw [if_neg (by omega)]; done) | (rw [if_pos (by omega)]; done) | (rw [if_neg (by omega)]; with_reducible rfl) | (rw [if_pos (by omega)]; with_reducible rfl)
              try simp only [List.getElem_toArray, List.getElem_cons_zero, List.getElem_cons_succ, Act.put, List.setIfInBounds_toArray, List.set_cons_zero, List.set_cons_succ]
              refine wpAnyH_take (i := 3) (v := ?_) rfl (by kernel_rfl) (by kernel_rfl) (by kernel_rfl) (fun _ _ _ h => h) (Or.inl ⟨by rfl, ?_⟩) (by assumption) ?_
              rotate_left 1
              · intro w' hSw
                obtain ⟨hS1, hS2⟩ := hSw
                go_simp
                all_goals first | with_reducible rfl | (rw [if_neg (by omega)]; done) | (rw [if_pos (by omega)]; done) | (rw [if_neg (by omega)]; with_reducible rfl) | (rw [if_pos (by omega)]; with_reducible rfl)
              try simp only [List.getElem_toArray, List.getElem_cons_zero, List.getElem_cons_succ, Act.put, List.setIfInBounds_toArray, List.set_cons_zero, List.set_cons_succ]
              refine wpAnyH_take (i := 4) (v := ?_) rfl (by kernel_rfl) (by kernel_rfl) (by kernel_rfl) (fun _ _ _ h => h) (Or.inl ⟨by rfl, ?_⟩) (by assumption) ?_
              rotate_left 1
              · intro w' hSw
                go_simp
                all_goals first | with_reducible rfl | (rw [if_neg (by omega)]; done) | (rw [if_pos (by omega)]; done) | (rw [if_neg (by omega)]; with_reducible rfl) | (rw [if_pos (by omega)]; with_reducible rfl)
              try simp only [List.getElem_toArray, List.getElem_cons_zero, List.getElem_cons_succ, Act.put, List.setIfInBounds_toArray, List.set_cons_zero, List.set_cons_succ]
              refine wpAnyH_take (i := 5) (v := ?_) rfl (by kernel_rfl) (by kernel_rfl) (by kernel_rfl) (fun _ _ _ h => h) (Or.inl ⟨by rfl, ?_⟩) (by assumption) ?_
              rotate_left 1
              · intro w' hSw
                go_simp
                all_goals first | with_reducible rfl | (rw [if_neg (by omega)]; done) | (rw [if_pos (by omega)]; done) | (rw [if_neg (by omega)]; with_reducible rfl) | (rw [if_pos (by omega)]; with_reducible rfl)
              try simp only [List.getElem_toArray, List.getElem_cons_zero, List.getElem_cons_succ, Act.put, List.setIfInBounds_toArray, List.set_cons_zero, List.set_cons_succ]
              refine wpAnyH_take (i := 6) (v := ?_) rfl (by kernel_rfl) (by kernel_rfl) (by kernel_rfl) (fun _ _ _ h => h) (Or.inl ⟨by rfl, ?_⟩) (by assumption) ?_
              rotate_left 1
              · intro w' hSw
                go_simp
                all_goals first | with_reducible rfl | (rw [if_neg (by omega)]; done) | (rw [if_pos (by omega)]; done) | (rw [if_neg (by omega)]; with_reducible rfl) | (rw [if_pos (by omega)]; with_reducible rfl)
              try simp only [List.getElem_toArray, List.getElem_cons_zero, List.getElem_cons_succ, Act.put, List.setIfInBounds_toArray, List.set_cons_zero, List.set_cons_succ]
              refine wpAnyH_take (i := 7) (v := ?_) rfl (by kernel_rfl) (by kernel_rfl) (by kernel_rfl) (fun _ _ _ h => h) (Or.inl ⟨by rfl, ?_⟩) (by assumption) ?_
              rotate_left 1
              · intro w' hSw
                go_simp
                all_goals first | with_reducible rfl | (rw [if_neg (by omega)]; done) | (rw [if_pos (by omega)]; done) | (rw [if_neg (by omega)]; with_reducible rfl) | (rw [if_pos (by omega)]; with_reducible rfl)
              try simp only [List.getElem_toArray, List.getElem_cons_zero, List.getElem_cons_succ, Act.put, List.setIfInBounds_toArray, List.set_cons_zero, List.set_cons_succ]
              refine wpAnyH_take (i := 8) (v := ?_) rfl (by kernel_rfl) (by kernel_rfl) (by kernel_rfl) (fun _ _ _ h => h) (Or.inl ⟨by rfl, ?_⟩) (by assumption) ?_
              rotate_left 1
              · intro w' hSw
                go_simp
                all_goals first | with_reducible rfl | (rw [if_neg (by omega)]; done) | (rw [if_pos (by omega)]; done) | (rw [if_neg (by omega)]; with_reducible rfl) | (rw [if_pos (by omega)]; with_reducible rfl)
              try simp only [List.getElem_toArray, List.getElem_cons_zero, List.getElem_cons_succ, Act.put, List.setIfInBounds_toArray, List.set_cons_zero, List.set_cons_succ]
              refine wpAnyH_take (i := 9) (v := ?_) rfl (by kernel_rfl) (by kernel_rfl) (by kernel_rfl) (fun _ _ _ h => h) (Or.inl ⟨by rfl, ?_⟩) (by assumption) ?_
              rotate_left 1
              · intro w' hSw
                obtain ⟨hS1, hS2⟩ := hSw
                go_simp
                all_goals first | with_reducible rfl | (rw [if_neg (by omega)]; done) | (rw [if_pos (by omega)]; done) | (rw [if_neg (by omega)]; with_reducible rfl) | (rw [if_pos (by omega)]; with_reducible rfl)
              try simp only [List.getElem_toArray, List.getElem_cons_zero, List.getElem_cons_succ, Act.put, List.setIfInBounds_toArray, List.set_cons_zero, List.set_cons_succ]
              refine wpAnyH_take (i := 10) (v := ?_) rfl (by kernel_rfl) (by kernel_rfl) (by kernel_rfl) (fun _ _ _ h => h) (Or.inl ⟨by rfl, ?_⟩) (by assumption) ?_
              rotate_left 1
              · intro w' hSw
                have y1 : ¬ (7 : Int) < (z : Int) := by omega
                have y2 : decide ((7 : Int) < (z : Int)) = false := by simpa using y1
                go_simp
                all_goals first | with_reducible rfl | (rw [if_neg (by omega)]; done) | (rw [if_pos (by omega)]; done) | (rw [if_neg (by omega)]; with_reducible rfl) | (rw [if_pos (by omega)]; with_reducible rfl)
              try simp only [List.getElem_toArray, List.getElem_cons_zero, List.getElem_cons_succ, Act.put, List.setIfInBounds_toArray, List.set_cons_zero, List.set_cons_succ]
              refine wpAnyH_take (i := 11) (v := ?_) rfl (by kernel_rfl) (by kernel_rfl) (by kernel_rfl) (fun _ _ _ h => h) (Or.inl ⟨by rfl, ?_⟩) (by assumption) ?_
              rotate_left 1
              · intro w' hSw
                go_simp
                all_goals first | with_reducible rfl | (rw [if_neg (by omega)]; done) | (rw [if_pos (by omega)]; done) | (rw [if_neg (by omega)]; with_reducible rfl) | (rw [if_pos (by omega)]; with_reducible rfl)
              try simp only [List.getElem_toArray, List.getElem_cons_zero, List.getElem_cons_succ, Act.put, List.setIfInBounds_toArray, List.set_cons_zero, List.set_cons_succ]
              refine wpAnyH_take (i := 12) (v := ?_) rfl (by kernel_rfl) (by kernel_rfl) (by kernel_rfl) (fun _ _ _ h => h) (Or.inl ⟨by rfl, ?_⟩) (by assumption) ?_
              rotate_left 1
              · intro w' hSw
                go_simp
                all_goals first | with_reducible rfl | (rw [if_neg (by omega)]; done) | (rw [if_pos (by omega)]; done) | (rw [if_neg (by omega)]; with_reducible rfl) | (rw [if_pos (by omega)]; with_reducible rfl)
              try simp only [List.getElem_toArray, List.getElem_cons_zero, List.getElem_cons_succ, Act.put, List.setIfInBounds_toArray, List.set_cons_zero, List.set_cons_succ]
              refine wpAnyH_take (i := 13) (v := ?_) rfl (by kernel_rfl) (by kernel_rfl) (by kernel_rfl) (fun _ _ _ h => h) (Or.inl ⟨by rfl, ?_⟩) (by assumption) ?_
              rotate_left 1
              · intro w' hSw
                go_simp
                all_goals first | with_reducible rfl | (rw [if_neg (by omega)]; done) | (rw [if_pos (by omega)]; done) | (rw [if_neg (by omega)]; with_reducible rfl) | (rw [if_pos (by omega)]; with_reducible rfl)
              try simp only [List.getElem_toArray, List.getElem_cons_zero, List.getElem_cons_succ, Act.put, List.setIfInBounds_toArray, List.set_cons_zero, List.set_cons_succ]
              refine wpAnyH_take (i := 14) (v := ?_) rfl (by kernel_rfl) (by kernel_rfl) (by kernel_rfl) (fun _ _ _ h => h) (Or.inl ⟨by rfl, ?_⟩) (by assumption) ?_
              rotate_left 1
              · intro w' hSw
                go_simp
                all_goals first | (rw [HIG2.out]; done) | (rw [HIG.out]; done) | with_reducible rfl | (rw [if_neg (by omega)]; done) | (rw [if_pos (by omega)]; done) | (rw [if_neg (by omega)]; with_reducible rfl) | (rw [if_pos (by omega)]; with_reducible rfl)
              try simp only [List.getElem_toArray, List.getElem_cons_zero, List.getElem_cons_succ, Act.put, List.setIfInBounds_toArray, List.set_cons_zero, List.set_cons_succ]
              refine wpAnyH_take (i := 15) (v := ?_) rfl (by kernel_rfl) (by kernel_rfl) (by kernel_rfl) (fun _ _ _ h => h) (Or.inl ⟨by rfl, ?_⟩) (by assumption) ?_
              rotate_left 1
              · intro w' hSw
                go_simp
                all_goals first | with_reducible rfl | (rw [if_neg (by omega)]; done) | (rw [if_pos (by omega)]; done) | (rw [if_neg (by omega)]; with_reducible rfl) | (rw [if_pos (by omega)]; with_reducible rfl)
              try simp only [List.getElem_toArray, List.getElem_cons_zero, List.getElem_cons_succ, Act.put, List.setIfInBounds_toArray, List.set_cons_zero, List.set_cons_succ]
              refine wpAnyH_take (i := 16) (v := ?_) rfl (by kernel_rfl) (by kernel_rfl) (by kernel_rfl) (fun _ _ _ h => h) (Or.inl ⟨by rfl, ?_⟩) (by assumption) ?_
              rotate_left 1
              · intro w' hSw
                go_simp
                all_goals first | with_reducible rfl | (rw [if_neg (by omega)]; done) | (rw [if_pos (by omega)]; done) | (rw [if_neg (by omega)]; with_reducible rfl) | (rw [if_pos (by omega)]; with_reducible rfl)
              try simp only [List.getElem_toArray, List.getElem_cons_zero, List.getElem_cons_succ, Act.put, List.setIfInBounds_toArray, List.set_cons_zero, List.set_cons_succ]
              refine wpAnyH_take (i := 17) (v := ?_) rfl (by kernel_rfl) (by kernel_rfl) (by kernel_rfl) (fun _ _ _ h => h) (Or.inl ⟨by rfl, ?_⟩) (by assumption) ?_
              rotate_left 1
              · intro w' hSw
                go_simp
                all_goals first | with_reducible rfl | (rw [if_neg (by omega)]; done) | (rw [if_pos (by omega)]; done) | (rw [if_neg (by omega)]; with_reducible rfl) | (rw [if_pos (by omega)]; with_reducible rfl)
              try simp only [List.getElem_toArray, List.getElem_cons_zero, List.getElem_cons_succ, Act.put, List.setIfInBounds_toArray, List.set_cons_zero, List.set_cons_succ]
              refine wpAnyH_take (i := 18) (v := ?_) rfl (by kernel_rfl) (by kernel_rfl) (by kernel_rfl) (fun _ _ _ h => h) (Or.inl ⟨by rfl, ?_⟩) (by assumption) ?_
              rotate_left 1
              · intro w' hSw
                go_simp
                all_goals first | with_reducible rfl | (rw [if_neg (by omega)]; done) | (rw [if_pos (by omega)]; done) | (rw [if_neg (by omega)]; with_reducible rfl) | (rw [if_pos (by omega)]; with_reducible rfl)
              try simp only [List.getElem_toArray, List.getElem_cons_zero, List.getElem_cons_succ, Act.put, List.setIfInBounds_toArray, List.set_cons_zero, List.set_cons_succ]
              refine wpAnyH_take (i := 19) (v := ?_) rfl (by kernel_rfl) (by kernel_rfl) (by kernel_rfl) (fun _ _ _ h => h) (Or.inl ⟨by rfl, ?_⟩) (by assumption) ?_
              rotate_left 1
              · intro w' hSw
                obtain ⟨hS1, hS2⟩ := hSw
                go_simp
                all_goals first | with_reducible rfl | (rw [if_neg (by omega)]; done) | (rw [if_pos (by omega)]; done) | (rw [if_neg (by omega)]; with_reducible rfl) | (rw [if_pos (by omega)]; with_reducible rfl)
              try simp only [List.getElem_toArray, List.getElem_cons_zero, List.getElem_cons_succ, Act.put, List.setIfInBounds_toArray, List.set_cons_zero, List.set_cons_succ]
              refine wpAnyH_take (i := 20) (v := ?_) rfl (by kernel_rfl) (by kernel_rfl) (by kernel_rfl) (fun _ _ _ h => h) (Or.inl ⟨by rfl, ?_⟩) (by assumption) ?_
              rotate_left 1
              · intro w' hSw
                go_simp
                all_goals first | with_reducible rfl | (rw [if_neg (by omega)]; done) | (rw [if_pos (by omega)]; done) | (rw [if_neg (by omega)]; with_reducible rfl) | (rw [if_pos (by omega)]; with_reducible rfl)
              try simp only [List.getElem_toArray, List.getElem_cons_zero, List.getElem_cons_succ, Act.put, List.setIfInBounds_toArray, List.set_cons_zero, List.set_cons_succ]
              refine wpAnyH_take (i := 21) (v := ?_) rfl (by kernel_rfl) (by kernel_rfl) (by kernel_rfl) (fun _ _ _ h => h) (Or.inl ⟨by rfl, ?_⟩) (by assumption) ?_
              rotate_left 1
              · intro w' hSw
                go_simp
                all_goals first | with_reducible rfl | (rw [if_neg (by omega)]; done) | (rw [if_pos (by omega)]; done) | (rw [if_neg (by omega)]; with_reducible rfl) | (rw [if_pos (by omega)]; with_reducible rfl)
              try simp only [List.getElem_toArray, List.getElem_cons_zero, List.getElem_cons_succ, Act.put, List.setIfInBounds_toArray, List.set_cons_zero, List.set_cons_succ]
              refine wpAnyH_take (i := 22) (v := ?_) rfl (by kernel_rfl) (by kernel_rfl) (by kernel_rfl) (fun _ _ _ h => h) (Or.inl ⟨by rfl, ?_⟩) (by assumption) ?_
              rotate_left 1
              · intro w' hSw
                go_simp
                all_goals first | with_reducible rfl | (rw [if_neg (by omega)]; done) | (rw [if_pos (by omega)]; done) | (rw [if_neg (by omega)]; with_reducible rfl) | (rw [if_pos (by omega)]; with_reducible rfl)
              try simp only [List.getElem_toArray, List.getElem_cons_zero, List.getElem_cons_succ, Act.put, List.setIfInBounds_toArray, List.set_cons_zero, List.set_cons_succ]
              refine wpAnyH_take (i := 23) (v := ?_) rfl (by kernel_rfl) (by kernel_rfl) (by kernel_rfl) (fun _ _ _ h => h) (Or.inl ⟨by rfl, ?_⟩) (by assumption) ?_
              rotate_left 1
              · intro w' hSw
                go_simp
                all_goals first | with_reducible rfl | (rw [if_neg (by omega)]; done) | (rw [if_pos (by omega)]; done) | (rw [if_neg (by omega)]; with_reducible rfl) | (rw [if_pos (by omega)]; with_reducible rfl)
              try simp only [List.getElem_toArray, List.getElem_cons_zero, List.getElem_cons_succ, Act.put, List.setIfInBounds_toArray, List.set_cons_zero, List.set_cons_succ]
              refine wpAnyH_take (i := 24) (v := ?_) rfl (by kernel_rfl) (by kernel_rfl) (by kernel_rfl) (fun _ _ _ h => h) (Or.inl ⟨by rfl, ?_⟩) (by assumption) ?_
              rotate_left 1
              · intro w' hSw
                obtain ⟨hS1, hS2⟩ := hSw
                go_simp
                all_goals first | with_reducible rfl | (rw [if_neg (by omega)]; done) | (rw [if_pos (by omega)]; done) | (rw [if_neg (by omega)]; with_reducible rfl) | (rw [if_pos (by omega)]; with_reducible rfl)
              try simp only [List.getElem_toArray, List.getElem_cons_zero, List.getElem_cons_succ, Act.put, List.setIfInBounds_toArray, List.set_cons_zero, List.set_cons_succ]
              refine wpAnyH_take (i := 25) (v := ?_) rfl (by kernel_rfl) (by kernel_rfl) (by kernel_rfl) (fun _ _ _ h => h) (Or.inl ⟨by rfl, ?_⟩) (by assumption) ?_
              rotate_left 1
              · intro w' hSw
                go_simp
                all_goals first | (rw [HZZ.out]; done) | with_reducible rfl | (rw [if_neg (by omega)]; done) | (rw [if_pos (by omega)]; done) | (rw [if_neg (by omega)]; with_reducible rfl) | (rw [if_pos (by omega)]; with_reducible rfl)
              try simp only [List.getElem_toArray, List.getElem_cons_zero, List.getElem_cons_succ, Act.put, List.setIfInBounds_toArray, List.set_cons_zero, List.set_cons_succ]
              refine wpAnyH_take (i := 26) (v := ?_) rfl (by kernel_rfl) (by kernel_rfl) (by kernel_rfl) (fun _ _ _ h => h) (Or.inl ⟨by rfl, ?_⟩) (by assumption) ?_
              rotate_left 1
              · intro w' hSw
                go_simp
                all_goals first | with_reducible rfl | (rw [if_neg (by omega)]; done) | (rw [if_pos (by omega)]; done) | (rw [if_neg (by omega)]; with_reducible rfl) | (rw [if_pos (by omega)]; with_reducible rfl)
              try simp only [List.getElem_toArray, List.getElem_cons_zero, List.getElem_cons_succ, Act.put, List.setIfInBounds_toArray, List.set_cons_zero, List.set_cons_succ]
              refine wpAnyH_take (i := 27) (v := ?_) rfl (by kernel_rfl) (by kernel_rfl) (by kernel_rfl) (fun _ _ _ h => h) (Or.inl ⟨by rfl, ?_⟩) (by assumption) ?_
              rotate_left 1
              · intro w' hSw
                go_simp
                all_goals first | with_reducible rfl | (rw [if_neg (by omega)]; done) | (rw [if_pos (by omega)]; done) | (rw [if_neg (by omega)]; with_reducible rfl) | (rw [if_pos (by omega)]; with_reducible rfl)
              try simp only [List.getElem_toArray, List.getElem_cons_zero, List.getElem_cons_succ, Act.put, List.setIfInBounds_toArray, List.set_cons_zero, List.set_cons_succ]
              refine wpAnyH_done (by kernel_rfl) ?_ _
              refine NoPanic.normal ?_
              go_wp2_with fail
              go_roundw
              case rel => exact ⟨i + 1, T2.set z 1, by omega, by simp [hqi], hREL.out.1, hREL.out.2.1, hREL.out.2.2⟩
              case measure => simp [intOf, hqi]; omega
          · obtain rfl : i = n := by omega
            go_wp2_with fail
            go_roundw
            case rel => exact ⟨k + 1, T2, by omega, by simp [hq], by have := HT2.out; rw [← HLEN.out, List.take_length] at this; exact this, TB2.out, TT2.out⟩
            case measure => simp [intOf, hq]; omega
      · obtain rfl : k = 3 := by omega
        have HT3 : Hid (Tk9 T (all9 st0)) := Lib.hid (by rw [← pre9_three]; exact HT.out)
        have HTV : Hid (∀ j, j < 8 → T.getD j 0 = if st0.getD j 0 = 0 then 0 else 1) := Lib.hid (fun j hj => by
          rw [HT3.out.2 j hj]
          have := all9_mem st0 (fun j => HIN.out j) j (by rw [HL8.out]; exact hj)
          by_cases h : st0.getD j 0 = 0
          · rw [if_pos h, if_neg (fun h2 => this.1 h2 h)]
          · rw [if_neg h, if_pos (this.2 h)])
        obtain ⟨wx, rfl⟩ : ∃ W, W = wr := ⟨_, rfl⟩
        go_wp2_with fail
        go_loopw [14, 15, 16] (fun v14 v15 v16 wy => ∃ m : Nat, m ≤ 8 ∧ v16 = .int .i64 ((m : Int) - 1) ∧ v14 = .int .i64 (from9 st0 (8 - m) m).1 ∧ v15 = .int .i64 ((from9 st0 (8 - m) m).2 : Nat) ∧ Turn (fun _ => False) wx wy) (fun _ _ v16 _ => (intOf v16 + 1).toNat)
        case atStart => exact ⟨8, by omega, by simp, rfl, rfl, Turn.refl _ _⟩
        case round =>
          obtain ⟨m, hm, rfl, rfl, rfl, ht⟩ := hrel
          have T5 := Lib.hid ht
          clear ht
          have HM := Lib.hid hm
          cases m with
          | zero =>
            have HF : Hid ((from9 st0 8 0).2 = free7 (bits9 st0)) := Lib.hid (by have := from9_free st0; rw [HL8.out] at this; exact this)
            have HE : Hid ((from9 st0 8 0).1 = match fst9 st0 with | some i => (i : Int) | none => -1) := Lib.hid (by have := from9_all st0; rw [HL8.out] at this; exact this)
            have M5 := Lib.hid (M4.out.still ((tZ.out.trans_new TT.out (fun k hk h => by have := HGT.out; omega)).trans T5.out))
            have HSB : Hid (Sl wr wr.heap.size v2 bs) := Lib.hid ((HSL.out.turn M5.out.tn (Nat.le_refl _) (fun _ _ h => h)).more M5.out.tn.size)
            simp only [Nat.sub_zero]
            rw [HF.out]
            obtain ⟨LE, hLE⟩ : ∃ x, (from9 st0 8 0).1 = x := ⟨_, rfl⟩
            rw [hLE] at HE ⊢
            obtain ⟨FR, hFR⟩ : ∃ x, free7 (bits9 st0) = x := ⟨_, rfl⟩
            have HFR := Lib.hid hFR
            rw [hFR]
            have HFQ := Lib.hid (free9_q M5.out.q)
            rw [hFR] at HFQ
            clear hLE hFR HF
            go_wp2_with fail
            refine HFQ.out.mono ?_
            rintro e w6 ⟨rfl, rfl⟩
            obtain ⟨A2, c2, rfl, hs2⟩ : ∃ A c, v2 = .slice A bs.length c ∧ True := by obtain ⟨A, c, e, _⟩ := HSB.out; exact ⟨A, c, e, trivial⟩
            clear hs2
            obtain ⟨nb, hnb⟩ : ∃ n, bs.length = n := ⟨_, rfl⟩
            have NB := Lib.hid hnb
            rw [hnb] at HSB HSL ⊢
            clear hnb
            obtain ⟨i8, hi8, hz8, hs8, hb8⟩ := info_parts Tryd.info5
            have HI8 := Lib.hid hi8
            have HZ8 := Lib.hid hz8
            have HS8 := Lib.hid hs8
            have HB8 := Lib.hid hb8
            clear hi8 hz8 hs8 hb8
            go_wp2_with (at_builtin; refine wpList_app_bytes _ rfl _ _ 47 rfl w6.heap.size w6.heap.size 5 i8 Tryd.underlying47 HI8.out HZ8.out HS8.out HB8.out (.slice (some ⟨w6.heap.size, 0, none⟩) 0 0) (.slice A2 nb c2) [] bs rfl rfl own_new (HSB.out.turn ((Turn.refl (fun _ => False) w6).alloc (.cells #[] 5)) (Nat.le_refl _) (fun _ _ h => h)) (by have := HBS.out; simp; omega) (by simp) ?_; intro vA XA ho ht; have HOA := Lib.hid ho; have TA := Lib.hid ((((Turn.refl (fun _ => False) w6).alloc (.cells #[] 5))).trans_new (grown_turn9 (B := w6.heap.size) ht (fun k h => by have h9 : some w6.heap.size = some k := h; injection h9 with h9; omega)) (fun k hk h => by omega)); clear ho ht)
            obtain ⟨AA, cA, hvA, hBA⟩ := ba_own9 (S := S1) (show XA.ownsRow w6.heap.size 5 1 vA bs.length (bv bs) from HOA.out) M5.out.q.lt
            rw [NB.out] at hvA
            subst hvA
            have BA := Lib.hid hBA
            have M6 := Lib.hid (M5.out.still TA.out)
            have HFRE : Hid (∀ X S D, Mk9 w S X p pd 3 st0 D → Calls Tryd.prog 33 #[.pointer (some ⟨p, 0, none⟩)] X fun r w' => r = .returned (.int .i64 (FR : Nat)) ∧ w' = X) := Lib.hid (fun X S D h => by have := free9_q h.q; rw [HFR.out] at this; exact this)
            clear hBA HOA HSB M4 M5 TA T5 TK TZ tY tZ BZ HROW TT TB HT HT3 HTV HM
            rcases Nat.lt_or_ge 1024 bs.length with hbig | hsm
            · have HW := Lib.hid (write9_big M6.out HGD.out HPD.out BA.out nb NB.out hbig)
              have hl1 : (1024 : Int) < (nb : Int) := by have := NB.out; omega
              clear hbig
              refine HW.out.mono ?_
              rintro e w7 ⟨rfl, S7, hM7⟩
              have M7 := Lib.hid hM7
              clear hM7
              go_wp2_with fail
              refine (HFRE.out _ _ _ M7.out).mono ?_
              rintro e w8 ⟨rfl, rfl⟩
              go_wp2_with fail
              refine (HL.out _ M7.out.tn).mono ?_
              rintro e w9 ⟨rfl, ht⟩
              have T9 := Lib.hid (M7.out.tn.trans ht)
              clear ht
              go_wp2_with fail
              go_ret
              exact ⟨rfl, T9.out.below (Nat.le_refl _) (fun k hk => hk.elim)⟩
            · have hl1 : ¬ (1024 : Int) < (nb : Int) := by have := NB.out; omega
              cases hfs : fst9 st0 with
              | none =>
                have hd1 : decide ((1024 : Int) < (nb : Int)) = false := by simpa using hl1
                have hle1 : LE = -1 := by have := HE.out; rw [hfs] at this; exact this
                clear HE
                subst hle1
                have HW := Lib.hid (write9_none M6.out HGD.out HPD.out BA.out nb NB.out (by omega) hfs)
                clear hfs hsm
                refine HW.out.mono ?_
                rintro e w7 ⟨rfl, S7, hM7⟩
                have M7 := Lib.hid hM7
                clear hM7
                go_wp2_with fail
                refine (HFRE.out _ _ _ M7.out).mono ?_
                rintro e w8 ⟨rfl, rfl⟩
                go_wp2_with fail
                refine (HL.out _ M7.out.tn).mono ?_
                rintro e w9 ⟨rfl, ht⟩
                have T9 := Lib.hid (M7.out.tn.trans ht)
                clear ht
                go_wp2_with fail
                go_ret
                exact ⟨rfl, T9.out.below (Nat.le_refl _) (fun k hk => hk.elim)⟩
              | some i =>
                have hle1 : LE = (i : Int) := by have := HE.out; rw [hfs] at this; exact this
                clear HE
                subst hle1
                have HW := Lib.hid (write9_some M6.out HGD.out HPD.out BA.out nb NB.out (by omega) hfs)
                have HRD := Lib.hid (fun S X (h : Mk9 w S X p pd 3 (st0.set i 2) (putk 8 D0 ((3 + 8 * i : Nat) : Int) bs).1) => read9_m hfs HGD.out h hsm)
                obtain ⟨f1, hf1⟩ : ∃ f, free7 (bits9 (st0.set i 2)) = f := ⟨_, rfl⟩
                have hfr1 : f1 + 1 = FR := by have := free_fst9 hfs; rw [hf1, HFR.out] at this; exact this
                have hfr8 : FR ≤ 8 := by have := free_le (bits9 st0); rw [HFR.out, len_bits9, HL8.out] at this; exact this
                have hi8 := (fst9_some hfs).1
                have hin : i < 8 := by have := HL8.out; omega
                have hsub := (wrap_of ((FR : Int) - 1) (by omega) (by omega)).trans (show (FR : Int) - 1 = (f1 : Int) by omega)
                have hi0 : ¬ (i : Int) < 0 := by omega
                have HF1 := Lib.hid (fun S X (h : Mk9 w S X p pd 3 (st0.set i 2) (putk 8 D0 ((3 + 8 * i : Nat) : Int) bs).1) => (show Calls Tryd.prog 33 #[.pointer (some ⟨p, 0, none⟩)] X fun r w' => ∃ v, r = .returned v ∧ (v = .int .i64 (f1 : Nat) ∧ w' = X) from (by have := free9_q h.q; rw [hf1] at this; exact this.mono fun e w' ⟨h1, h2⟩ => ⟨_, h1, rfl, h2⟩)))
                have HNB2 : Hid (bs.length ≤ 1024) := Lib.hid hsm
                clear hfs hsm hf1 hfr1 hi8
                generalize (putk 8 D0 ((3 + 8 * i : Nat) : Int) bs).1 = D7 at *
                generalize st0.set i 2 = st7 at *
                refine HW.out.mono ?_
                rintro e w7 ⟨rfl, S7, hM7⟩
                have M7 := Lib.hid hM7
                have HSY : Hid (Sl w7 w7.heap.size (.slice A2 nb c2) bs) := Lib.hid ((HSL.out.turn hM7.tn (Nat.le_refl _) (fun _ _ h => h)).more hM7.tn.size)
                clear hM7
                go_wp2_with fail
                refine (HRD.out _ _ M7.out).mono ?_
                rintro e w8 ⟨AR, cR, rfl, hSl, hM8⟩
                have M8 := Lib.hid hM8
                have HSR := Lib.hid hSl
                clear hSl hM8
                go_wp2_with fail
                -- r31
                obtain ⟨mz, hmz⟩ : ∃ m, 1024 - bs.length = m := ⟨_, rfl⟩
                have hnb := NB.out
                have hb2 := HNB2.out
                have hsm := (wrap_of ((1024 : Int) - (nb : Int)) (by omega) (by omega)).trans (show (1024 : Int) - (nb : Int) = (mz : Int) by omega)
                have hmz0 : mz ≤ 1024 := by omega
                rw [hmz] at HSR
                obtain ⟨SB, hSB⟩ : ∃ x : ByteArray, (⟨bs.toArray⟩ : ByteArray) = x := ⟨_, rfl⟩
                obtain ⟨SZ, hSZ⟩ : ∃ x : ByteArray, (⟨(List.replicate mz (0 : UInt8)).toArray⟩ : ByteArray) = x := ⟨_, rfl⟩
                have hzB : SB.size = nb := by rw [← hSB]; show bs.toArray.size = nb; simp [hnb]
                have hzZ : SZ.size = mz := by rw [← hSZ]; show (List.replicate mz (0 : UInt8)).toArray.size = mz; simp
                have hcat : (⟨(bs ++ List.replicate mz (0 : UInt8)).toArray⟩ : ByteArray) = SB ++ SZ := by rw [← hSB, ← hSZ]; apply ByteArray.ext; simp
                have HCR : Hid (∀ X, Turn (fun _ => False) w8 X → (convert 47 9 (.slice AR 1024 cR)).run Tryd.prog X = .ok (.string (SB ++ SZ)) X) := Lib.hid (fun X hX => by rw [← hcat]; exact sl_conv (HSR.out.turn hX (Nat.le_refl _) (fun _ _ h => h)))
                have HCB : Hid (∀ X, Turn (fun _ => False) w8 X → (convert 47 9 (.slice A2 nb c2)).run Tryd.prog X = .ok (.string SB) X) := Lib.hid (fun X hX => by rw [← hSB]; exact sl_conv (((HSL.out.turn (M8.out.tn.trans hX) (Nat.le_refl _) (fun _ _ h => h)))))
                have HMC : Hid (∀ X : World, (convert 47 9 (.slice (some ⟨X.heap.size, 0, none⟩) mz mz)).run Tryd.prog (X.alloc (.cells (bv (List.replicate mz 0)).toArray 5)) = .ok (.string SZ) (X.alloc (.cells (bv (List.replicate mz 0)).toArray 5))) := Lib.hid (fun X => by rw [← hSZ]; exact sl_conv (sl_blk9 (Blk.new _ _ _) (by simp) (by unfold maxLen; omega)))
                have HLV : Hid (∀ X, Turn (fun _ => False) w X → Calls Tryd.prog 6 #[] X fun e w' => ∃ v, e = .returned v ∧ (v = .bool true ∧ Turn (fun _ => False) X w')) := Lib.hid (fun X hX => (HL.out X hX).mono (by rintro _ _ ⟨rfl, h⟩; exact ⟨_, rfl, rfl, h⟩))
                have heq : ((SB ++ SZ).toList == (SB ++ SZ).toList) = true := by simp
                clear hmz hcat hSB hSZ hnb hb2
                refine wp_region_noPanic ?_
                refine wp_region_held_drew (S := fun X => Turn (fun _ => False) w8 X) (by kernel_rfl) ((Turn.refl (fun _ => False) w8).drew) (fun hHeld => ?_)
                refine wpAnyH_named9 (fun X0 hX0 => ?_)
                have T0 : Hid (Turn (fun _ => False) w8 X0) := Lib.hid (by first | (rw [hX0]; exact (Turn.refl (fun _ => False) w8).drew) | (rw [← hX0]; exact (Turn.refl (fun _ => False) w8).drew))
                have hmk := make_bytes9 mz (by omega) X0
                have hH0 := T0.out
                clear hHeld hX0
                refine wpAnyH_take (i := 0) (v := ?_) rfl (by kernel_rfl) (by kernel_rfl) (by kernel_rfl) (fun _ _ _ h => h) (Or.inl ⟨by rfl, ?_⟩) (by assumption) ?_
                rotate_left 1
                · intro w' hSw
                  go_simp
                  all_goals first | with_reducible rfl | (rw [if_neg (by omega)]; done) | (rw [if_pos (by omega)]; done) | (rw [if_neg (by omega)]; with_reducible rfl) | (rw [if_pos (by omega)]; with_reducible rfl)
                try simp only [List.getElem_toArray, List.getElem_cons_zero, Act.put, List.setIfInBounds_toArray, List.set_cons_zero, List.set_cons_succ]
                refine wpAnyH_take (i := 1) (v := ?_) rfl (by kernel_rfl) (by kernel_rfl) (by kernel_rfl) (fun _ _ _ h => h) (Or.inl ⟨by rfl, ?_⟩) (by assumption) ?_
                rotate_left 1
                · intro w' hSw
                  go_simp
                  all_goals first | with_reducible rfl | (rw [if_neg (by omega)]; done) | (rw [if_pos (by omega)]; done) | (rw [if_neg (by omega)]; with_reducible rfl) | (rw [if_pos (by omega)]; with_reducible rfl)
                try simp only [List.getElem_toArray, List.getElem_cons_zero, List.getElem_cons_succ, Act.put, List.setIfInBounds_toArray, List.set_cons_zero, List.set_cons_succ]
                refine wpAnyH_take (i := 2) (v := ?_) rfl (by kernel_rfl) (by kernel_rfl) (by kernel_rfl) (fun _ _ _ h => h) (Or.inl ⟨by rfl, ?_⟩) (by assumption) ?_
                rotate_left 1
                · intro w' hSw
                  go_simp
                  all_goals first | with_reducible rfl | (rw [if_neg (by omega)]; done) | (rw [if_pos (by omega)]; done) | (rw [if_neg (by omega)]; with_reducible rfl) | (rw [if_pos (by omega)]; with_reducible rfl)
                try simp only [List.getElem_toArray, List.getElem_cons_zero, List.getElem_cons_succ, Act.put, List.setIfInBounds_toArray, List.set_cons_zero, List.set_cons_succ]
                refine wpAnyH_take (i := 3) (v := ?_) rfl (by kernel_rfl) (by kernel_rfl) (by kernel_rfl) (fun _ _ _ h => h) (Or.inl ⟨by rfl, ?_⟩) (by assumption) ?_
                rotate_left 1
                · intro w' hSw
                  go_simp
                  all_goals first | with_reducible rfl | (rw [if_neg (by omega)]; done) | (rw [if_pos (by omega)]; done) | (rw [if_neg (by omega)]; with_reducible rfl) | (rw [if_pos (by omega)]; with_reducible rfl)
                try simp only [List.getElem_toArray, List.getElem_cons_zero, List.getElem_cons_succ, Act.put, List.setIfInBounds_toArray, List.set_cons_zero, List.set_cons_succ]
                refine wpAnyH_take (i := 4) (v := ?_) rfl (by kernel_rfl) (by kernel_rfl) (by kernel_rfl) (fun _ _ _ h => h) (Or.inl ⟨by rfl, ?_⟩) (by assumption) ?_
                rotate_left 1
                · intro w' hSw
                  go_simp
                  all_goals first | with_reducible rfl | (rw [if_neg (by omega)]; done) | (rw [if_pos (by omega)]; done) | (rw [if_neg (by omega)]; with_reducible rfl) | (rw [if_pos (by omega)]; with_reducible rfl)
                try simp only [List.getElem_toArray, List.getElem_cons_zero, List.getElem_cons_succ, Act.put, List.setIfInBounds_toArray, List.set_cons_zero, List.set_cons_succ]
                refine wpAnyH_take (i := 5) (v := ?_) rfl (by kernel_rfl) (by kernel_rfl) (by kernel_rfl) (fun _ _ _ h => h) (Or.inl ⟨by rfl, ?_⟩) (by assumption) ?_
                rotate_left 1
                · intro w' hSw
                  go_simp
                  all_goals first | with_reducible rfl | (rw [if_neg (by omega)]; done) | (rw [if_pos (by omega)]; done) | (rw [if_neg (by omega)]; with_reducible rfl) | (rw [if_pos (by omega)]; with_reducible rfl)
                try simp only [List.getElem_toArray, List.getElem_cons_zero, List.getElem_cons_succ, Act.put, List.setIfInBounds_toArray, List.set_cons_zero, List.set_cons_succ]
                refine wpAnyH_take (i := 6) (v := ?_) rfl (by kernel_rfl) (by kernel_rfl) (by kernel_rfl) (fun _ _ _ h => h) (Or.inl ⟨by rfl, ?_⟩) (by assumption) ?_
                rotate_left 1
                · intro w' hSw
                  go_simp
                  all_goals first | with_reducible rfl | (rw [if_neg (by omega)]; done) | (rw [if_pos (by omega)]; done) | (rw [if_neg (by omega)]; with_reducible rfl) | (rw [if_pos (by omega)]; with_reducible rfl)
                try simp only [List.getElem_toArray, List.getElem_cons_zero, List.getElem_cons_succ, Act.put, List.setIfInBounds_toArray, List.set_cons_zero, List.set_cons_succ]
                refine wpAnyH_take (i := 7) (v := ?_) rfl (by kernel_rfl) (by kernel_rfl) (by kernel_rfl) (fun _ _ _ h => h) (Or.inl ⟨by rfl, ?_⟩) (by assumption) ?_
                rotate_left 1
                · intro w' hSw
                  go_simp
                  all_goals first | with_reducible rfl | (rw [if_neg (by omega)]; done) | (rw [if_pos (by omega)]; done) | (rw [if_neg (by omega)]; with_reducible rfl) | (rw [if_pos (by omega)]; with_reducible rfl)
                try simp only [List.getElem_toArray, List.getElem_cons_zero, List.getElem_cons_succ, Act.put, List.setIfInBounds_toArray, List.set_cons_zero, List.set_cons_succ]
                refine wpAnyH_take (i := 8) (v := ?_) rfl (by kernel_rfl) (by kernel_rfl) (by kernel_rfl) (fun _ _ _ h => h) (Or.inl ⟨by rfl, ?_⟩) (by assumption) ?_
                rotate_left 1
                · intro w' hSw
                  go_simp
                  all_goals first | with_reducible rfl | (rw [if_neg (by omega)]; done) | (rw [if_pos (by omega)]; done) | (rw [if_neg (by omega)]; with_reducible rfl) | (rw [if_pos (by omega)]; with_reducible rfl)
                try simp only [List.getElem_toArray, List.getElem_cons_zero, List.getElem_cons_succ, Act.put, List.setIfInBounds_toArray, List.set_cons_zero, List.set_cons_succ]
                refine wpAnyH_take (i := 9) (v := ?_) rfl (by kernel_rfl) (by kernel_rfl) (by kernel_rfl) (fun _ _ _ h => h) (Or.inl ⟨by rfl, ?_⟩) (by assumption) ?_
                rotate_left 1
                · intro w' hSw
                  go_simp
                  all_goals first | with_reducible rfl | (rw [if_neg (by omega)]; done) | (rw [if_pos (by omega)]; done) | (rw [if_neg (by omega)]; with_reducible rfl) | (rw [if_pos (by omega)]; with_reducible rfl)
                try simp only [List.getElem_toArray, List.getElem_cons_zero, List.getElem_cons_succ, Act.put, List.setIfInBounds_toArray, List.set_cons_zero, List.set_cons_succ]
                refine wpAnyH_take (i := 10) (v := ?_) rfl (by kernel_rfl) (by kernel_rfl) (by kernel_rfl) (fun _ _ _ h => h) (Or.inl ⟨by rfl, ?_⟩) (by assumption) ?_
                rotate_left 1
                · intro w' hSw
                  go_simp
                  all_goals first | with_reducible rfl | (rw [if_neg (by omega)]; done) | (rw [if_pos (by omega)]; done) | (rw [if_neg (by omega)]; with_reducible rfl) | (rw [if_pos (by omega)]; with_reducible rfl)
                try simp only [List.getElem_toArray, List.getElem_cons_zero, List.getElem_cons_succ, Act.put, List.setIfInBounds_toArray, List.set_cons_zero, List.set_cons_succ]
                refine wpAnyH_take (i := 11) (v := ?_) rfl (by kernel_rfl) (by kernel_rfl) (by kernel_rfl) (fun _ _ _ h => h) (Or.inl ⟨by rfl, ?_⟩) (by assumption) ?_
                rotate_left 1
                · intro w' hSw
                  go_simp
                  all_goals first | with_reducible rfl | (rw [if_neg (by omega)]; done) | (rw [if_pos (by omega)]; done) | (rw [if_neg (by omega)]; with_reducible rfl) | (rw [if_pos (by omega)]; with_reducible rfl)
                try simp only [List.getElem_toArray, List.getElem_cons_zero, List.getElem_cons_succ, Act.put, List.setIfInBounds_toArray, List.set_cons_zero, List.set_cons_succ]
                refine wpAnyH_take (i := 12) (v := ?_) rfl (by kernel_rfl) (by kernel_rfl) (by kernel_rfl) (fun _ _ _ h => h) (Or.inl ⟨by rfl, ?_⟩) (by assumption) ?_
                rotate_left 1
                · intro w' hSw
                  go_simp
                  all_goals first | with_reducible rfl | (rw [if_neg (by omega)]; done) | (rw [if_pos (by omega)]; done) | (rw [if_neg (by omega)]; with_reducible rfl) | (rw [if_pos (by omega)]; with_reducible rfl)
                try simp only [List.getElem_toArray, List.getElem_cons_zero, List.getElem_cons_succ, Act.put, List.setIfInBounds_toArray, List.set_cons_zero, List.set_cons_succ]
                refine wpAnyH_take (i := 13) (v := ?_) rfl (by kernel_rfl) (by kernel_rfl) (by kernel_rfl) (fun _ _ _ h => h) (Or.inl ⟨by rfl, ?_⟩) (by assumption) ?_
                rotate_left 1
                · intro w' hSw
                  have hS1 := hSw
                  have y1 := HCR.out _ hS1
                  go_simp
                  all_goals first | with_reducible rfl | (rw [if_neg (by omega)]; done) | (rw [if_pos (by omega)]; done) | (rw [if_neg (by omega)]; with_reducible rfl) | (rw [if_pos (by omega)]; with_reducible rfl)
                try simp only [List.getElem_toArray, List.getElem_cons_zero, List.getElem_cons_succ, Act.put, List.setIfInBounds_toArray, List.set_cons_zero, List.set_cons_succ]
                refine wpAnyH_take (i := 14) (v := ?_) rfl (by kernel_rfl) (by kernel_rfl) (by kernel_rfl) (fun _ _ _ h => h) (Or.inl ⟨by rfl, ?_⟩) (by assumption) ?_
                rotate_left 1
                · intro w' hSw
                  go_simp
                  all_goals first | with_reducible rfl | (rw [if_neg (by omega)]; done) | (rw [if_pos (by omega)]; done) | (rw [if_neg (by omega)]; with_reducible rfl) | (rw [if_pos (by omega)]; with_reducible rfl)
                try simp only [List.getElem_toArray, List.getElem_cons_zero, List.getElem_cons_succ, Act.put, List.setIfInBounds_toArray, List.set_cons_zero, List.set_cons_succ]
                refine wpAnyH_take (i := 15) (v := ?_) rfl (by kernel_rfl) (by kernel_rfl) (by kernel_rfl) (fun _ _ _ h => h) (Or.inl ⟨by rfl, ?_⟩) (by assumption) ?_
                rotate_left 1
                · intro w' hSw
                  have hS1 := hSw
                  have y1 := HCB.out _ hS1
                  go_simp
                  all_goals first | with_reducible rfl | (rw [if_neg (by omega)]; done) | (rw [if_pos (by omega)]; done) | (rw [if_neg (by omega)]; with_reducible rfl) | (rw [if_pos (by omega)]; with_reducible rfl)
                try simp only [List.getElem_toArray, List.getElem_cons_zero, List.getElem_cons_succ, Act.put, List.setIfInBounds_toArray, List.set_cons_zero, List.set_cons_succ]
                refine wpAnyH_take (i := 16) (v := ?_) rfl (by kernel_rfl) (by kernel_rfl) (by kernel_rfl) (fun _ _ _ h => h) (Or.inl ⟨by rfl, ?_⟩) (by assumption) ?_
                rotate_left 1
                · intro w' hSw
                  go_simp
                  all_goals first | with_reducible rfl | (rw [if_neg (by omega)]; done) | (rw [if_pos (by omega)]; done) | (rw [if_neg (by omega)]; with_reducible rfl) | (rw [if_pos (by omega)]; with_reducible rfl)
                try simp only [List.getElem_toArray, List.getElem_cons_zero, List.getElem_cons_succ, Act.put, List.setIfInBounds_toArray, List.set_cons_zero, List.set_cons_succ]
                refine wpAnyH_take (i := 17) (v := ?_) rfl (by kernel_rfl) (by kernel_rfl) (by kernel_rfl) (fun _ _ _ h => h) (Or.inl ⟨by rfl, ?_⟩) (by assumption) ?_
                rotate_left 1
                · intro w' hSw
                  go_simp
                  all_goals first | with_reducible rfl | (rw [if_neg (by omega)]; done) | (rw [if_pos (by omega)]; done) | (rw [if_neg (by omega)]; with_reducible rfl) | (rw [if_pos (by omega)]; with_reducible rfl)
                try simp only [List.getElem_toArray, List.getElem_cons_zero, List.getElem_cons_succ, Act.put, List.setIfInBounds_toArray, List.set_cons_zero, List.set_cons_succ]
                refine wpAnyH_take (i := 18) (v := ?_) rfl (by kernel_rfl) (by kernel_rfl) (by kernel_rfl) (fun _ _ _ h => h) (Or.inl ⟨by rfl, ?_⟩) (by assumption) ?_
                rotate_left 1
                · intro w' hSw
                  go_simp
                  all_goals first | with_reducible rfl | (rw [if_neg (by omega)]; done) | (rw [if_pos (by omega)]; done) | (rw [if_neg (by omega)]; with_reducible rfl) | (rw [if_pos (by omega)]; with_reducible rfl)
                try simp only [List.getElem_toArray, List.getElem_cons_zero, List.getElem_cons_succ, Act.put, List.setIfInBounds_toArray, List.set_cons_zero, List.set_cons_succ]
                refine wpAnyH_ready (rs := [19]) (by kernel_rfl) (by simp) ?_
                refine AllReadyH.cons rfl (fun K hK => ?_) AllReadyH.nil
                go_simp
                refine hK.out _ _ (T0.out.alloc _) (fun hHeld => ?_)
                refine wpAnyH_named9 (fun X1 e => ?_)
                have T1 : Hid (Turn (fun _ => False) w8 X1) := Lib.hid (by first | (rw [e]; exact T0.out.alloc _) | (rw [← e]; exact T0.out.alloc _))
                have C1 : Hid ((convert 47 9 (.slice (some ⟨X0.heap.size, 0, none⟩) mz mz)).run Tryd.prog X1 = .ok (.string SZ) X1) := Lib.hid (by first | (rw [e]; exact HMC.out X0) | (rw [← e]; exact HMC.out X0))
                have hH1 := T1.out
                clear e hHeld hmk
                clear hK K
                try simp only [List.getElem_toArray, List.getElem_cons_zero, List.getElem_cons_succ, Act.put, List.setIfInBounds_toArray, List.set_cons_zero, List.set_cons_succ]
                refine wpAnyH_ready (rs := [20]) (by kernel_rfl) (by simp) ?_
                refine AllReadyH.cons rfl (fun K hK => ?_) AllReadyH.nil
                have hc1 := C1.out
                go_simp
                refine hK.out _ _ hH1 (fun hHeld => ?_)
                clear hHeld hc1
                clear hK K
                try simp only [List.getElem_toArray, List.getElem_cons_zero, List.getElem_cons_succ, Act.put, List.setIfInBounds_toArray, List.set_cons_zero, List.set_cons_succ]
                refine wpAnyH_take (i := 21) (v := ?_) rfl (by kernel_rfl) (by kernel_rfl) (by kernel_rfl) (fun _ _ _ h => h) (Or.inl ⟨by rfl, ?_⟩) (by assumption) ?_
                rotate_left 1
                · intro w' hSw
                  go_simp
                  all_goals first | with_reducible rfl | (rw [if_neg (by omega)]; done) | (rw [if_pos (by omega)]; done) | (rw [if_neg (by omega)]; with_reducible rfl) | (rw [if_pos (by omega)]; with_reducible rfl)
                try simp only [List.getElem_toArray, List.getElem_cons_zero, List.getElem_cons_succ, Act.put, List.setIfInBounds_toArray, List.set_cons_zero, List.set_cons_succ]
                refine wpAnyH_take (i := 22) (v := ?_) rfl (by kernel_rfl) (by kernel_rfl) (by kernel_rfl) (fun _ _ _ h => h) (Or.inl ⟨by rfl, ?_⟩) (by assumption) ?_
                rotate_left 1
                · intro w' hSw
                  go_simp
                  all_goals first | with_reducible rfl | (rw [if_neg (by omega)]; done) | (rw [if_pos (by omega)]; done) | (rw [if_neg (by omega)]; with_reducible rfl) | (rw [if_pos (by omega)]; with_reducible rfl)
                try simp only [List.getElem_toArray, List.getElem_cons_zero, List.getElem_cons_succ, Act.put, List.setIfInBounds_toArray, List.set_cons_zero, List.set_cons_succ]
                refine wpAnyH_take (i := 23) (v := ?_) rfl (by kernel_rfl) (by kernel_rfl) (by kernel_rfl) (fun _ _ _ h => h) (Or.inl ⟨by rfl, ?_⟩) (by assumption) ?_
                rotate_left 1
                · intro w' hSw
                  go_simp
                  all_goals first | with_reducible rfl | (rw [if_neg (by omega)]; done) | (rw [if_pos (by omega)]; done) | (rw [if_neg (by omega)]; with_reducible rfl) | (rw [if_pos (by omega)]; with_reducible rfl)
                try simp only [List.getElem_toArray, List.getElem_cons_zero, List.getElem_cons_succ, Act.put, List.setIfInBounds_toArray, List.set_cons_zero, List.set_cons_succ]
                refine wpAnyH_take (i := 24) (v := ?_) rfl (by kernel_rfl) (by kernel_rfl) (by kernel_rfl) (fun _ _ _ h => h) (Or.inl ⟨by rfl, ?_⟩) (by assumption) ?_
                rotate_left 1
                · intro w' hSw
                  go_simp
                  all_goals first | with_reducible rfl | (rw [if_neg (by omega)]; done) | (rw [if_pos (by omega)]; done) | (rw [if_neg (by omega)]; with_reducible rfl) | (rw [if_pos (by omega)]; with_reducible rfl)
                try simp only [List.getElem_toArray, List.getElem_cons_zero, List.getElem_cons_succ, Act.put, List.setIfInBounds_toArray, List.set_cons_zero, List.set_cons_succ]
                refine wpAnyH_take (i := 25) (v := ?_) rfl (by kernel_rfl) (by kernel_rfl) (by kernel_rfl) (fun _ _ _ h => h) (Or.inl ⟨by rfl, ?_⟩) (by assumption) ?_
                rotate_left 1
                · intro w' hSw
                  go_simp
                  all_goals first | with_reducible rfl | (rw [if_neg (by omega)]; done) | (rw [if_pos (by omega)]; done) | (rw [if_neg (by omega)]; with_reducible rfl) | (rw [if_pos (by omega)]; with_reducible rfl)
                try simp only [List.getElem_toArray, List.getElem_cons_zero, List.getElem_cons_succ, Act.put, List.setIfInBounds_toArray, List.set_cons_zero, List.set_cons_succ]
                refine wpAnyH_take (i := 27) (v := ?_) rfl (by kernel_rfl) (by kernel_rfl) (by kernel_rfl) (fun _ _ _ h => h) (Or.inl ⟨by rfl, ?_⟩) (by assumption) ?_
                rotate_left 1
                · intro w' hSw
                  go_simp
                  all_goals first | with_reducible rfl | (rw [if_neg (by omega)]; done) | (rw [if_pos (by omega)]; done) | (rw [if_neg (by omega)]; with_reducible rfl) | (rw [if_pos (by omega)]; with_reducible rfl)
                try simp only [List.getElem_toArray, List.getElem_cons_zero, List.getElem_cons_succ, Act.put, List.setIfInBounds_toArray, List.set_cons_zero, List.set_cons_succ]
                refine wpAnyH_take (i := 28) (v := ?_) rfl (by kernel_rfl) (by kernel_rfl) (by kernel_rfl) (fun _ _ _ h => h) (Or.inl ⟨by rfl, ?_⟩) (by assumption) ?_
                rotate_left 1
                · intro w' hSw
                  go_simp
                  all_goals first | with_reducible rfl | (rw [if_neg (by omega)]; done) | (rw [if_pos (by omega)]; done) | (rw [if_neg (by omega)]; with_reducible rfl) | (rw [if_pos (by omega)]; with_reducible rfl)
                try simp only [List.getElem_toArray, List.getElem_cons_zero, List.getElem_cons_succ, Act.put, List.setIfInBounds_toArray, List.set_cons_zero, List.set_cons_succ]
                refine wpAnyH_ready (rs := [26]) (by kernel_rfl) (by simp) ?_
                refine AllReadyH.cons rfl (fun K hK => ?_) AllReadyH.nil
                refine step_call_on 33 Tryd.f33 _ _ rfl Tryd.func33 (by kernel_rfl) (by kernel_rfl) _ _ (HF1.out _ _ (M8.out.still T1.out)) (by go_simp) (by first | rfl | go_simp) ?_
                rintro v9 w9 ⟨rfl, hw9⟩
                subst hw9
                refine hK.out _ _ hH1 (fun hHeld => ?_)
                clear hHeld
                clear hK K
                try simp only [List.getElem_toArray, List.getElem_cons_zero, List.getElem_cons_succ, Act.put, List.setIfInBounds_toArray, List.set_cons_zero, List.set_cons_succ]
                refine wpAnyH_take (i := 29) (v := ?_) rfl (by kernel_rfl) (by kernel_rfl) (by kernel_rfl) (fun _ _ _ h => h) (Or.inl ⟨by rfl, ?_⟩) (by assumption) ?_
                rotate_left 1
                · intro w' hSw
                  go_simp
                  all_goals first | with_reducible rfl | (rw [if_neg (by omega)]; done) | (rw [if_pos (by omega)]; done) | (rw [if_neg (by omega)]; with_reducible rfl) | (rw [if_pos (by omega)]; with_reducible rfl)
                try simp only [List.getElem_toArray, List.getElem_cons_zero, List.getElem_cons_succ, Act.put, List.setIfInBounds_toArray, List.set_cons_zero, List.set_cons_succ]
                refine wpAnyH_take (i := 30) (v := ?_) rfl (by kernel_rfl) (by kernel_rfl) (by kernel_rfl) (fun _ _ _ h => h) (Or.inl ⟨by rfl, ?_⟩) (by assumption) ?_
                rotate_left 1
                · intro w' hSw
                  go_simp
                  all_goals first | with_reducible rfl | (rw [if_neg (by omega)]; done) | (rw [if_pos (by omega)]; done) | (rw [if_neg (by omega)]; with_reducible rfl) | (rw [if_pos (by omega)]; with_reducible rfl)
                try simp only [List.getElem_toArray, List.getElem_cons_zero, List.getElem_cons_succ, Act.put, List.setIfInBounds_toArray, List.set_cons_zero, List.set_cons_succ]
                refine wpAnyH_take (i := 31) (v := ?_) rfl (by kernel_rfl) (by kernel_rfl) (by kernel_rfl) (fun _ _ _ h => h) (Or.inl ⟨by rfl, ?_⟩) (by assumption) ?_
                rotate_left 1
                · intro w' hSw
                  go_simp
                  all_goals first | with_reducible rfl | (rw [if_neg (by omega)]; done) | (rw [if_pos (by omega)]; done) | (rw [if_neg (by omega)]; with_reducible rfl) | (rw [if_pos (by omega)]; with_reducible rfl)
                try simp only [List.getElem_toArray, List.getElem_cons_zero, List.getElem_cons_succ, Act.put, List.setIfInBounds_toArray, List.set_cons_zero, List.set_cons_succ]
                refine wpAnyH_ready (rs := [32]) (by kernel_rfl) (by simp) ?_
                refine AllReadyH.cons rfl (fun K hK => ?_) AllReadyH.nil
                refine step_call_on 6 Tryd.f6 _ _ rfl Tryd.func6 (by kernel_rfl) (by kernel_rfl) _ _ (HLV.out _ (M8.out.tn.trans T1.out)) (by go_simp) (by first | rfl | go_simp) ?_
                rintro v9 w9 ⟨rfl, ht⟩
                have T2 := Lib.hid (T1.out.trans ht)
                clear ht
                refine hK.out _ _ T2.out (fun hHeld => ?_)
                clear hHeld
                clear hK K
                try simp only [List.getElem_toArray, List.getElem_cons_zero, List.getElem_cons_succ, Act.put, List.setIfInBounds_toArray, List.set_cons_zero, List.set_cons_succ]
                refine wpAnyH_take (i := 33) (v := ?_) rfl (by kernel_rfl) (by kernel_rfl) (by kernel_rfl) (fun _ _ _ h => h) (Or.inl ⟨by rfl, ?_⟩) (by assumption) ?_
                rotate_left 1
                · intro w' hSw
                  go_simp
                  all_goals first | with_reducible rfl | (rw [if_neg (by omega)]; done) | (rw [if_pos (by omega)]; done) | (rw [if_neg (by omega)]; with_reducible rfl) | (rw [if_pos (by omega)]; with_reducible rfl)
                try simp only [List.getElem_toArray, List.getElem_cons_zero, List.getElem_cons_succ, Act.put, List.setIfInBounds_toArray, List.set_cons_zero, List.set_cons_succ]
                refine wpAnyH_take (i := 34) (v := ?_) rfl (by kernel_rfl) (by kernel_rfl) (by kernel_rfl) (fun _ _ _ h => h) (Or.inl ⟨by rfl, ?_⟩) (by assumption) ?_
                rotate_left 1
                · intro w' hSw
                  go_simp
                  all_goals first | with_reducible rfl | (rw [if_neg (by omega)]; done) | (rw [if_pos (by omega)]; done) | (rw [if_neg (by omega)]; with_reducible rfl) | (rw [if_pos (by omega)]; with_reducible rfl)
                try simp only [List.getElem_toArray, List.getElem_cons_zero, List.getElem_cons_succ, Act.put, List.setIfInBounds_toArray, List.set_cons_zero, List.set_cons_succ]
                refine wpAnyH_done (by kernel_rfl) ?_ _
                refine NoPanic.normal ?_
                go_wp2_with fail
                go_ret
                exact ⟨rfl, (M8.out.tn.trans T2.out).below (Nat.le_refl _) (fun k hk => hk.elim)⟩
                -- r31 end
          | succ m =>
            have hm8 : m < 8 := by omega
            have HST := from9_step st0 (8 - (m + 1)) m
            have hm9 : 8 - m = 8 - (m + 1) + 1 := by omega
            rw [← hm9] at HST
            have hcell : wr.cell? ⟨gt, m, none⟩ = some (.int .i64 (if st0.getD m 0 = 0 then 0 else 1)) := by
              have := tk9_cell (z := m) (TB.out.turn T5.out (fun h => h)) HT.out hm8 (HTV.out m hm8)
              exact this
            have hle := from9_le st0 (8 - (m + 1)) (m + 1)
            have hms : ((m + 1 : Nat) : Int) - 1 = (m : Int) := by omega
            rw [hms]
            have hmq := wrap_of ((m : Int) - 1) (by omega) (by omega)
            obtain ⟨F, hF⟩ : ∃ F, from9 st0 (8 - (m + 1)) (m + 1) = F := ⟨_, rfl⟩
            rw [hF] at HST hle ⊢
            have hfq := wrap_of ((F.2 : Int) + 1) (by omega) (by omega)
            have HS := Lib.hid HST
            clear HST hF hm9 hms
            have h70 : (m : Int) < 8 := by omega
            have h71 : (0 : Int) ≤ (m : Int) := by omega
            by_cases hs : st0.getD m 0 = 0
            · rw [if_pos hs] at hcell
              have HSS := Lib.hid hs
              clear hs
              go_wp2_with fail
              go_roundw
              case rel => exact ⟨m, by omega, by simp [hmq], by rw [HS.out, if_pos HSS.out], by rw [HS.out, if_pos HSS.out]; simp [hfq], T5.out⟩
              case measure => simp [intOf, hmq]
            · rw [if_neg hs] at hcell
              have HSS := Lib.hid hs
              clear hs
              go_wp2_with fail
              go_roundw
              case rel => exact ⟨m, by omega, by simp [hmq], by rw [HS.out, if_neg HSS.out], by rw [HS.out, if_neg HSS.out], T5.out⟩
              case measure => simp [intOf, hmq]
end Go.Proofs.YtinnpbabkbppmaaDoor
