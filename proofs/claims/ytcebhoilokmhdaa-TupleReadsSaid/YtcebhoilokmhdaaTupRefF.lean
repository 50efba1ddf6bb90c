/- Layer 2: the document's answer: first, of a text. -/
import Derived.Test.YtcebhoilokmhdaaTupRefE
namespace Go.Proofs.Ytcebhoilokmhdaa
open Go.RowKit
set_option linter.unusedVariables false

theorem tx_cons {c : UInt8} (h : c ≠ 0) (l : List UInt8) : textEnd (c :: l) = (textEnd l).map (fun x => (c :: x.1, x.2)) := by
  cases l with
  | nil => rfl
  | cons e l => show (if c = 0 then _ else _) = _; rw [if_neg h]
theorem tx_zero (d : UInt8) (l : List UInt8) : textEnd (0 :: d :: l) = if d = 1 then some ([], l) else if d = 255 then (textEnd l).map (fun x => (0 :: x.1, x.2)) else none := by
  rw [textEnd, if_pos rfl]
theorem first_end (S : ByteArray) (w W : World) (o : Option (Pt × List UInt8)) (ho : o = none) (hb : Below w.heap.size w W) : FOut S.size o (.returned (.tuple #[.agg #[.int .i64 0, .int .i64 0, .string ⟨#[]⟩], .int .i64 0])) ∧ Below w.heap.size w W := by
  subst ho; exact ⟨rfl, hb⟩

set_option maxRecDepth 100000 in
set_option maxHeartbeats 4000000 in
theorem first_text (S : ByteArray) (l : List UInt8) (hS : S = ⟨((2 : UInt8) :: l).toArray⟩) (hsz : S.size ≤ 128) (w : World) :
    Calls Try.prog 73 #[.string S] w fun e w' => FOut S.size (firstPart 2 l) e ∧ Below w.heap.size w w' := by
  obtain ⟨i0, hi0, hy1, hy2, hy3⟩ := info_parts Try.info5
  obtain ⟨b1, b2, b3, b4⟩ := ba_head S 2 l hS
  have hSl : S.data.toList = 2 :: l := by rw [hS]
  have hi : (0 : Int) < S.size := by omega
  have hc := b2 b1
  have g2 : ((S[0].toNat : Int) == 2) = true := by rw [hc]; rfl
  have g2' : ((S[0].toNat : Int) != 2) = false := by rw [hc]; rfl
  have g3 : ((S[0].toNat : Int) == 3) = false := by rw [hc]; rfl
  have g4 : ((S[0].toNat : Int) == 4) = false := by rw [hc]; rfl
  have HSL := Lib.hid hSl
  have HLN := Lib.hid (show S.size = l.length + 1 from b4)
  have hs1 : (1 : Int) ≤ S.size := by omega
  have HFP := Lib.hid (show firstPart 2 l = (textEnd l).map (fun x => ((⟨1, 0, ⟨x.1.toArray⟩⟩ : Pt), x.2)) from rfl)
  have HR0 := Lib.hid (Blk.new w 88 [.int .i64 0, .int .i64 0, .string ⟨#[]⟩])
  clear hS b2 b3 b4 hc hSl
  go_enter Try.func73, Try.ntmps73
  go_wp2
  go_loopw [7, 8] (fun tv i wr => ∃ (j : Nat) (t : List UInt8), 1 ≤ j ∧ j ≤ S.size ∧ i = .int .i64 j ∧ wr.ownsRow (w.heap.size + 1) 5 1 tv t.length (bv t) ∧ t.length ≤ j ∧
      textEnd l = (textEnd (S.data.toList.drop j)).map (fun x => (t ++ x.1, x.2)) ∧ Blk wr w.heap.size 88 [.int .i64 0, .int .i64 0, .string ⟨#[]⟩] ∧ Below w.heap.size w wr) (fun _ i _ => (S.size - intOf i).toNat)
  case atStart => exact ⟨1, [], Nat.le_refl _, by omega, rfl, World.ownsRow_nil _ _ _ _, by simp, by rw [HSL.out]; show _ = (textEnd l).map _; cases textEnd l <;> rfl, HR0.out, (Below.refl _ _).alloc (Nat.le_refl _) _⟩
  case round =>
    obtain ⟨j, t, hj1, hj, rfl, hown, htl, htx, hrb, hb⟩ := hrel
    have c0 : wr.cell? ⟨w.heap.size, 0, none⟩ = some (.int .i64 0) := hrb.cell 0
    have c1 : wr.cell? ⟨w.heap.size, 1, none⟩ = some (.int .i64 0) := hrb.cell 1
    have c2 : wr.cell? ⟨w.heap.size, 2, none⟩ = some (.string ⟨#[]⟩) := hrb.cell 2
    have f0 := hrb.free 0
    have f1 := hrb.free 1
    have f2 := hrb.free 2
    have hlw := hrb.lt
    have HO := Lib.hid hown
    have HTX := Lib.hid htx
    have HRB := Lib.hid hrb
    clear hown htx hrb
    by_cases hlt : j < S.size
    · have HD := Lib.hid (drop_cons S j hlt)
      have hj0 : (0 : Int) ≤ j := by omega
      have hjS : (j : Int) < S.size := by omega
      have hj128 : (j : Int) ≤ 128 := by omega
      by_cases h0 : S[j] = 0
      · have q1 : ((S[j].toNat : Int) == 0) = true := by rw [h0]; rfl
        have q2 : ((S[j].toNat : Int) != 0) = false := by rw [h0]; rfl
        have H0 := Lib.hid h0
        clear h0
        by_cases hend : j + 1 = S.size
        · have HE := Lib.hid (show firstPart 2 l = none from by
            rw [HFP.out, HTX.out, HD.out, show S.data.toList.drop (j + 1) = [] from List.drop_eq_nil_of_le (by simp; omega), H0.out]; rfl)
          have q3 : ((j : Int) + 1 == S.size) = true := by simp; omega
          clear hend
          go_wp2
          refine bodyPost_ret (v := .tuple #[.agg #[.int .i64 0, .int .i64 0, .string ⟨#[]⟩], .int .i64 0]) (by simp [results, Try.results73, go_sem, c0, c1, c2]) rfl ?_
          exact first_end S w _ _ HE.out (((hb.setCell (Nat.le_refl _) _).setCell (Nat.le_refl _) _).setCell (Nat.le_refl _) _)
        · have hlt2 : j + 1 < S.size := by omega
          have HD2 := Lib.hid (drop_cons S (j + 1) hlt2)
          have q3 : ((j : Int) + 1 == S.size) = false := by simp; omega
          have r0 : (0 : Int) ≤ (j : Int) + 1 := by omega
          have r1 : (j : Int) + 1 < S.size := by omega
          have n1 : ((j : Int) + 1).toNat = j + 1 := by omega
          have hte : textEnd l = (textEnd (0 :: S[j + 1] :: S.data.toList.drop (j + 2))).map (fun x => (t ++ x.1, x.2)) := by
            rw [HTX.out, HD.out, HD2.out, H0.out]
          rw [tx_zero] at hte
          by_cases e1 : S[j + 1] = 1
          · rw [if_pos e1] at hte
            have p1 : ((S[j + 1].toNat : Int) == 1) = true := by rw [e1]; rfl
            have p1' : ((S[j + 1].toNat : Int) != 1) = false := by rw [e1]; rfl
            have HE := Lib.hid (show firstPart 2 l = some (⟨1, 0, ⟨t.toArray⟩⟩, S.data.toList.drop (j + 2)) from by rw [HFP.out, hte]; simp)
            have HSZ := Lib.hid (show ((S.data.toList.drop (j + 2)).length : Int) = S.size - (j + 2) from by rw [List.length_drop, len_ba]; omega)
            obtain ⟨A, cap, rfl, hcv⟩ := made_str t HO.out
            obtain ⟨TX, hTX⟩ : ∃ TX : ByteArray, TX = ⟨t.toArray⟩ := ⟨_, rfl⟩
            rw [← hTX] at hcv HE
            obtain ⟨tl, htl2⟩ : ∃ n, t.length = n := ⟨_, rfl⟩
            simp only [htl2] at hcv ⊢
            clear hTX htl2 hte e1 hend
            go_wp2
            refine bodyPost_ret (v := .tuple #[.agg #[.int .i64 1, .int .i64 0, .string TX], .int .i64 ((j : Int) + 2)]) (by simp [results, Try.results73, go_sem, c0, c1, c2]) rfl ?_
            rw [HE.out]
            refine ⟨?_, ((hb.setCell (Nat.le_refl _) _).setCell (Nat.le_refl _) _).setCell (Nat.le_refl _) _⟩
            show _ = Ending.returned (.tuple #[_, .int .i64 ((S.size : Int) - ((S.data.toList.drop (j + 2)).length : Int))])
            rw [HSZ.out, show (S.size : Int) - ((S.size : Int) - ((j : Int) + 2)) = (j : Int) + 2 from by omega]
          · rw [if_neg e1] at hte
            have p1 : ((S[j + 1].toNat : Int) == 1) = false := (byte_ne (c := S[j + 1]) (n := 1) (by decide) e1).1
            have p1' : ((S[j + 1].toNat : Int) != 1) = true := (byte_ne (c := S[j + 1]) (n := 1) (by decide) e1).2
            by_cases e2 : S[j + 1] = 255
            · rw [if_pos e2] at hte
              have p2 : ((S[j + 1].toNat : Int) == 255) = true := by rw [e2]; rfl
              have p2' : ((S[j + 1].toNat : Int) != 255) = false := by rw [e2]; rfl
              have HTE := Lib.hid (show textEnd l = (textEnd (S.data.toList.drop (j + 2))).map (fun x => ((t ++ [0]) ++ x.1, x.2)) from by
                rw [hte]; cases textEnd (S.data.toList.drop (j + 2)) with
                | none => rfl
                | some x => simp)
              have HJ2 := Lib.hid (show j + 2 ≤ S.size from by omega)
              have hz := hb.size
              clear hte e1 e2 hend
              go_wp2_with (at_builtin; refine wpList_push rfl _ _ 22 rfl (w.heap.size + 1) 5 i0 Try.underlying22 hi0 hy1 hy2 hy3 _ t rfl (HO.out.alloc _) wr.heap.size 1 [0] rfl rfl (by decide) 5 (Blk.new _ _ _) (by omega) (by simp; omega) ?_; intro v1 w1 ho1 ht1; have HO1 := Lib.hid ho1; have HT1 := Lib.hid ht1; clear ho1 ht1)
              go_roundw
              case rel =>
                exact ⟨j + 2, t ++ [0], by omega, HJ2.out, by go_num, HO1.out, by simp; omega, HTE.out, (HRB.out.alloc _).turn HT1.out (fun hk => by have := (HO.out.lt _ hk).1; omega), (hb.alloc hb.size _).trans (HT1.out.below (by simp; omega) fun k hk => by have := (HO.out.lt k hk).1; omega)⟩
              case measure => simp [intOf]; omega
            · rw [if_neg e2] at hte
              have p2 : ((S[j + 1].toNat : Int) == 255) = false := (byte_ne (c := S[j + 1]) (n := 255) (by decide) e2).1
              have p2' : ((S[j + 1].toNat : Int) != 255) = true := (byte_ne (c := S[j + 1]) (n := 255) (by decide) e2).2
              have HE := Lib.hid (show firstPart 2 l = none from by rw [HFP.out, hte]; rfl)
              clear hte e1 e2 hend
              go_wp2
              refine bodyPost_ret (v := .tuple #[.agg #[.int .i64 0, .int .i64 0, .string ⟨#[]⟩], .int .i64 0]) (by simp [results, Try.results73, go_sem, c0, c1, c2]) rfl ?_
              exact first_end S w _ _ HE.out (((hb.setCell (Nat.le_refl _) _).setCell (Nat.le_refl _) _).setCell (Nat.le_refl _) _)
      · have q1 : ((S[j].toNat : Int) == 0) = false := (byte_ne (c := S[j]) (n := 0) (by decide) h0).1
        have q2 : ((S[j].toNat : Int) != 0) = true := (byte_ne (c := S[j]) (n := 0) (by decide) h0).2
        have HTE := Lib.hid (show textEnd l = (textEnd (S.data.toList.drop (j + 1))).map (fun x => ((t ++ [S[j]]) ++ x.1, x.2)) from by
          rw [HTX.out, HD.out, tx_cons h0]; cases textEnd (S.data.toList.drop (j + 1)) with
          | none => rfl
          | some x => simp)
        have hz := hb.size
        clear h0
        go_wp2_with (at_builtin; refine wpList_push rfl _ _ 22 rfl (w.heap.size + 1) 5 i0 Try.underlying22 hi0 hy1 hy2 hy3 _ t rfl (HO.out.alloc _) wr.heap.size 1 [S[j]] rfl rfl (by decide) 5 (Blk.new _ _ _) (by omega) (by simp; omega) ?_; intro v1 w1 ho1 ht1; have HO1 := Lib.hid ho1; have HT1 := Lib.hid ht1; clear ho1 ht1)
        go_roundw
        case rel =>
          exact ⟨j + 1, t ++ [S[j]], by omega, by omega, by go_num, HO1.out, by simp; omega, HTE.out, (HRB.out.alloc _).turn HT1.out (fun hk => by have := (HO.out.lt _ hk).1; omega), (hb.alloc hb.size _).trans (HT1.out.below (by simp; omega) fun k hk => by have := (HO.out.lt k hk).1; omega)⟩
        case measure => simp [intOf]; omega
    · obtain rfl : j = S.size := by omega
      have HE := Lib.hid (show firstPart 2 l = none from by
        rw [HFP.out, HTX.out, show S.data.toList.drop S.size = [] from List.drop_eq_nil_of_le (by simp)]; rfl)
      go_wp2
      refine bodyPost_ret (v := .tuple #[.agg #[.int .i64 0, .int .i64 0, .string ⟨#[]⟩], .int .i64 0]) (by simp [results, Try.results73, go_sem, c0, c1, c2]) rfl ?_
      exact first_end S w _ _ HE.out (((hb.setCell (Nat.le_refl _) _).setCell (Nat.le_refl _) _).setCell (Nat.le_refl _) _)
end Go.Proofs.Ytcebhoilokmhdaa
