/- Layer 2: the document's answer: first. -/
import Derived.Test.YtcebhoilokmhdaaTupRefC
import Derived.Test.YtcebhoilokmhdaaTupDecB
namespace Go.Proofs.Ytcebhoilokmhdaa
open Go.RowKit
set_option linter.unusedVariables false

/-- What first answers. -/
def FOut (n : Nat) (o : Option (Pt × List UInt8)) (e : Ending) : Prop := match o with
  | none => e = .returned (.tuple #[.agg #[.int .i64 0, .int .i64 0, .string ⟨#[]⟩], .int .i64 0])
  | some (p, r) => e = .returned (.tuple #[.agg #[.int .i64 p.k, .int .i64 p.n, .string p.s], .int .i64 ((n : Int) - r.length)])
theorem byte_ne {c : UInt8} {n : Nat} (hn : n < 256) (h : c ≠ UInt8.ofNat n) : ((c.toNat : Int) == n) = false ∧ ((c.toNat : Int) != n) = true := by
  have e : ((c.toNat : Int) == n) = false := by cases h' : ((c.toNat : Int) == n) with | false => rfl | true => exact absurd ((byte_eq hn).1 h') h
  exact ⟨e, by simp only [bne, e]; rfl⟩

set_option maxRecDepth 100000 in
set_option maxHeartbeats 1000000 in
theorem first_other (S : ByteArray) (c : UInt8) (l : List UInt8) (hS : S = ⟨(c :: l).toArray⟩) (h2 : c ≠ 2) (h3 : c ≠ 3) (h4 : c ≠ 4) (w : World) :
    Calls Try.prog 73 #[.string S] w fun e w' => FOut S.size (firstPart c l) e ∧ Below w.heap.size w w' := by
  have HO := Lib.hid (show firstPart c l = none from by unfold firstPart; rw [if_neg h2, if_neg h3, if_neg h4])
  obtain ⟨b1, b2, b3, b4⟩ := ba_head S c l hS
  have hi : (0 : Int) < S.size := by omega
  have hc := b2 b1
  obtain ⟨g2, g2'⟩ : ((S[0].toNat : Int) == 2) = false ∧ ((S[0].toNat : Int) != 2) = true := by rw [hc]; exact byte_ne (n := 2) (by decide) h2
  obtain ⟨g3, g3'⟩ : ((S[0].toNat : Int) == 3) = false ∧ ((S[0].toNat : Int) != 3) = true := by rw [hc]; exact byte_ne (n := 3) (by decide) h3
  obtain ⟨g4, g4'⟩ : ((S[0].toNat : Int) == 4) = false ∧ ((S[0].toNat : Int) != 4) = true := by rw [hc]; exact byte_ne (n := 4) (by decide) h4
  clear hS b2 b3 b4 hc h2 h3 h4
  go_enter Try.func73, Try.ntmps73
  go_wp2
  refine bodyPost_ret (v := .tuple #[.agg #[.int .i64 0, .int .i64 0, .string ⟨#[]⟩], .int .i64 0]) (by simp [results, Try.results73, go_sem]) rfl ?_
  rw [HO.out]
  exact ⟨rfl, (Below.refl _ _).alloc (Nat.le_refl _) _⟩

theorem notL (n : Int) : (fld 8 n).map not8 = fld 8 (-1 - n) := by
  rw [fld8_list, fld8_list]
  show [not8 _, not8 _, not8 _, not8 _, not8 _, not8 _, not8 _, not8 _] = _
  simp only [fbyte_not _ _ (show (0:Nat) < 8 by omega), fbyte_not _ 1 (by omega), fbyte_not _ 2 (by omega), fbyte_not _ 3 (by omega), fbyte_not _ 4 (by omega), fbyte_not _ 5 (by omega), fbyte_not _ 6 (by omega), fbyte_not _ 7 (by omega)]
theorem num_fld_mod (x : Int) : (num 8 (fld 8 x) 0 : Int) = x % 18446744073709551616 := by
  have := num_fld 8 (by omega) x (fld 8 x) [] [] 0 (by simp) rfl
  rw [this]; rfl
theorem set_turned (m : List UInt8) (a : UInt8) (h : m[0]? = some a) : m.set 0 (flip8 a) = turnedL m false := by
  unfold turnedL; rw [headD_of h]; rfl
/-- The number of the bytes, turned back. -/
theorem back_up (l : List UInt8) (hl : 8 ≤ l.length) : wrap64 (num 8 (turnedL (l.take 8) false) 0 : Int) = pn 2 (num 8 l 0) := by
  have hu := num8_lt l
  have h0 : (0 : Int) ≤ num 8 l 0 := by omega
  rw [← fld_num l hl, turned_up, num_fld_mod]
  show _ = (num 8 l 0 : Int) - 9223372036854775808
  rw [show tn 2 (num 8 l 0 : Int) = (num 8 l 0 : Int) + 9223372036854775808 from rfl]
  unfold wrap64; omega
theorem back_down (l : List UInt8) (hl : 8 ≤ l.length) : wrap64 (num 8 (turnedL ((l.take 8).map not8) false) 0 : Int) = pn 3 (num 8 l 0) := by
  have hu := num8_lt l
  have h0 : (0 : Int) ≤ num 8 l 0 := by omega
  rw [← fld_num l hl, notL, turned_up, num_fld_mod]
  show _ = 9223372036854775807 - (num 8 l 0 : Int)
  rw [show tn 2 (-1 - (num 8 l 0 : Int)) = -1 - (num 8 l 0 : Int) + 9223372036854775808 from rfl]
  unfold wrap64; omega

set_option maxRecDepth 100000 in
set_option maxHeartbeats 2000000 in
theorem first_small (S : ByteArray) (c : UInt8) (l : List UInt8) (hS : S = ⟨(c :: l).toArray⟩) (k : Int) (hk : (k = 2 ∧ c = 3) ∨ (k = 3 ∧ c = 4)) (hsz : S.size ≤ 128) (hl8 : l.length < 8) (w : World) :
    Calls Try.prog 73 #[.string S] w fun e w' => FOut S.size (firstPart c l) e ∧ Below w.heap.size w w' := by
  obtain ⟨b1, b2, b3, b4⟩ := ba_head S c l hS
  have hi : (0 : Int) < S.size := by omega
  have hc := b2 b1
  have hfp : firstPart c l = numEnd k l := by
    unfold firstPart
    rcases hk with ⟨rfl, rfl⟩ | ⟨rfl, rfl⟩
    · rw [if_neg (by decide), if_pos rfl]
    · rw [if_neg (by decide), if_neg (by decide), if_pos rfl]
  have HFP := Lib.hid hfp
  clear hfp
  have HN := Lib.hid (show numEnd k l = none from if_pos hl8)
  have h9 : (S.size : Int) < 9 := by omega
  clear b2 b3 b4 hS hl8
  rcases hk with ⟨rfl, rfl⟩ | ⟨rfl, rfl⟩
  · have g3 : ((S[0].toNat : Int) == 3) = true := by rw [hc]; rfl
    have g4 : ((S[0].toNat : Int) == 4) = false := by rw [hc]; rfl
    clear hc
    go_enter Try.func73, Try.ntmps73
    go_wp2
    refine bodyPost_ret (v := .tuple #[.agg #[.int .i64 0, .int .i64 0, .string ⟨#[]⟩], .int .i64 0]) (by simp [results, Try.results73, go_sem]) rfl ?_
    rw [HFP.out, HN.out]
    exact ⟨rfl, (Below.refl _ _).alloc (Nat.le_refl _) _⟩
  · have g3 : ((S[0].toNat : Int) == 3) = false := by rw [hc]; rfl
    have g4 : ((S[0].toNat : Int) == 4) = true := by rw [hc]; rfl
    clear hc
    go_enter Try.func73, Try.ntmps73
    go_wp2
    refine bodyPost_ret (v := .tuple #[.agg #[.int .i64 0, .int .i64 0, .string ⟨#[]⟩], .int .i64 0]) (by simp [results, Try.results73, go_sem]) rfl ?_
    rw [HFP.out, HN.out]
    exact ⟨rfl, (Below.refl _ _).alloc (Nat.le_refl _) _⟩

set_option maxRecDepth 100000 in
set_option maxHeartbeats 2000000 in
theorem first_up (S : ByteArray) (c : UInt8) (l : List UInt8) (hS : S = ⟨(c :: l).toArray⟩) (hc3 : c = 3) (hl8 : ¬ l.length < 8) (hsz : S.size ≤ 128) (w : World) :
    Calls Try.prog 73 #[.string S] w fun e w' => FOut S.size (firstPart c l) e ∧ Below w.heap.size w w' := by
  obtain ⟨b1, b2, b3, b4⟩ := ba_head S c l hS
  have hi : (0 : Int) < S.size := by omega
  have hc := b2 b1
  subst hc3
  have hfp : firstPart 3 l = numEnd 2 l := by
    unfold firstPart
    rw [if_neg (by decide), if_pos rfl]
  have HFP := Lib.hid hfp
  clear hfp
  obtain ⟨N, hNN⟩ : ∃ N, pn 2 (num 8 l 0) = N := ⟨_, rfl⟩
  have hN : numEnd 2 l = some (⟨2, N, ⟨#[]⟩⟩, l.drop 8) := by rw [← hNN]; exact if_neg hl8
  have HNN := Lib.hid hNN
  clear hNN
  have HN := Lib.hid hN
  have h9 : ¬ (S.size : Int) < 9 := by omega
  have h9' : (9 : Int) ≤ S.size := by omega
  have hdl : ((l.drop 8).length : Int) = S.size - 9 := by rw [List.length_drop]; omega
  have HDL := Lib.hid hdl
  have HL8 := Lib.hid (show 8 ≤ l.length from by omega)
  have hex : (S.extract 1 9).data.toList = l.take 8 := by
    rw [hS, ByteArray.data_extract]; simp
  have hexs : (S.extract 1 9).size = 8 := by rw [ByteArray.size_extract]; omega
  obtain ⟨cap, w1, hcv, harr, hb1⟩ := arr_new (w.alloc (.cells #[.int .i64 0, .int .i64 0, .string ⟨#[]⟩] 88)) (S.extract 1 9)
  rw [hexs] at hcv
  rw [hex] at harr
  have hrb := (Blk.new w 88 [.int .i64 0, .int .i64 0, .string ⟨#[]⟩]).below hb1 (by simp)
  have hbw := ((Below.refl _ w).alloc (Nat.le_refl _) (.cells #[.int .i64 0, .int .i64 0, .string ⟨#[]⟩] 88)).trans (hb1.mono (by simp))
  obtain ⟨g, hg⟩ : ∃ g, (w.alloc (.cells #[.int .i64 0, .int .i64 0, .string ⟨#[]⟩] 88)).heap.size = g := ⟨_, rfl⟩
  have hgw : w.heap.size ≠ g ∧ w.heap.size ≤ g := by rw [← hg]; simp
  rw [hg] at harr hcv
  have hg' : w.heap.size + 1 = g := by rw [← hg]; simp
  have HARR := Lib.hid harr
  have HRB := Lib.hid hrb
  have HBW := Lib.hid hbw
  have HGW := Lib.hid hgw
  clear b2 b3 b4 hS hl8 hN hdl hex hexs harr hb1 hrb hbw hg hgw hg'
  have h8l : (l.take 8).length = 8 := by rw [List.length_take]; have := HL8.out; omega
  have H8L := Lib.hid h8l
  have HMU := Lib.hid (back_up l HL8.out)
  have HMD := Lib.hid (back_down l HL8.out)
  clear h8l
  have g3 : ((S[0].toNat : Int) == 3) = true := by rw [hc]; rfl
  have g4 : ((S[0].toNat : Int) == 4) = false := by rw [hc]; rfl
  have hw : wrap64 (wrap64 (S[0].toNat : Int) - 1) = 2 := by rw [hc]; decide +kernel
  clear hc
  go_enter Try.func73, Try.ntmps73
  go_wp2
  go_loopw [6] (fun i wr => i = .int .i64 0 ∧ ArrB wr g cap (l.take 8) ∧ Blk wr w.heap.size 88 [.int .i64 0, .int .i64 0, .string ⟨#[]⟩] ∧ Below w.heap.size w wr) (fun _ _ => 0)
  case atStart => exact ⟨rfl, HARR.out, HRB.out, HBW.out⟩
  case round =>
    obtain ⟨rfl, ha, hrb, hb⟩ := hrel
    obtain ⟨M, hM⟩ : ∃ M, l.take 8 = M := ⟨_, rfl⟩
    have hML := H8L.out
    have HMT := HMU.out
    rw [hM] at ha hML HMT
    clear hM HBW
    obtain ⟨a0, ha0⟩ : ∃ a, M[0]? = some a := ⟨_, List.getElem?_eq_getElem (by omega)⟩
    have hcl : wr.cell? ⟨g, 0, none⟩ = some (.int .u8 (a0.toNat : Int)) := ha.cell ha0
    have hfr : wr.frozen? ⟨g, 0, none⟩ = false := ha.free (by omega)
    have hlg := ha.lt
    have hput := ha.put (j := 0) (by omega) (flip8 a0)
    rw [← u8v_flip, set_turned M a0 ha0] at hput
    obtain ⟨W, hW⟩ : ∃ W, wr.setCell ⟨g, 0, none⟩ (.int .u8 (bits .xor .u8 (a0.toNat : Int) 128)) = W := ⟨_, rfl⟩
    rw [hW] at hput
    have hrbW : Blk W w.heap.size 88 [.int .i64 0, .int .i64 0, .string ⟨#[]⟩] := by rw [← hW]; exact hrb.far (p := ⟨g, 0, none⟩) HGW.out.1 _
    have hbW : Below w.heap.size w W := by rw [← hW]; exact hb.setCell HGW.out.2 _
    have hTL : (turnedL M false).length = 8 := by rw [← set_turned M a0 ha0]; simpa using hML
    obtain ⟨T, hT⟩ : ∃ T : ByteArray, T = ⟨(turnedL M false).toArray⟩ := ⟨_, rfl⟩
    have hcs := arr_str hput.drew 8 cap hTL
    rw [← hT] at hcs
    have k0 : W.cell? ⟨w.heap.size, 0, none⟩ = some (.int .i64 0) := hrbW.cell 0
    have k1 : W.cell? ⟨w.heap.size, 1, none⟩ = some (.int .i64 0) := hrbW.cell 1
    have k2 : W.cell? ⟨w.heap.size, 2, none⟩ = some (.string ⟨#[]⟩) := hrbW.cell 2
    have y0 := hrbW.free 0
    have y1 := hrbW.free 1
    have y2 := hrbW.free 2
    have hlW := hrbW.lt
    have HNB := Lib.hid (fun W => refNumber_any T (turnedL M false) hT 0 8 (by decide) (by omega) (by omega) W)
    rw [HMT, HNN.out] at HNB
    have HBW := Lib.hid hbW
    clear ha hrb hput hrbW hbW hT hTL ha0 HMT hML
    go_wp2
    try rw [hW]
    refine wp_region_still_tail 8 (by kernel_rfl) (by kernel_rfl) ?_
    simp only [List.take_succ_cons, List.take_zero, List.drop_succ_cons, List.drop_zero]
    change wpStill _ _ (World.drew _) _ _ _
    repeat still_step
    still_call ((HNB.out _).mono fun _ _ h => ⟨h.1, h.2.symm⟩)
    repeat still_step
    refine wpStill_nil ?_
    change wpList _ _ _ _ _ (World.drew _)
    go_wp2
    refine bodyPost_ret (v := .tuple #[.agg #[.int .i64 2, .int .i64 N, .string ⟨#[]⟩], .int .i64 9]) (by simp [results, Try.results73, go_sem, k0, k1, k2, hw]) rfl ?_
    rw [HFP.out, HN.out]
    refine ⟨?_, (((HBW.out.setCell (Nat.le_refl _) _).setCell (Nat.le_refl _) _).setCell (Nat.le_refl _) _).drew⟩
    show _ = Ending.returned (.tuple #[_, .int .i64 ((S.size : Int) - ((l.drop 8).length : Int))])
    rw [HDL.out, show (S.size : Int) - ((S.size : Int) - 9) = 9 from by omega]

set_option maxRecDepth 100000 in
set_option maxHeartbeats 2000000 in
theorem first_down (S : ByteArray) (c : UInt8) (l : List UInt8) (hS : S = ⟨(c :: l).toArray⟩) (hc3 : c = 4) (hl8 : ¬ l.length < 8) (hsz : S.size ≤ 128) (w : World) :
    Calls Try.prog 73 #[.string S] w fun e w' => FOut S.size (firstPart c l) e ∧ Below w.heap.size w w' := by
  obtain ⟨b1, b2, b3, b4⟩ := ba_head S c l hS
  have hi : (0 : Int) < S.size := by omega
  have hc := b2 b1
  subst hc3
  have hfp : firstPart 4 l = numEnd 3 l := by
    unfold firstPart
    rw [if_neg (by decide), if_neg (by decide), if_pos rfl]
  have HFP := Lib.hid hfp
  clear hfp
  obtain ⟨N, hNN⟩ : ∃ N, pn 3 (num 8 l 0) = N := ⟨_, rfl⟩
  have hN : numEnd 3 l = some (⟨3, N, ⟨#[]⟩⟩, l.drop 8) := by rw [← hNN]; exact if_neg hl8
  have HNN := Lib.hid hNN
  clear hNN
  have HN := Lib.hid hN
  have h9 : ¬ (S.size : Int) < 9 := by omega
  have h9' : (9 : Int) ≤ S.size := by omega
  have hdl : ((l.drop 8).length : Int) = S.size - 9 := by rw [List.length_drop]; omega
  have HDL := Lib.hid hdl
  have HL8 := Lib.hid (show 8 ≤ l.length from by omega)
  have hex : (S.extract 1 9).data.toList = l.take 8 := by
    rw [hS, ByteArray.data_extract]; simp
  have hexs : (S.extract 1 9).size = 8 := by rw [ByteArray.size_extract]; omega
  obtain ⟨cap, w1, hcv, harr, hb1⟩ := arr_new (w.alloc (.cells #[.int .i64 0, .int .i64 0, .string ⟨#[]⟩] 88)) (S.extract 1 9)
  rw [hexs] at hcv
  rw [hex] at harr
  have hrb := (Blk.new w 88 [.int .i64 0, .int .i64 0, .string ⟨#[]⟩]).below hb1 (by simp)
  have hbw := ((Below.refl _ w).alloc (Nat.le_refl _) (.cells #[.int .i64 0, .int .i64 0, .string ⟨#[]⟩] 88)).trans (hb1.mono (by simp))
  obtain ⟨g, hg⟩ : ∃ g, (w.alloc (.cells #[.int .i64 0, .int .i64 0, .string ⟨#[]⟩] 88)).heap.size = g := ⟨_, rfl⟩
  have hgw : w.heap.size ≠ g ∧ w.heap.size ≤ g := by rw [← hg]; simp
  rw [hg] at harr hcv
  have hg' : w.heap.size + 1 = g := by rw [← hg]; simp
  have HARR := Lib.hid harr
  have HRB := Lib.hid hrb
  have HBW := Lib.hid hbw
  have HGW := Lib.hid hgw
  clear b2 b3 b4 hS hl8 hN hdl hex hexs harr hb1 hrb hbw hg hgw hg'
  have h8l : (l.take 8).length = 8 := by rw [List.length_take]; have := HL8.out; omega
  have H8L := Lib.hid h8l
  have HMU := Lib.hid (back_up l HL8.out)
  have HMD := Lib.hid (back_down l HL8.out)
  clear h8l
  have g3 : ((S[0].toNat : Int) == 3) = false := by rw [hc]; rfl
  have g4 : ((S[0].toNat : Int) == 4) = true := by rw [hc]; rfl
  have hw : wrap64 (wrap64 (S[0].toNat : Int) - 1) = 3 := by rw [hc]; decide +kernel
  clear hc
  go_enter Try.func73, Try.ntmps73
  go_wp2
  go_loopw [6] (fun i wr => ∃ j : Nat, j ≤ 8 ∧ i = .int .i64 j ∧ ArrB wr g cap (((l.take 8).take j).map not8 ++ (l.take 8).drop j) ∧ Blk wr w.heap.size 88 [.int .i64 0, .int .i64 0, .string ⟨#[]⟩] ∧ Below w.heap.size w wr) (fun i _ => 8 - (intOf i).toNat)
  case atStart => exact ⟨0, by omega, rfl, HARR.out, HRB.out, HBW.out⟩
  case round =>
    obtain ⟨j, hj, rfl, ha, hrb, hb⟩ := hrel
    by_cases hlt8 : j < 8
    · obtain ⟨d, hd⟩ : ∃ d, (l.take 8)[j]? = some d := ⟨_, List.getElem?_eq_getElem (by have := H8L.out; omega)⟩
      have hcl : wr.cell? ⟨g, j, none⟩ = some (.int .u8 (d.toNat : Int)) := ha.cell (notAt _ j d hd)
      have hml : (((l.take 8).take j).map not8 ++ (l.take 8).drop j).length = 8 := by have := H8L.out; simp only [List.length_append, List.length_map, List.length_take, List.length_drop] at this ⊢; omega
      have hfr : wr.frozen? ⟨g, j, none⟩ = false := ha.free (by omega)
      have hput := ha.put (j := j) (by omega) (not8 d)
      rw [notStep _ j d hd, ← u8v_not] at hput
      have HP := Lib.hid hput
      have HRW := Lib.hid hrb
      have hd0 : (0 : Int) ≤ (d.toNat : Int) := by omega
      have hd1 : (d.toNat : Int) ≤ 255 := by have := d.toNat_lt; omega
      have hltw := ha.lt
      clear ha hput hd hml hrb
      go_wp2
      go_roundw
      case rel => exact ⟨j + 1, by omega, by go_num, HP.out, HRW.out.far (p := ⟨g, j, none⟩) HGW.out.1 _, hb.setCell HGW.out.2 _⟩
      case measure => simp [intOf]; omega
    · obtain rfl : j = 8 := by omega
      obtain ⟨M, hM⟩ : ∃ M, (l.take 8).map not8 = M := ⟨_, rfl⟩
      rw [show ((l.take 8).take 8).map not8 ++ (l.take 8).drop 8 = (l.take 8).map not8 from by rw [List.take_of_length_le (by have := H8L.out; omega), List.drop_eq_nil_of_le (by have := H8L.out; omega), List.append_nil]] at ha
      have hML : M.length = 8 := by rw [← hM, List.length_map]; exact H8L.out
      have HMT := HMD.out
      rw [hM] at ha HMT
      clear hM HBW
      obtain ⟨a0, ha0⟩ : ∃ a, M[0]? = some a := ⟨_, List.getElem?_eq_getElem (by omega)⟩
      have hcl : wr.cell? ⟨g, 0, none⟩ = some (.int .u8 (a0.toNat : Int)) := ha.cell ha0
      have hfr : wr.frozen? ⟨g, 0, none⟩ = false := ha.free (by omega)
      have hlg := ha.lt
      have hput := ha.put (j := 0) (by omega) (flip8 a0)
      rw [← u8v_flip, set_turned M a0 ha0] at hput
      obtain ⟨W, hW⟩ : ∃ W, wr.setCell ⟨g, 0, none⟩ (.int .u8 (bits .xor .u8 (a0.toNat : Int) 128)) = W := ⟨_, rfl⟩
      rw [hW] at hput
      have hrbW : Blk W w.heap.size 88 [.int .i64 0, .int .i64 0, .string ⟨#[]⟩] := by rw [← hW]; exact hrb.far (p := ⟨g, 0, none⟩) HGW.out.1 _
      have hbW : Below w.heap.size w W := by rw [← hW]; exact hb.setCell HGW.out.2 _
      have hTL : (turnedL M false).length = 8 := by rw [← set_turned M a0 ha0]; simpa using hML
      obtain ⟨T, hT⟩ : ∃ T : ByteArray, T = ⟨(turnedL M false).toArray⟩ := ⟨_, rfl⟩
      have hcs := arr_str hput.drew 8 cap hTL
      rw [← hT] at hcs
      have k0 : W.cell? ⟨w.heap.size, 0, none⟩ = some (.int .i64 0) := hrbW.cell 0
      have k1 : W.cell? ⟨w.heap.size, 1, none⟩ = some (.int .i64 0) := hrbW.cell 1
      have k2 : W.cell? ⟨w.heap.size, 2, none⟩ = some (.string ⟨#[]⟩) := hrbW.cell 2
      have y0 := hrbW.free 0
      have y1 := hrbW.free 1
      have y2 := hrbW.free 2
      have hlW := hrbW.lt
      have HNB := Lib.hid (fun W => refNumber_any T (turnedL M false) hT 0 8 (by decide) (by omega) (by omega) W)
      rw [HMT, HNN.out] at HNB
      have HBW := Lib.hid hbW
      clear ha hrb hput hrbW hbW hT hTL ha0 HMT hML
      go_wp2
      try rw [hW]
      refine wp_region_still_tail 8 (by kernel_rfl) (by kernel_rfl) ?_
      simp only [List.take_succ_cons, List.take_zero, List.drop_succ_cons, List.drop_zero]
      change wpStill _ _ (World.drew _) _ _ _
      repeat still_step
      still_call ((HNB.out _).mono fun _ _ h => ⟨h.1, h.2.symm⟩)
      repeat still_step
      refine wpStill_nil ?_
      change wpList _ _ _ _ _ (World.drew _)
      go_wp2
      refine bodyPost_ret (v := .tuple #[.agg #[.int .i64 3, .int .i64 N, .string ⟨#[]⟩], .int .i64 9]) (by simp [results, Try.results73, go_sem, k0, k1, k2, hw]) rfl ?_
      rw [HFP.out, HN.out]
      refine ⟨?_, (((HBW.out.setCell (Nat.le_refl _) _).setCell (Nat.le_refl _) _).setCell (Nat.le_refl _) _).drew⟩
      show _ = Ending.returned (.tuple #[_, .int .i64 ((S.size : Int) - ((l.drop 8).length : Int))])
      rw [HDL.out, show (S.size : Int) - ((S.size : Int) - 9) = 9 from by omega]

theorem first_num (S : ByteArray) (c : UInt8) (l : List UInt8) (hS : S = ⟨(c :: l).toArray⟩) (k : Int) (hk : (k = 2 ∧ c = 3) ∨ (k = 3 ∧ c = 4)) (hsz : S.size ≤ 128) (w : World) :
    Calls Try.prog 73 #[.string S] w fun e w' => FOut S.size (firstPart c l) e ∧ Below w.heap.size w w' := by
  by_cases hl8 : l.length < 8
  · exact first_small S c l hS k hk hsz hl8 w
  · rcases hk with ⟨rfl, hc⟩ | ⟨rfl, hc⟩
    · exact first_up S c l hS hc hl8 hsz w
    · exact first_down S c l hS hc hl8 hsz w
end Go.Proofs.Ytcebhoilokmhdaa
