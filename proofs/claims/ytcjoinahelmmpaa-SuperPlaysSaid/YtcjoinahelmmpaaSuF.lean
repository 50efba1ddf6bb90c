/- Layer 11: the program's Bytes, and what a view tells (made by mkSuE.py). -/
import Derived.Test.YtcjoinahelmmpaaSuD
import Derived.Test.YtcjoinahelmmpaaSltD
import Derived.Test.YtcjoinahelmmpaaGetD
import Derived.Laws.Cover3
import Derived.Deep.RegionHeld3
namespace Go.Proofs.Ytcjoinahelmmpaa
open Go.RowKit
set_option linter.unusedVariables false
set_option linter.unusedSimpArgs false
set_option maxRecDepth 100000

theorem put64_sl {w : World} {v : Value} {l : List UInt8} (h : Sl w w.heap.size v l) (n : Int) (hl : l.length ≤ 140737488354000) :
    Calls Try.prog 31 #[v, .int .i64 n] w fun e w' => ∃ v, e = .returned v ∧ w'.ownsRow w.heap.size 5 1 v (l ++ fld 8 n).length (bv (l ++ fld 8 n)) ∧ Below w.heap.size w w' := by
  obtain ⟨A, cap, rfl, hr, _⟩ := h
  exact put64_any _ A cap l n w hr (Nat.le_refl _) hl
theorem rw_okU (k : Nat) (l : List UInt8) (at_ : Nat) (h : at_ + k ≤ l.length) : rw_ k l at_ 0 = (num k l at_, at_ + k, 0) := by
  unfold rw_
  rw [if_pos rfl]
  first | rw [if_pos h] | rw [if_neg (by omega)]
theorem Rdr.ltU {w : World} {p at_ er : Nat} {l : List UInt8} (h : Rdr w p l at_ er) : p < w.heap.size := by
  obtain ⟨_, _, _, hb, _⟩ := h; exact hb.lt
/-- A part of a block of bytes. -/
theorem slU {w : World} {g : Nat} {t : TypeId} {l : List UInt8} (h : Blk w g t (bv l)) (o n c : Nat) (ho : o + n ≤ l.length) (hc : n ≤ c) (hm : c ≤ maxLen) (B : Nat) (hB : g < B) : Sl w B (.slice (some ⟨g, o, none⟩) n c) ((l.drop o).take n) := by
  have hl : ((l.drop o).take n).length = n := by rw [List.length_take, List.length_drop]; omega
  refine ⟨some ⟨g, o, none⟩, c, by rw [hl], fun _ => ⟨_, rfl, rfl, hB, fun j x hj => ?_⟩, hm, (fun h => by cases h), by rw [hl]; exact hc⟩
  rw [Addr.add_mid, h.cell, bv_at]
  rw [List.getElem?_take] at hj
  split at hj
  · rw [List.getElem?_drop] at hj
    rw [hj]; rfl
  · cases hj
theorem conv_blkU {w : World} {g : Nat} {t : TypeId} {l : List UInt8} (h : Blk w g t (bv l)) (o n c : Nat) (ho : o + n ≤ l.length) (hc : n ≤ c) (hm : c ≤ maxLen) : (convert 24 9 (.slice (some ⟨g, o, none⟩) n c)).run Try.prog w = .ok (.string ⟨((l.drop o).take n).toArray⟩) w :=
  sl_conv (slU h o n c ho hc hm _ h.lt)
theorem four (n : Int) : ∃ a b c d : UInt8, fld 4 n = [a, b, c, d] := by
  have h := len_fld 4 n
  match hl : fld 4 n with
  | [a, b, c, d] => exact ⟨a, b, c, d, rfl⟩
  | [] => rw [hl] at h; simp at h
  | [_] => rw [hl] at h; simp at h
  | [_, _] => rw [hl] at h; simp at h
  | [_, _, _] => rw [hl] at h; simp at h
  | _ :: _ :: _ :: _ :: _ :: _ => rw [hl] at h; simp at h
theorem bytesU_bad (s : Sup) (h : rU s = false) (w : World) :
    Calls Try.prog 10 #[uv s] w fun e w' => e = .returned (.tuple #[.slice none 0 0, .int .i64 2]) ∧ Turn (fun _ => False) w w' := by
  have HC : Hid (∀ W, Calls Try.prog 12 #[uv s] W fun e w' => e = .returned (.int .i64 2) ∧ w' = W.alloc (ubox s)) := Lib.hid (fun W => by have := checkU s W; rw [h] at this; exact this)
  obtain ⟨g, r, t, e, l, m⟩ := s
  unfold uv ubox at *
  simp only at HC ⊢
  clear h
  go_enter Try.func10, Try.ntmps10
  go_wp2_with fail
  refine (HC.out _).mono ?_
  rintro e w' ⟨rfl, rfl⟩
  go_wp2_with fail
  go_ret2
  exact ⟨rfl, ((Turn.refl _ _).alloc _).alloc _⟩
set_option maxHeartbeats 2000000 in
theorem bytesU_ok (s : Sup) (h : rU s = true) (w : World) :
    Calls Try.prog 10 #[uv s] w fun e w' => ∃ v, e = .returned (.tuple #[v, .int .i64 0]) ∧ w'.ownsRow w.heap.size 5 1 v 128 (bv (putU s)) ∧ Below w.heap.size w w' := by
  obtain ⟨i0, hi0, hy1, hy2, hy3⟩ := info_parts Try.info5
  have HC : Hid (∀ W, Calls Try.prog 12 #[uv s] W fun e w' => e = .returned (.int .i64 0) ∧ Below W.heap.size W w') := Lib.hid (fun W => by have := checkU s W; rw [h] at this; exact this.mono (by rintro _ _ ⟨rfl, rfl⟩; exact ⟨rfl, (Below.refl _ _).alloc (Nat.le_refl _) _⟩))
  obtain ⟨a1, a2, a3, a4, a5, a6, a7, a8, a9, a10, a11, a12⟩ := rU_yes h
  have L1 := Lib.hid (len_u1 s)
  have L2 := Lib.hid (len_u2 s)
  have L3 := Lib.hid (len_u3 s)
  have L4 := Lib.hid (len_u4 s)
  have L5 := Lib.hid (len_u5 s)
  have L6 := Lib.hid (len_u6 s)
  have L7 := Lib.hid (len_u7 s)
  have L8 := Lib.hid (len_putU s)
  have HP1 : Hid (u1 s = u0 ++ fld 8 s.g) := Lib.hid rfl
  have HP2 : Hid (u2 s = u1 s ++ fld 4 (s.r + 1)) := Lib.hid rfl
  have HP3 : Hid (u3 s = u2 s ++ fld 8 s.t) := Lib.hid rfl
  have HP4 : Hid (u4 s = u3 s ++ fld 4 s.e) := Lib.hid rfl
  have HP5 : Hid (u5 s = u4 s ++ fld 8 s.l) := Lib.hid rfl
  have HP6 : Hid (u6 s = u5 s ++ fld 8 s.m) := Lib.hid rfl
  have HP7 : Hid (u7 s = u6 s ++ fld 4 (csum (u6 s) : Nat)) := Lib.hid rfl
  have HP8 : Hid (putU s = u7 s ++ List.replicate 80 0) := Lib.hid rfl
  obtain ⟨g, r, t, e, l, m⟩ := s
  unfold uv at *
  simp only at HC HP1 HP2 HP3 HP4 HP5 HP6 HP7 HP8 a1 a2 a3 a4 a5 a6 a7 a8 a9 a10 a11 a12 ⊢
  generalize u1 ⟨g, r, t, e, l, m⟩ = g1 at *
  generalize u2 ⟨g, r, t, e, l, m⟩ = g2 at *
  generalize u3 ⟨g, r, t, e, l, m⟩ = g3 at *
  generalize u4 ⟨g, r, t, e, l, m⟩ = g4 at *
  generalize u5 ⟨g, r, t, e, l, m⟩ = g5 at *
  generalize u6 ⟨g, r, t, e, l, m⟩ = g6 at *
  generalize u7 ⟨g, r, t, e, l, m⟩ = g7 at *
  generalize putU ⟨g, r, t, e, l, m⟩ = g8 at *
  have kc := fun (w : World) (C : Array Value) (n c : Nat) => Lib.run_convert_bytes_const (P := Try.prog) w 24 5 C n c Try.underlying24 Try.underlying5
  have hrw := wrap_of (r + 1) (by omega) (by omega)
  clear h
  go_enter Try.func10, Try.ntmps10
  go_wp2_with fail
  refine (HC.out _).mono ?_
  rintro e1 w1 ⟨rfl, hb⟩
  have K1 := Lib.hid ((Blk.new w 23 [.int .i64 g, .int .i64 r, .int .i64 t, .int .i64 e, .int .i64 l, .int .i64 m]).below hb (by simp))
  have C1 : Hid (Below w.heap.size w w1 ∧ w.heap.size ≤ w1.heap.size) := Lib.hid ⟨((Below.refl _ _).alloc (Nat.le_refl _) _).trans (hb.mono (by simp)), Nat.le_trans (by simp) hb.size⟩
  have Z1 : w.heap.size < w1.heap.size := by have := hb.size; simp at this; omega
  clear hb
  obtain ⟨c0, c1, c2, c3, c4, c5⟩ := (blk6 K1.out).1
  go_wp2_with fail
  refine (put64_sl (l := u0) (sl_mark w1 u0 4 _ _ rfl rfl _ (by simp) (by decide)) g (by decide)).mono ?_
  rintro e2 w2 ⟨v2, rfl, ho, hb⟩
  rw [← HP1.out] at ho
  have O2 := Lib.hid ho
  have K2 := Lib.hid ((K1.out.alloc (.cells #[.int .u8 65, .int .u8 77, .int .u8 66, .int .u8 82] 5 (4, 5))).below hb (by simp; omega))
  have C2 : Hid (Below w.heap.size w w2 ∧ w.heap.size ≤ w2.heap.size) := Lib.hid ⟨(C1.out.1.alloc C1.out.2 _).trans (hb.mono (by simp; omega)), by have := hb.size; simp at this; omega⟩
  clear ho hb c0 c1 c2 c3 c4 c5 kc

  obtain ⟨c0, c1, c2, c3, c4, c5⟩ := (blk6 K2.out).1
  go_wp2_with fail
  refine (put32_own O2.out (r + 1) (by rw [L1.out]; decide)).mono ?_
  rintro e3 w3 ⟨v3, rfl, ho, hb⟩
  rw [← HP2.out] at ho
  have O3 := Lib.hid ho
  have K3 := Lib.hid (K2.out.below hb K2.out.lt)
  have C3 := Lib.hid (chain_ C2.out.1 C2.out.2 hb)
  clear ho hb c0 c1 c2 c3 c4 c5
  obtain ⟨c0, c1, c2, c3, c4, c5⟩ := (blk6 K3.out).1
  go_wp2_with fail
  refine (put64_own O3.out t (by rw [L2.out]; decide)).mono ?_
  rintro e4 w4 ⟨v4, rfl, ho, hb⟩
  rw [← HP3.out] at ho
  have O4 := Lib.hid ho
  have K4 := Lib.hid (K3.out.below hb K3.out.lt)
  have C4 := Lib.hid (chain_ C3.out.1 C3.out.2 hb)
  clear ho hb c0 c1 c2 c3 c4 c5
  obtain ⟨c0, c1, c2, c3, c4, c5⟩ := (blk6 K4.out).1
  go_wp2_with fail
  refine (put32_own O4.out e (by rw [L3.out]; decide)).mono ?_
  rintro e5 w5 ⟨v5, rfl, ho, hb⟩
  rw [← HP4.out] at ho
  have O5 := Lib.hid ho
  have K5 := Lib.hid (K4.out.below hb K4.out.lt)
  have C5 := Lib.hid (chain_ C4.out.1 C4.out.2 hb)
  clear ho hb c0 c1 c2 c3 c4 c5
  obtain ⟨c0, c1, c2, c3, c4, c5⟩ := (blk6 K5.out).1
  go_wp2_with fail
  refine (put64_own O5.out l (by rw [L4.out]; decide)).mono ?_
  rintro e6 w6 ⟨v6, rfl, ho, hb⟩
  rw [← HP5.out] at ho
  have O6 := Lib.hid ho
  have K6 := Lib.hid (K5.out.below hb K5.out.lt)
  have C6 := Lib.hid (chain_ C5.out.1 C5.out.2 hb)
  clear ho hb c0 c1 c2 c3 c4 c5
  obtain ⟨c0, c1, c2, c3, c4, c5⟩ := (blk6 K6.out).1
  go_wp2_with fail
  refine (put64_own O6.out m (by rw [L5.out]; decide)).mono ?_
  rintro e7 w7 ⟨v7, rfl, ho, hb⟩
  rw [← HP6.out] at ho
  have O7 := Lib.hid ho
  have K7 := Lib.hid (K6.out.below hb K6.out.lt)
  have C7 := Lib.hid (chain_ C6.out.1 C6.out.2 hb)
  clear ho hb c0 c1 c2 c3 c4 c5
  go_wp2_with fail
  refine (sum_any _ g6 _ (by rw [L6.out]; decide) (Sl.of_own O7.out)).mono ?_
  rintro e8 w8 ⟨rfl, rfl⟩
  go_wp2_with fail
  refine (put32_own O7.out (csum g6 : Nat) (by rw [L6.out]; decide)).mono ?_
  rintro e9 w9 ⟨v9, rfl, ho, hb⟩
  rw [← HP7.out] at ho
  have O9 := Lib.hid (own_low5 (B' := w.heap.size) ho C7.out.2)
  have C9 := Lib.hid (chain_ C7.out.1 C7.out.2 hb)
  clear ho hb
  go_wp2_with (at_builtin; refine wpList_app_zeros_ rfl _ _ 24 3 rfl w.heap.size 5 i0 Try.underlying24 Try.underlying3 hi0 hy1 hy2 hy3 _ g7 (by rw [L7.out]; omega) 80 _ rfl rfl rfl O9.out (by rw [L7.out]; omega) C9.out.2 ?_
               intro v10 w10 ho hg
               rw [← HP8.out, L8.out] at ho
               have O10 := Lib.hid ho
               have b10 := Lib.hid (grown_below hg O9.out C9.out.2)
               clear ho hg)
  go_ret2
  exact ⟨_, rfl, O10.out, C9.out.1.trans b10.out⟩
theorem sumOf_any (v : Value) (l : List UInt8) (w : World) (hl : l.length ≤ 1000000) (hv : ∀ W, Turn (fun _ => False) w W → Sl W W.heap.size v l) :
    Calls Try.prog 64 #[v] w fun e w' => e = .returned (.agg (bv (fld 4 (csum l : Nat))).toArray) ∧ Turn (fun _ => False) w w' := by
  have HV := Lib.hid hv
  obtain ⟨A, cap, rfl, _⟩ := hv w (Turn.refl _ _)
  clear hv
  have HL := Lib.hid hl
  obtain ⟨a, b, c, d, hf⟩ := four (csum l : Nat)
  have HF := Lib.hid hf
  rw [hf]
  clear hf hl
  have ka := fun (w : World) (A : Option Addr) (c : Nat) => run_arrayAt (P := Try.prog) w 116 5 4 A 4 c Try.underlying116 (Nat.le_refl _)
  go_enter Try.func64, Try.ntmps64
  go_wp2_with fail
  refine (sum_any _ l _ (by have := HL.out; omega) (HV.out _ ((Turn.refl _ _).alloc _))).mono ?_
  rintro e8 w8 ⟨rfl, rfl⟩
  go_wp2_with fail
  refine (put32_any 0 none 0 [] (csum l : Nat) _ (Rd.nil _ _ _) (Nat.zero_le _) (by simp)).mono ?_
  rintro e9 w9 ⟨v9, rfl, ho, hb⟩
  rw [List.nil_append, HF.out] at ho
  rcases row_of_own ho with ⟨_, h0⟩ | ⟨q, cq, rfl, hq, hrow, hcm⟩
  · cases h0
  have r0 := hrow.cell (j := 0) (c := a) rfl
  have r1 := hrow.cell (j := 1) (c := b) rfl
  have r2 := hrow.cell (j := 2) (c := c) rfl
  have r3 := hrow.cell (j := 3) (c := d) rfl
  unfold u8v at r0 r1 r2 r3
  have hqs : w.heap.size < q := by simp at hq; omega
  have K1 := Lib.hid ((Blk.new w 116 [.int .u8 0, .int .u8 0, .int .u8 0, .int .u8 0]).below hb (by simp))
  have T1 : Hid (Turn (fun _ => False) w w9) := Lib.hid (((Turn.refl (fun _ => False) w).alloc _).trans (Turn.of_below hb (fun k h1 h2 => by omega)))
  have f0 := K1.out.free 0
  have f1 := K1.out.free 1
  have f2 := K1.out.free 2
  have f3 := K1.out.free 3
  have p0 := K1.out.cell 0
  have p1 := K1.out.cell 1
  have p2 := K1.out.cell 2
  have p3 := K1.out.cell 3
  simp only [List.getElem?_cons_zero, List.getElem?_cons_succ] at p0 p1 p2 p3
  have hb2 := ((((K1.out.put 0 (.int .u8 (a.toNat : Int))).put 1 (.int .u8 (b.toNat : Int))).put 2 (.int .u8 (c.toNat : Int))).put 3 (.int .u8 (d.toNat : Int)))
  have hT := ((((T1.out.setCell (p := ⟨w.heap.size, 0, none⟩) (.inr (Nat.le_refl _)) (.int .u8 (a.toNat : Int))).setCell (p := ⟨w.heap.size, 1, none⟩) (.inr (Nat.le_refl _)) (.int .u8 (b.toNat : Int))).setCell (p := ⟨w.heap.size, 2, none⟩) (.inr (Nat.le_refl _)) (.int .u8 (c.toNat : Int))).setCell (p := ⟨w.heap.size, 3, none⟩) (.inr (Nat.le_refl _)) (.int .u8 (d.toNat : Int)))
  simp only [List.set_cons_zero, List.set_cons_succ] at hb2
  have HB2 := Lib.hid hb2
  have HT2 := Lib.hid hT
  clear ho hb hrow hq hb2 hT
  go_wp2_with fail
  clear r0 r1 r2 r3 f0 f1 f2 f3 p0 p1 p2 p3 ka
  generalize ((((w9.setCell ⟨w.heap.size, 0, none⟩ (.int .u8 (a.toNat : Int))).setCell ⟨w.heap.size, 1, none⟩ (.int .u8 (b.toNat : Int))).setCell ⟨w.heap.size, 2, none⟩ (.int .u8 (c.toNat : Int))).setCell ⟨w.heap.size, 3, none⟩ (.int .u8 (d.toNat : Int))) = WF at *
  have e0 := HB2.out.cell 0
  have e1 := HB2.out.cell 1
  have e2 := HB2.out.cell 2
  have e3 := HB2.out.cell 3
  simp only [List.getElem?_cons_zero, List.getElem?_cons_succ] at e0 e1 e2 e3
  exact bodyPost_ret (v := .agg #[.int .u8 (a.toNat : Int), .int .u8 (b.toNat : Int), .int .u8 (c.toNat : Int), .int .u8 (d.toNat : Int)]) (by simp [results, Try.results64, go_sem, e0, e1, e2, e3]) rfl ⟨rfl, HT2.out⟩
theorem marked_any (l : List UInt8) (hl : l.length = 128) (w : World) :
    Calls Try.prog 39 #[.agg (bv l).toArray] w fun e w' => e = .returned (.bool (mkU l)) ∧ Turn (fun _ => False) w w' := by
  have hcv := conv_blkU (Blk.new w 87 (bv l)) 0 4 128 (by omega) (by decide) (by decide)
  obtain ⟨C, hC⟩ : ∃ C, (bv l).toArray = C := ⟨_, rfl⟩
  obtain ⟨S, hS⟩ : ∃ S : ByteArray, ⟨((l.drop 0).take 4).toArray⟩ = S := ⟨_, rfl⟩
  rw [hC, hS] at hcv
  rw [hC]
  have hs : (S.toList == [65, 77, 66, 82]) = mkU l := by
    rw [← hS, ByteArray.toList_eq]
    unfold mkU u0
    rw [Bool.eq_iff_iff]
    simp
  clear hC hS hl
  generalize mkU l = b at *
  go_enter Try.func39, Try.ntmps39
  go_wp2_with fail
  go_ret
  exact ⟨rfl, (Turn.refl _ _).alloc _⟩
theorem built_rest : Try.prog.built 119 [] = some (bv (List.replicate 80 0)).toArray := by kernel_rfl
theorem guard_rest : Try.prog.eqGuardType Try.prog.depth 119 = false := by kernel_rfl
theorem guard_sum : Try.prog.eqGuardType Try.prog.depth 116 = false := by kernel_rfl
theorem wpList_build_rest {ops : Array Oper} {rest : List Oper} {o : Oper} {a : Act} {w : World} {Q : Exit → Act → World → Prop} (hg : o.guard = none) (ho : o.op = .build 119 #[])
    (h : wpList Try.prog ops Q rest (a.put o.dst (.agg (bv (List.replicate 80 0)).toArray)) w) : wpList Try.prog ops Q (o :: rest) a w := by
  refine wpList_plain hg fun K hK => ?_
  have hb := run_build (P := Try.prog) w 119 #[] _ built_rest
  unfold Oper.wp
  simp [execOp, ho, hb, Result.andThen]
  exact hK _ _ h
theorem blank_any (l : List UInt8) (hl : l.length = 128) (w : World) :
    Calls Try.prog 41 #[.agg (bv l).toArray] w fun e w' => e = .returned (.bool (blU l)) ∧ Turn (fun _ => False) w w' := by
  have HR : Hid ((w.alloc (.cells (bv l).toArray 87)).rangeAt w.heap.size 48 (bv (l.drop 48))) := Lib.hid ((Blk.new w 87 (bv l)).range 48 _ (fun j v hv => by rw [bv_at] at hv ⊢; rw [List.getElem?_drop] at hv; exact hv))
  have HI : Hid ((Try.prog.info? 119).map (·.size) = some (bv (l.drop 48)).length) := Lib.hid (by rw [len_bv, List.length_drop, hl]; kernel_rfl)
  have hpair := fun w => eq_bytes 9998 80 119 Try.underlying119 (l.drop 48) (List.replicate 80 0) (by rw [List.length_drop, hl]) (by simp) w
  have hgd := guard_rest
  obtain ⟨X, hX⟩ : ∃ X, bv (l.drop 48) = X := ⟨_, rfl⟩
  obtain ⟨Y, hY⟩ : ∃ Y, (bv (List.replicate 80 0)).toArray = Y := ⟨_, rfl⟩
  obtain ⟨C, hC⟩ : ∃ C, (bv l).toArray = C := ⟨_, rfl⟩
  have HY := Lib.hid hY
  rw [hX] at HR HI hpair
  rw [hC] at HR ⊢
  rw [hY] at hpair
  change ∀ w, (Op.equalIn (9998 + 1 + 1) 119 (.agg X.toArray) (.agg Y)).run Try.prog w = .ok (blU l) w at hpair
  clear hX hC hY hl
  generalize blU l = b at *
  have ka := fun (w : World) (A : Option Addr) (c : Nat) => run_arrayAt (P := Try.prog) w 119 5 80 A 80 c Try.underlying119 (Nat.le_refl _)
  go_enter Try.func41, Try.ntmps41
  go_wp2_with (first
    | (refine wpList_load_mid rfl 119 _ rfl w.heap.size 48 rfl X _ HR.out Try.underlying119 rfl HI.out ?_)
    | (refine wpList_build_rest rfl rfl ?_; rw [HY.out]))
  go_ret
  exact ⟨rfl, (Turn.refl _ _).alloc _⟩
theorem superU_any (l : List UInt8) (hl : l.length = 128) (w : World) :
    Calls Try.prog 38 #[.agg (bv l).toArray] w fun e w' => e = .returned (uv (parseU l)) ∧ Turn (fun _ => False) w w' := by
  have HS : Hid (∀ W, Turn (fun _ => False) (w.alloc (.cells (bv l).toArray 87)) W → Sl W W.heap.size (.slice (some ⟨w.heap.size, 4, none⟩) 40 124) ((l.drop 4).take 40)) := Lib.hid (fun W ht => slU ((Blk.new w 87 (bv l)).turn ht (fun h => h)) 4 40 124 (by omega) (by decide) (by decide) _ (Nat.lt_of_lt_of_le (by simp) ht.size))
  obtain ⟨L, hL⟩ : ∃ L, (l.drop 4).take 40 = L := ⟨_, rfl⟩
  have HLL : L.length = 40 := by rw [← hL, List.length_take, List.length_drop]; omega
  have HP : Hid (uv (parseU l) = .agg #[.int .i64 (wrap64 (num 8 L 0 : Nat)), .int .i64 ((num 4 L 8 : Nat) - 1), .int .i64 (wrap64 (num 8 L 12 : Nat)), .int .i64 (num 4 L 20 : Nat), .int .i64 (wrap64 (num 8 L 24 : Nat)), .int .i64 (wrap64 (num 8 L 32 : Nat))]) := Lib.hid (by
    rw [← hL, num_cutU 8 l 4 40 0 (by omega), num_cutU 4 l 4 40 8 (by omega), num_cutU 8 l 4 40 12 (by omega), num_cutU 4 l 4 40 20 (by omega), num_cutU 8 l 4 40 24 (by omega), num_cutU 8 l 4 40 32 (by omega)]
    rfl)
  rw [hL] at HS
  have r1 := Lib.hid (rw_okU 8 L 0 (by omega))
  have r2 := Lib.hid (rw_okU 4 L 8 (by omega))
  have r3 := Lib.hid (rw_okU 8 L 12 (by omega))
  have r4 := Lib.hid (rw_okU 4 L 20 (by omega))
  have r5_ := Lib.hid (rw_okU 8 L 24 (by omega))
  have r6 := Lib.hid (rw_okU 8 L 32 (by omega))
  have b4 : num 4 L 8 < 4294967296 := by have := num_lt 4 L 8; simpa using this
  have HL := Lib.hid HLL
  obtain ⟨C, hC⟩ : ∃ C, (bv l).toArray = C := ⟨_, rfl⟩
  rw [hC] at HS ⊢
  rw [HP.out]
  clear hC hl hL HLL
  have hb0 : (0 : Int) ≤ (num 4 L 8 : Int) := by omega
  have hb1 : (num 4 L 8 : Int) < 4294967296 := by omega
  have HN : Hid (∀ W, Turn (fun _ => False) (w.alloc (.cells C 87)) W → Calls Try.prog 61 #[.slice (some ⟨w.heap.size, 4, none⟩) 40 124] W fun e w' => ∃ p, e = .returned (.pointer (some ⟨p, 0, none⟩)) ∧ Rdr w' p L 0 0 ∧ W.heap.size ≤ p ∧ Below W.heap.size W w') := Lib.hid (fun W ht => newReader_any _ _ L W (HS.out W ht) (Nat.le_refl _) (by have := HL.out; omega))
  clear HS
  go_enter Try.func38, Try.ntmps38
  go_wp2_with fail
  refine (HN.out _ ((Turn.refl _ _).alloc _)).mono ?_
  rintro e w1 ⟨p, rfl, hrd, hp, hb1⟩
  have RD1 := Lib.hid hrd
  have PN : Hid (w.heap.size + 1 < p) := Lib.hid (by simp at hp; omega)
  have RB1 := Lib.hid ((Blk.new_ (w.alloc (.cells C 87)) 23 [.int .i64 0, .int .i64 0, .int .i64 0, .int .i64 0, .int .i64 0, .int .i64 0] (k := w.heap.size + 1) (by simp)).below hb1 (by simp))
  have T1 : Hid (Turn (fun _ => False) w w1) := Lib.hid ((((Turn.refl (fun _ => False) w).alloc _).alloc _).trans (Turn.of_below hb1 (fun k h1 h2 => by omega)))
  clear hrd hp hb1

  go_wp2_with fail
  refine (get64_any p L 0 0 _ _ _ r1.out _ RD1.out).mono ?_
  rintro e w2 ⟨rfl, hrd, ht⟩
  have RD2 := Lib.hid hrd
  have RB2 := Lib.hid (RB1.out.turn ht (fun e => by have := PN.out; omega))
  have T2 := Lib.hid (T1.out.trans_new ht (fun k hk e => by have := PN.out; omega))
  clear hrd ht
  go_wp2_with fail
  refine (get32_any p L 8 0 _ _ _ r2.out _ RD2.out).mono ?_
  rintro e w3 ⟨rfl, hrd, ht⟩
  have RD3 := Lib.hid hrd
  have RB3 := Lib.hid (RB2.out.turn ht (fun e => by have := PN.out; omega))
  have T3 := Lib.hid (T2.out.trans_new ht (fun k hk e => by have := PN.out; omega))
  clear hrd ht
  go_wp2_with fail
  refine (get64_any p L 12 0 _ _ _ r3.out _ RD3.out).mono ?_
  rintro e w4 ⟨rfl, hrd, ht⟩
  have RD4 := Lib.hid hrd
  have RB4 := Lib.hid (RB3.out.turn ht (fun e => by have := PN.out; omega))
  have T4 := Lib.hid (T3.out.trans_new ht (fun k hk e => by have := PN.out; omega))
  clear hrd ht
  go_wp2_with fail
  refine (get32_any p L 20 0 _ _ _ r4.out _ RD4.out).mono ?_
  rintro e w5 ⟨rfl, hrd, ht⟩
  have RD5 := Lib.hid hrd
  have RB5 := Lib.hid (RB4.out.turn ht (fun e => by have := PN.out; omega))
  have T5 := Lib.hid (T4.out.trans_new ht (fun k hk e => by have := PN.out; omega))
  clear hrd ht
  go_wp2_with fail
  refine (get64_any p L 24 0 _ _ _ r5_.out _ RD5.out).mono ?_
  rintro e w6 ⟨rfl, hrd, ht⟩
  have RD6 := Lib.hid hrd
  have RB6 := Lib.hid (RB5.out.turn ht (fun e => by have := PN.out; omega))
  have T6 := Lib.hid (T5.out.trans_new ht (fun k hk e => by have := PN.out; omega))
  clear hrd ht
  go_wp2_with fail
  refine (get64_any p L 32 0 _ _ _ r6.out _ RD6.out).mono ?_
  rintro e w7 ⟨rfl, hrd, ht⟩
  have RD7 := Lib.hid hrd
  have RB7 := Lib.hid (RB6.out.turn ht (fun e => by have := PN.out; omega))
  have T7 := Lib.hid (T6.out.trans_new ht (fun k hk e => by have := PN.out; omega))
  clear hrd ht
  obtain ⟨X1, hX1⟩ : ∃ X : Int, X = wrap64 (num 8 L 0 : Nat) := ⟨_, rfl⟩
  obtain ⟨X2, hX2⟩ : ∃ X : Int, X = (num 4 L 8 : Nat) := ⟨_, rfl⟩
  obtain ⟨X3, hX3⟩ : ∃ X : Int, X = wrap64 (num 8 L 12 : Nat) := ⟨_, rfl⟩
  obtain ⟨X4, hX4⟩ : ∃ X : Int, X = (num 4 L 20 : Nat) := ⟨_, rfl⟩
  obtain ⟨X5, hX5⟩ : ∃ X : Int, X = wrap64 (num 8 L 24 : Nat) := ⟨_, rfl⟩
  obtain ⟨X6, hX6⟩ : ∃ X : Int, X = wrap64 (num 8 L 32 : Nat) := ⟨_, rfl⟩
  rw [← hX2] at hb0 hb1
  have HXE : Hid (Value.agg #[.int .i64 (wrap64 (num 8 L 0 : Nat)), .int .i64 ((num 4 L 8 : Nat) - 1), .int .i64 (wrap64 (num 8 L 12 : Nat)), .int .i64 (num 4 L 20 : Nat), .int .i64 (wrap64 (num 8 L 24 : Nat)), .int .i64 (wrap64 (num 8 L 32 : Nat))] = Value.agg #[.int .i64 X1, .int .i64 (X2 - 1), .int .i64 X3, .int .i64 X4, .int .i64 X5, .int .i64 X6]) := Lib.hid (by rw [hX1, hX2, hX3, hX4, hX5, hX6])
  rw [← hX1, ← hX2, ← hX3, ← hX4, ← hX5, ← hX6]
  have hwr := wrap_of (X2 - 1) (by omega) (by omega)
  clear hX1 hX2 hX3 hX4 hX5 hX6 b4
  obtain ⟨⟨q0, q1, q2, q3, q4, q5⟩, k0, k1_, k2, k3, k4, k5⟩ := blk6 RB7.out
  go_wp2_with fail
  rw [put6_eq]
  have hf := RB7.out.put6 (a' := .int .i64 X1) (b' := .int .i64 (X2 - 1)) (c' := .int .i64 X3) (d' := .int .i64 X4) (e' := .int .i64 X5) (f' := .int .i64 X6)
  have hT := T7.out.put6 (g := w.heap.size + 1) (.inr (Nat.le_succ _)) (.int .i64 X1) (.int .i64 (X2 - 1)) (.int .i64 X3) (.int .i64 X4) (.int .i64 X5) (.int .i64 X6)
  generalize put6 w7 (w.heap.size + 1) (.int .i64 X1) (.int .i64 (X2 - 1)) (.int .i64 X3) (.int .i64 X4) (.int .i64 X5) (.int .i64 X6) = WF at *
  clear q0 q1 q2 q3 q4 q5 k0 k1_ k2 k3 k4 k5
  obtain ⟨e0, e1, e2, e3, e4, e5⟩ := (blk6 hf).1
  exact bodyPost_ret (v := .agg #[.int .i64 X1, .int .i64 (X2 - 1), .int .i64 X3, .int .i64 X4, .int .i64 X5, .int .i64 X6]) (by simp [results, Try.results38, go_sem, e0, e1, e2, e3, e4, e5]) rfl ⟨by rw [HXE.out], hT⟩

set_option maxHeartbeats 2000000 in
theorem whole_any (l : List UInt8) (hl : l.length = 128) (w : World) :
    Calls Try.prog 40 #[.agg (bv l).toArray] w fun e w' => e = .returned (.bool (whU l)) ∧ Turn (fun _ => False) w w' := by
  obtain ⟨W0, hW0⟩ : ∃ W0, w.alloc (.cells (bv l).toArray 87) = W0 := ⟨_, rfl⟩
  have K0 : Hid (Blk W0 w.heap.size 87 (bv l)) := Lib.hid (hW0 ▸ Blk.new w 87 (bv l))
  have T0 : Hid (Turn (fun _ => False) w W0) := Lib.hid (hW0 ▸ (Turn.refl _ _).alloc _)
  have HC : Hid (∀ W, Turn (fun _ => False) W0 W → Calls Try.prog 64 #[.slice (some ⟨w.heap.size, 0, none⟩) 44 128] W fun e w' => ∃ v, e = .returned v ∧ (v = .agg (bv (fld 4 (csum (l.take 44) : Nat))).toArray ∧ Turn (fun _ => False) W w')) := Lib.hid (fun W ht => by
    have := sumOf_any (.slice (some ⟨w.heap.size, 0, none⟩) 44 128) (l.take 44) W (by rw [List.length_take]; omega) (fun W' ht' => by
      have := slU ((K0.out.turn ht (fun h => h)).turn ht' (fun h => h)) 0 44 128 (by omega) (by decide) (by decide) W'.heap.size (Nat.lt_of_lt_of_le K0.out.lt (Nat.le_trans ht.size ht'.size))
      rw [List.drop_zero] at this
      exact this)
    exact this.mono (fun e w' h => ⟨_, h.1, rfl, h.2⟩))
  obtain ⟨a, b, c, d, hf⟩ : ∃ a b c d : UInt8, (l.drop 44).take 4 = [a, b, c, d] := by
    have h := len_fld 4 (0 : Int)
    have hx : ((l.drop 44).take 4).length = 4 := by rw [List.length_take, List.length_drop]; omega
    match hl : (l.drop 44).take 4 with
    | [a, b, c, d] => exact ⟨a, b, c, d, rfl⟩
    | [] => rw [hl] at hx; simp at hx
    | [_] => rw [hl] at hx; simp at hx
    | [_, _] => rw [hl] at hx; simp at hx
    | [_, _, _] => rw [hl] at hx; simp at hx
    | _ :: _ :: _ :: _ :: _ :: _ => rw [hl] at hx; simp at hx
  have hat : ∀ j u, [a, b, c, d][j]? = some u → (bv l)[44 + j]? = some (u8v u) := fun j u hu => by
    rw [← hf, List.getElem?_take] at hu
    split at hu
    · rw [List.getElem?_drop] at hu
      rw [bv_at, hu]; rfl
    · cases hu
  have SC : Hid (∀ W, Turn (fun _ => False) W0 W → W.cell? ⟨w.heap.size, 44, none⟩ = some (.int .u8 (a.toNat : Int)) ∧ W.cell? ⟨w.heap.size, 45, none⟩ = some (.int .u8 (b.toNat : Int)) ∧ W.cell? ⟨w.heap.size, 46, none⟩ = some (.int .u8 (c.toNat : Int)) ∧ W.cell? ⟨w.heap.size, 47, none⟩ = some (.int .u8 (d.toNat : Int))) := Lib.hid (fun W ht => by
    have hb := K0.out.turn ht (fun h => h)
    exact ⟨(hb.cell 44).trans (hat 0 a rfl), (hb.cell 45).trans (hat 1 b rfl), (hb.cell 46).trans (hat 2 c rfl), (hb.cell 47).trans (hat 3 d rfl)⟩)
  have hpair := fun w => eq_bytes 9998 4 116 Try.underlying116 [a, b, c, d] (fld 4 (csum (l.take 44) : Nat)) rfl (len_fld _ _) w
  rw [show decide ([a, b, c, d] = fld 4 (csum (l.take 44) : Nat)) = whU l from by unfold whU; rw [hf]] at hpair
  have hgd := guard_sum
  obtain ⟨C, hC⟩ : ∃ C, (bv l).toArray = C := ⟨_, rfl⟩
  obtain ⟨Y, hY⟩ : ∃ Y, (bv (fld 4 (csum (l.take 44) : Nat))).toArray = Y := ⟨_, rfl⟩
  rw [hY] at hpair HC
  rw [hC] at hW0 ⊢
  change ∀ w, (Op.equalIn (9998 + 1 + 1) 116 (.agg #[.int .u8 (a.toNat : Int), .int .u8 (b.toNat : Int), .int .u8 (c.toNat : Int), .int .u8 (d.toNat : Int)]) (.agg Y)).run Try.prog w = .ok (whU l) w at hpair
  clear hC hY hl hat hf K0
  generalize whU l = bb at *
  have ka := fun (w : World) (A : Option Addr) (c : Nat) => run_arrayAt (P := Try.prog) w 116 5 4 A 4 c Try.underlying116 (Nat.le_refl _)
  go_enter Try.func40, Try.ntmps40
  go_wp2_with fail
  clear hW0
  refine wp_region_noPanic ?_
  refine wp_region_held_drew (S := fun W => W.cell? ⟨w.heap.size, 44, none⟩ = some (.int .u8 (a.toNat : Int)) ∧ W.cell? ⟨w.heap.size, 45, none⟩ = some (.int .u8 (b.toNat : Int)) ∧ W.cell? ⟨w.heap.size, 46, none⟩ = some (.int .u8 (c.toNat : Int)) ∧ W.cell? ⟨w.heap.size, 47, none⟩ = some (.int .u8 (d.toNat : Int))) (by kernel_rfl) ?_ (fun hHeld => ?_)
  · exact SC.out _ ((Turn.refl _ _).drew)
  refine wpAnyH_take (i := 0) (v := ?_) rfl (by kernel_rfl) (by kernel_rfl) (by kernel_rfl) (fun _ _ _ h => h) (Or.inl ⟨by rfl, ?_⟩) (by assumption) ?_
  rotate_left 1
  · intro w' hSw
    go_simp
    all_goals first | with_reducible rfl | (rw [if_neg (by omega)]; done) | (rw [if_neg (by omega)]; with_reducible rfl)
  try simp only [List.getElem_toArray, List.getElem_cons_zero, List.getElem_cons_succ, Act.put, List.setIfInBounds_toArray, List.set_cons_zero, List.set_cons_succ]
  refine wpAnyH_take (i := 1) (v := ?_) rfl (by kernel_rfl) (by kernel_rfl) (by kernel_rfl) (fun _ _ _ h => h) (Or.inl ⟨by rfl, ?_⟩) (by assumption) ?_
  rotate_left 1
  · intro w' hSw
    go_simp
    all_goals first | with_reducible rfl | (rw [if_neg (by omega)]; done) | (rw [if_neg (by omega)]; with_reducible rfl)
  try simp only [List.getElem_toArray, List.getElem_cons_zero, List.getElem_cons_succ, Act.put, List.setIfInBounds_toArray, List.set_cons_zero, List.set_cons_succ]
  refine wpAnyH_take (i := 2) (v := ?_) rfl (by kernel_rfl) (by kernel_rfl) (by kernel_rfl) (fun _ _ _ h => h) (Or.inl ⟨by rfl, ?_⟩) (by assumption) ?_
  rotate_left 1
  · intro w' hSw
    go_simp
    all_goals first | with_reducible rfl | (rw [if_neg (by omega)]; done) | (rw [if_neg (by omega)]; with_reducible rfl)
  try simp only [List.getElem_toArray, List.getElem_cons_zero, List.getElem_cons_succ, Act.put, List.setIfInBounds_toArray, List.set_cons_zero, List.set_cons_succ]
  refine wpAnyH_take (i := 3) (v := ?_) rfl (by kernel_rfl) (by kernel_rfl) (by kernel_rfl) (fun _ _ _ h => h) (Or.inl ⟨by rfl, ?_⟩) (by assumption) ?_
  rotate_left 1
  · intro w' hSw
    go_simp
    all_goals first | with_reducible rfl | (rw [if_neg (by omega)]; done) | (rw [if_neg (by omega)]; with_reducible rfl)
  try simp only [List.getElem_toArray, List.getElem_cons_zero, List.getElem_cons_succ, Act.put, List.setIfInBounds_toArray, List.set_cons_zero, List.set_cons_succ]
  refine wpAnyH_take (i := 4) (v := ?_) rfl (by kernel_rfl) (by kernel_rfl) (by kernel_rfl) (fun _ _ _ h => h) (Or.inl ⟨by rfl, ?_⟩) (by assumption) ?_
  rotate_left 1
  · intro w' hSw
    go_simp
    all_goals first | with_reducible rfl | (rw [if_neg (by omega)]; done) | (rw [if_neg (by omega)]; with_reducible rfl)
  try simp only [List.getElem_toArray, List.getElem_cons_zero, List.getElem_cons_succ, Act.put, List.setIfInBounds_toArray, List.set_cons_zero, List.set_cons_succ]
  refine wpAnyH_take (i := 5) (v := ?_) rfl (by kernel_rfl) (by kernel_rfl) (by kernel_rfl) (fun _ _ _ h => h) (Or.inl ⟨by rfl, ?_⟩) (by assumption) ?_
  rotate_left 1
  · intro w' hSw
    go_simp
    all_goals first | with_reducible rfl | (rw [if_neg (by omega)]; done) | (rw [if_neg (by omega)]; with_reducible rfl)
  try simp only [List.getElem_toArray, List.getElem_cons_zero, List.getElem_cons_succ, Act.put, List.setIfInBounds_toArray, List.set_cons_zero, List.set_cons_succ]
  refine wpAnyH_ready (rs := [6]) (by kernel_rfl) (by simp) ?_
  refine AllReadyH.cons rfl (fun K hK => ?_) AllReadyH.nil
  refine step_call rfl 64 Try.f64 _ _ rfl Try.func64 (by kernel_rfl) (by kernel_rfl) _ _ (HC.out _ ((Turn.refl _ _).drew)) (by go_simp) ?_
  rintro v1 w1 ⟨rfl, ht⟩
  have TT := Lib.hid (((Turn.refl (fun _ => False) W0).drew).trans ht)
  clear ht
  refine hK.out _ _ (SC.out _ TT.out) (fun hHeld => ?_)
  clear hK K
  try simp only [List.getElem_toArray, List.getElem_cons_zero, List.getElem_cons_succ, Act.put, List.setIfInBounds_toArray, List.set_cons_zero, List.set_cons_succ]
  refine wpAnyH_take (i := 7) (v := ?_) rfl (by kernel_rfl) (by kernel_rfl) (by kernel_rfl) (fun _ _ _ h => h) (Or.inl ⟨by rfl, ?_⟩) (by assumption) ?_
  rotate_left 1
  · intro w' hSw
    go_simp
    all_goals first | with_reducible rfl | (rw [if_neg (by omega)]; done) | (rw [if_neg (by omega)]; with_reducible rfl)
  try simp only [List.getElem_toArray, List.getElem_cons_zero, List.getElem_cons_succ, Act.put, List.setIfInBounds_toArray, List.set_cons_zero, List.set_cons_succ]
  refine wpAnyH_take (i := 8) (v := ?_) rfl (by kernel_rfl) (by kernel_rfl) (by kernel_rfl) (fun _ _ _ h => h) (Or.inl ⟨by rfl, ?_⟩) (by assumption) ?_
  rotate_left 1
  · intro w' hSw
    go_simp
    all_goals first | with_reducible rfl | (rw [if_neg (by omega)]; done) | (rw [if_neg (by omega)]; with_reducible rfl)
  try simp only [List.getElem_toArray, List.getElem_cons_zero, List.getElem_cons_succ, Act.put, List.setIfInBounds_toArray, List.set_cons_zero, List.set_cons_succ]
  refine wpAnyH_done (by kernel_rfl) ?_ _
  refine NoPanic.normal ?_
  go_wp2_with fail
  go_ret
  exact ⟨rfl, T0.out.trans TT.out⟩

end Go.Proofs.Ytcjoinahelmmpaa
/- Layer 11: the program's Read. -/
namespace Go.Proofs.Ytcjoinahelmmpaa
open Go.RowKit
set_option linter.unusedVariables false
set_option linter.unusedSimpArgs false
set_option maxRecDepth 100000

theorem fill_all : ∀ (l : List Value) (k : Nat) (Z : Array Value), k + l.length ≤ Z.size →
    ((l.zipIdx k).foldl (fun cs (p : Value × Nat) => cs.setIfInBounds (0 + p.2) p.1) Z).toList = Z.toList.take k ++ l ++ Z.toList.drop (k + l.length)
  | [], k, Z, h => by simp
  | c :: l, k, Z, h => by
    rw [List.zipIdx_cons, List.foldl_cons, fill_all l (k + 1) _ (by simp at h ⊢; omega)]
    simp only [List.length_cons] at h ⊢
    simp only [Nat.zero_add, Array.toList_setIfInBounds]
    rw [List.take_succ_eq_append_getElem (by simp; omega), List.getElem_set_self, List.take_set_of_le (by omega), List.drop_set_of_lt (by omega)]
    simp [show k + 1 + l.length = k + (l.length + 1) from by omega]
/-- A struct's cells, and its fields' places. -/
def built0 (P : Program) (t : TypeId) : Option (Array Value × List (Nat × Nat)) :=
  match P.info? t, P.underlying t with
  | some it, some (.struct fields) =>
    match it.zero, fields.toList.mapM (fun f => (P.info? f.type).map fun i => (f.offset, i.size)) with
    | some z, some places => some (z.cells, places)
    | _, _ => none
  | _, _ => none
theorem built_of (P : Program) (t : TypeId) (z : Array Value) (places : List (Nat × Nat)) (h : built0 P t = some (z, places)) (parts : List (Nat × Value)) : P.built t parts = Instr.fill (places.toArray[·]?) z parts := by
  unfold built0 at h
  unfold Program.built
  split at h
  · rename_i h1 h2
    rw [h1, h2]
    simp only
    split at h
    · rename_i h3 h4
      rw [h3, h4]
      injection h with h
      injection h with h5 h6
      subst h5 h6
      rfl
    · cases h
  · cases h
theorem built0_view : built0 Try.prog 87 = some ((bv zeros).toArray, [(0, 128)]) := by kernel_rfl
theorem built_view (X : Array Value) (h : X.size = 128) : Try.prog.built 87 [(0, Value.agg X)] = some X := by
  rw [built_of _ _ _ _ built0_view]
  have hz : (bv zeros).toArray.size = 128 := by simp [len_bv, zeros]
  have h0 : ([(0, 128)] : List (Nat × Nat)).toArray[0]? = some (0, 128) := rfl
  unfold Instr.fill
  simp only [h0]
  have hc : (Value.agg X).cells = X := rfl
  rw [hc, if_neg (by simp [h, hz])]
  unfold Instr.fill
  congr 1
  apply Array.ext'
  have := fill_all X.toList 0 (bv zeros).toArray (by simp [h, hz, len_bv, zeros])
  rw [← Array.foldl_toList, Array.toList_zipIdx]
  rw [show (fun (cs : Array Value) (x : Value × Nat) => match x with | (c, j) => cs.setIfInBounds (0 + j) c) = (fun cs (p : Value × Nat) => cs.setIfInBounds (0 + p.2) p.1) from rfl]
  rw [this]
  simp [len_bv, zeros, h]
theorem wpList_build_view {ops : Array Oper} {rest : List Oper} {o : Oper} {a : Act} {w : World} {Q : Exit → Act → World → Prop} (hg : o.guard = none) (x : Operand) (ho : o.op = .build 87 #[(0, x)]) (X : Array Value) (hx : a.eval x = .agg X) (hX : X.size = 128)
    (h : wpList Try.prog ops Q rest (a.put o.dst (.agg X)) w) : wpList Try.prog ops Q (o :: rest) a w := by
  refine wpList_plain hg fun K hK => ?_
  have hb := run_build (P := Try.prog) w 87 #[(0, Value.agg X)] _ (built_view X hX)
  unfold Oper.wp
  simp [execOp, ho, hx, hb, Result.andThen]
  exact hK _ _ h
theorem wpList_load_mid_on {P : Program} {ops : Array Oper} {rest : List Oper} {op : Oper} {a : Act} {w : World} {Q : Exit → Act → World → Prop} (hw : Region.wanted op (yielded ops a.tmps) = true) (ty : TypeId) (x : Operand) (ho : op.op = .load ty x)
    (b o : Nat) (hx : a.eval x = .pointer (some ⟨b, o, none⟩)) (cs : List Value) (d : TypeDesc) (hc : w.rangeAt b o cs)
    (hu : P.underlying ty = some d) (hd : d.isRow = true) (hi : (P.info? ty).map (·.size) = some cs.length)
    (h : wpList P ops Q rest (a.put op.dst (.agg cs.toArray)) w) : wpList P ops Q (op :: rest) a w :=
  wpList_step fun K hK => by
    rw [if_pos hw]
    exact wp_load_mid ty x ho b o hx cs d hc hu hd hi (hK _ _ h)
theorem wpList_store_newk {P : Program} {ops : Array Oper} {rest : List Oper} {op : Oper} {a : Act} {w : World} {Q : Exit → Act → World → Prop} (hgd : op.guard = none) (t : TypeId) (x y : Operand) (ho : op.op = .store t x y)
    (c c' : Array Value) (k : Nat) (hk : w.heap.size = k) (hx : a.eval x = .pointer (some ⟨k, 0, none⟩)) (hy : a.eval y = .agg c') (hi : (P.info? t).map (·.size) = some c'.size) (hs : c.size = c'.size) (h1 : c'.all (·.oneCell') = true)
    (h : wpList P ops Q rest (a.put op.dst undef) (w.alloc (.cells c' t))) : wpList P ops Q (op :: rest) a (w.alloc (.cells c t)) := by
  subst hk
  exact wpList_store_new hgd t x y ho c c' hx hy hi hs h1 h
theorem readU_short (A : Option Addr) (n cap : Nat) (h : n ≠ 128) (w : World) :
    Calls Try.prog 15 #[.slice A n cap] w fun e w' => e = .returned (rdU none) ∧ Turn (fun _ => False) w w' := by
  have hq : ((n : Int) == 128) = false := by simp; omega
  have hq2 : ((n : Int) != 128) = true := by simp; omega
  clear h
  go_enter Try.func15, Try.ntmps15
  go_wp2
  exact bodyPost_ret (v := .tuple #[.agg #[.int .i64 0, .int .i64 0, .int .i64 0, .int .i64 0, .int .i64 0, .int .i64 0], .int .i64 4]) (by simp [results, Try.results15, go_sem]) rfl ⟨rfl, by
    repeat (first | exact (Turn.refl _ _) | refine Turn.setCell ?_ (by simp) _ | refine Turn.alloc ?_ _)⟩
set_option maxHeartbeats 4000000 in
theorem readU_128 (v : Value) (l : List UInt8) (w : World) (hv : Sl w w.heap.size v l) (hl : l.length = 128) :
    Calls Try.prog 15 #[v] w fun e w' => e = .returned (rdU (readU l)) ∧ Turn (fun _ => False) w w' := by
  obtain ⟨A, cap, rfl, hr, hm, hnil, hle⟩ := hv
  obtain ⟨ad, rfl, hsp, hbl, hcc⟩ := hr (by omega)
  obtain ⟨b, o, sp⟩ := ad
  simp only at hsp hbl
  subst hsp
  have HR : Hid (w.rangeAt b o (bv l)) := Lib.hid (fun j u hu => by
    rw [bv_at] at hu
    cases hj : l[j]? with
    | none => rw [hj] at hu; cases hu
    | some c =>
      rw [hj] at hu
      cases hu
      have := hcc j c hj
      rw [Addr.add_mid] at this
      exact this)
  have HRA := Lib.hid (World.rangeAt_alloc HR.out (.cells #[.int .i64 0, .int .i64 0, .int .i64 0, .int .i64 0, .int .i64 0, .int .i64 0] 23))
  have HI : Hid ((Try.prog.info? 85).map (·.size) = some (bv l).length) := Lib.hid (by rw [len_bv, hl]; kernel_rfl)
  have HIV : Hid ((Try.prog.info? 87).map (·.size) = some (bv l).length) := Lib.hid (by rw [len_bv, hl]; kernel_rfl)
  have HIA : Hid ((Try.prog.info? 87).map (·.size) = some (bv l).toArray.size) := Lib.hid (by have := HIV.out; simpa using this)
  have HX : Hid ((bv l).toArray.size = 128) := Lib.hid (by simp [len_bv, hl])
  have H1 := Lib.hid (all_oneCell_toArray (one_bv l))
  obtain ⟨hz1, hz2⟩ := zero_of_info (P := Try.prog) (t := 87) (v := .agg (bv zeros).toArray) (n := 128) (by kernel_rfl)
  have HSZ : Hid ((bv zeros).toArray.size = (bv l).toArray.size) := Lib.hid (by simp [len_bv, hl, zeros])
  have ka := run_arrayAt (P := Try.prog) (w.alloc (.cells #[.int .i64 0, .int .i64 0, .int .i64 0, .int .i64 0, .int .i64 0, .int .i64 0] 23)) 85 5 128 (some ⟨b, o, none⟩) 128 cap Try.underlying85 (Nat.le_refl _)
  have MK := Lib.hid (marked_any l hl)
  have WH := Lib.hid (whole_any l hl)
  have BL := Lib.hid (blank_any l hl)
  have SU := Lib.hid (superU_any l hl)
  have HN := Lib.hid (testsU_no l hl)
  have HY := Lib.hid (testsU_yes l hl)
  have HBK := fun w : World => Blk.new w 87 (bv l)
  have CK := Lib.hid (checkU (parseU l))
  rw [hl]
  have hq : ((128 : Int) != 128) = false := by decide
  obtain ⟨Z, hZ⟩ : ∃ Z, (bv zeros).toArray = Z := ⟨_, rfl⟩
  obtain ⟨X, hX⟩ : ∃ X, bv l = X := ⟨_, rfl⟩
  rw [hZ] at hz1 HSZ
  rw [hX] at HR HRA HI HIV HIA HX H1 HSZ MK WH BL SU
  have HBK := Lib.hid (fun w : World => (hX ▸ HBK w : Blk (w.alloc (.cells X.toArray 87)) w.heap.size 87 X))
  obtain ⟨s, hs⟩ : ∃ s, parseU l = s := ⟨_, rfl⟩
  rw [hs] at SU HN HY CK
  clear hl hr hnil hcc hZ hX hz2 hs
  obtain ⟨b1, hb1⟩ : ∃ b, mkU l = b := ⟨_, rfl⟩
  obtain ⟨b2, hb2⟩ : ∃ b, whU l = b := ⟨_, rfl⟩
  obtain ⟨b3, hb3⟩ : ∃ b, blU l = b := ⟨_, rfl⟩
  obtain ⟨b4, hb4⟩ : ∃ b, rU s = b := ⟨_, rfl⟩
  obtain ⟨R, hR⟩ : ∃ R, readU l = R := ⟨_, rfl⟩
  rw [hb1] at MK HN HY
  rw [hb2] at WH HN HY
  rw [hb3] at BL HN HY
  rw [hb4] at CK HN HY
  rw [hR] at HN HY ⊢
  clear hb1 hb2 hb3 hb4 hR
  obtain ⟨g, r, t, e, lm, m⟩ := s
  unfold uv ubox at *
  simp only at SU CK
  have key : (b1 = false ∧ R = none) ∨ (b1 = true ∧ b2 = false ∧ R = none) ∨ (b1 = true ∧ b2 = true ∧ b3 = false ∧ R = none) ∨ (b1 = true ∧ b2 = true ∧ b3 = true ∧ b4 = false ∧ R = none) ∨ (b1 = true ∧ b2 = true ∧ b3 = true ∧ b4 = true ∧ R = some ⟨g, r, t, e, lm, m⟩) := by
    cases b1
    · exact .inl ⟨rfl, HN.out (.inl rfl)⟩
    cases b2
    · exact .inr (.inl ⟨rfl, rfl, HN.out (.inr (.inl rfl))⟩)
    cases b3
    · exact .inr (.inr (.inl ⟨rfl, rfl, rfl, HN.out (.inr (.inr (.inl rfl)))⟩))
    cases b4
    · exact .inr (.inr (.inr (.inl ⟨rfl, rfl, rfl, rfl, HN.out (.inr (.inr (.inr rfl)))⟩)))
    · exact .inr (.inr (.inr (.inr ⟨rfl, rfl, rfl, rfl, HY.out rfl rfl rfl rfl⟩)))
  clear HN HY
  go_enter Try.func15, Try.ntmps15
  go_upto_region 4 with (first
    | (refine wpList_load_mid rfl 85 _ rfl b o rfl X _ HRA.out Try.underlying85 rfl HI.out ?_)
    | (refine wpList_build_view rfl _ rfl X.toArray rfl HX.out ?_)
    | (refine wpList_store_newk rfl 87 _ _ rfl Z X.toArray (w.heap.size + 1) (by simp) rfl rfl HIA.out HSZ.out H1.out ?_))
  have K0 := Lib.hid ((Blk.new w 23 [.int .i64 0, .int .i64 0, .int .i64 0, .int .i64 0, .int .i64 0, .int .i64 0]).alloc (.cells X.toArray 87))
  have V0 := Lib.hid (Blk.new_ (w.alloc (.cells #[.int .i64 0, .int .i64 0, .int .i64 0, .int .i64 0, .int .i64 0, .int .i64 0] 23)) 87 X (k := w.heap.size + 1) (by simp))
  have T0 := Lib.hid (((Turn.refl (fun _ => False) w).alloc (.cells #[.int .i64 0, .int .i64 0, .int .i64 0, .int .i64 0, .int .i64 0, .int .i64 0] 23)).alloc (.cells X.toArray 87))
  have RV0 := Lib.hid (V0.out.range 0 X (fun j v hv => by rw [Nat.zero_add]; exact hv))
  clear HR HRA HI ka hz1
  go_wp2_with (refine wpList_load_mid rfl 87 _ rfl (w.heap.size + 1) 0 rfl X _ RV0.out Try.underlying87 rfl HIV.out ?_)
  refine (SU.out _).mono ?_
  rintro e1 w2 ⟨rfl, ht⟩
  have K2 := Lib.hid (K0.out.turn ht (fun h => h))
  have V2 := Lib.hid (V0.out.turn ht (fun h => h))
  have T2 := Lib.hid (T0.out.trans ht)
  have hz2 : w.heap.size + 1 < w2.heap.size := by have := V2.out.lt; omega
  clear ht K0 V0 T0 RV0
  go_upto_region 5 with fail
  have K3 := Lib.hid (K2.out.alloc (.cells #[.int .i64 g, .int .i64 r, .int .i64 t, .int .i64 e, .int .i64 lm, .int .i64 m] 23))
  have V3 := Lib.hid (V2.out.alloc (.cells #[.int .i64 g, .int .i64 r, .int .i64 t, .int .i64 e, .int .i64 lm, .int .i64 m] 23))
  have S3 := Lib.hid (Blk.new w2 23 [.int .i64 g, .int .i64 r, .int .i64 t, .int .i64 e, .int .i64 lm, .int .i64 m])
  have T3 := Lib.hid (T2.out.alloc (.cells #[.int .i64 g, .int .i64 r, .int .i64 t, .int .i64 e, .int .i64 lm, .int .i64 m] 23))
  have RV3 := Lib.hid (V3.out.range 0 X (fun j v hv => by rw [Nat.zero_add]; exact hv))
  clear K2 V2 T2
  rcases key with ⟨rfl, rfl⟩ | ⟨rfl, rfl, rfl⟩ | ⟨rfl, rfl, rfl, rfl⟩ | ⟨rfl, rfl, rfl, rfl, rfl⟩ | ⟨rfl, rfl, rfl, rfl, rfl⟩
  · go_wp2_with (first
      | (refine wpList_load_mid rfl 87 _ rfl (w.heap.size + 1) 0 rfl X _ RV3.out Try.underlying87 rfl HIV.out ?_)
      | (go_at_call 39; (with_reducible refine (MK.out _).mono ?_); rintro e4 w4 ⟨rfl, ht⟩; have K4 := Lib.hid (K3.out.turn ht (fun h => h)); have V4 := Lib.hid (V3.out.turn ht (fun h => h)); have S4 := Lib.hid (S3.out.turn ht (fun h => h)); have T4 := Lib.hid (T3.out.trans ht); have RV4 := Lib.hid (V4.out.range 0 X (fun j v hv => by rw [Nat.zero_add]; exact hv)); clear ht; obtain ⟨⟨q0, q1, q2, q3, q4, q5⟩, k0, k1_, k2, k3, k4, k5⟩ := blk6 K4.out))
    rw [put6_eq]
    have hf := K4.out.put6 (a' := .int .i64 0) (b' := .int .i64 0) (c' := .int .i64 0) (d' := .int .i64 0) (e' := .int .i64 0) (f' := .int .i64 0)
    have hT := T4.out.put6 (g := w.heap.size) (.inr (Nat.le_refl _)) (.int .i64 0) (.int .i64 0) (.int .i64 0) (.int .i64 0) (.int .i64 0) (.int .i64 0)
    generalize put6 w4 w.heap.size (.int .i64 0) (.int .i64 0) (.int .i64 0) (.int .i64 0) (.int .i64 0) (.int .i64 0) = WF at *
    clear q0 q1 q2 q3 q4 q5 k0 k1_ k2 k3 k4 k5
    obtain ⟨e0, e1, e2, e3, e4, e5⟩ := (blk6 hf).1
    exact bodyPost_ret (v := .tuple #[.agg #[.int .i64 0, .int .i64 0, .int .i64 0, .int .i64 0, .int .i64 0, .int .i64 0], .int .i64 4]) (by simp [results, Try.results15, go_sem, e0, e1, e2, e3, e4, e5]) rfl ⟨rfl, hT⟩
  · go_wp2_with (first
      | (refine wpList_load_mid rfl 87 _ rfl (w.heap.size + 1) 0 rfl X _ RV3.out Try.underlying87 rfl HIV.out ?_)
      | (go_at_call 39; (with_reducible refine (MK.out _).mono ?_); rintro e4 w4 ⟨rfl, ht⟩; have K4 := Lib.hid (K3.out.turn ht (fun h => h)); have V4 := Lib.hid (V3.out.turn ht (fun h => h)); have S4 := Lib.hid (S3.out.turn ht (fun h => h)); have T4 := Lib.hid (T3.out.trans ht); have RV4 := Lib.hid (V4.out.range 0 X (fun j v hv => by rw [Nat.zero_add]; exact hv)); clear ht)
      | (refine wpList_load_mid_on (by first | rfl | go_simp) 87 _ rfl (w.heap.size + 1) 0 rfl X _ RV4.out Try.underlying87 rfl HIV.out ?_)
      | (go_at_call 40; (with_reducible refine (WH.out _).mono ?_); rintro e5 w5 ⟨rfl, ht⟩; have K5 := Lib.hid (K4.out.turn ht (fun h => h)); have V5 := Lib.hid (V4.out.turn ht (fun h => h)); have S5 := Lib.hid (S4.out.turn ht (fun h => h)); have T5 := Lib.hid (T4.out.trans ht); have RV5 := Lib.hid (V5.out.range 0 X (fun j v hv => by rw [Nat.zero_add]; exact hv)); clear ht; obtain ⟨⟨q0, q1, q2, q3, q4, q5⟩, k0, k1_, k2, k3, k4, k5⟩ := blk6 K5.out))
    rw [put6_eq]
    have hf := K5.out.put6 (a' := .int .i64 0) (b' := .int .i64 0) (c' := .int .i64 0) (d' := .int .i64 0) (e' := .int .i64 0) (f' := .int .i64 0)
    have hT := T5.out.put6 (g := w.heap.size) (.inr (Nat.le_refl _)) (.int .i64 0) (.int .i64 0) (.int .i64 0) (.int .i64 0) (.int .i64 0) (.int .i64 0)
    generalize put6 w5 w.heap.size (.int .i64 0) (.int .i64 0) (.int .i64 0) (.int .i64 0) (.int .i64 0) (.int .i64 0) = WF at *
    clear q0 q1 q2 q3 q4 q5 k0 k1_ k2 k3 k4 k5
    obtain ⟨e0, e1, e2, e3, e4, e5⟩ := (blk6 hf).1
    exact bodyPost_ret (v := .tuple #[.agg #[.int .i64 0, .int .i64 0, .int .i64 0, .int .i64 0, .int .i64 0, .int .i64 0], .int .i64 4]) (by simp [results, Try.results15, go_sem, e0, e1, e2, e3, e4, e5]) rfl ⟨rfl, hT⟩
  · go_wp2_with (first
      | (refine wpList_load_mid rfl 87 _ rfl (w.heap.size + 1) 0 rfl X _ RV3.out Try.underlying87 rfl HIV.out ?_)
      | (go_at_call 39; (with_reducible refine (MK.out _).mono ?_); rintro e4 w4 ⟨rfl, ht⟩; have K4 := Lib.hid (K3.out.turn ht (fun h => h)); have V4 := Lib.hid (V3.out.turn ht (fun h => h)); have S4 := Lib.hid (S3.out.turn ht (fun h => h)); have T4 := Lib.hid (T3.out.trans ht); have RV4 := Lib.hid (V4.out.range 0 X (fun j v hv => by rw [Nat.zero_add]; exact hv)); clear ht)
      | (refine wpList_load_mid_on (by first | rfl | go_simp) 87 _ rfl (w.heap.size + 1) 0 rfl X _ RV4.out Try.underlying87 rfl HIV.out ?_)
      | (go_at_call 40; (with_reducible refine (WH.out _).mono ?_); rintro e5 w5 ⟨rfl, ht⟩; have K5 := Lib.hid (K4.out.turn ht (fun h => h)); have V5 := Lib.hid (V4.out.turn ht (fun h => h)); have S5 := Lib.hid (S4.out.turn ht (fun h => h)); have T5 := Lib.hid (T4.out.trans ht); have RV5 := Lib.hid (V5.out.range 0 X (fun j v hv => by rw [Nat.zero_add]; exact hv)); clear ht)
      | (refine wpList_load_mid_on (by first | rfl | go_simp) 87 _ rfl (w.heap.size + 1) 0 rfl X _ RV5.out Try.underlying87 rfl HIV.out ?_)
      | (go_at_call 41; (with_reducible refine (BL.out _).mono ?_); rintro e6 w6 ⟨rfl, ht⟩; have K6 := Lib.hid (K5.out.turn ht (fun h => h)); have V6 := Lib.hid (V5.out.turn ht (fun h => h)); have S6 := Lib.hid (S5.out.turn ht (fun h => h)); have T6 := Lib.hid (T5.out.trans ht); have RV6 := Lib.hid (V6.out.range 0 X (fun j v hv => by rw [Nat.zero_add]; exact hv)); clear ht; obtain ⟨p0, p1, p2, p3, p4, p5⟩ := (blk6 S6.out).1; obtain ⟨⟨q0, q1, q2, q3, q4, q5⟩, k0, k1_, k2, k3, k4, k5⟩ := blk6 K6.out))
    rw [put6_eq]
    have hf := K6.out.put6 (a' := .int .i64 0) (b' := .int .i64 0) (c' := .int .i64 0) (d' := .int .i64 0) (e' := .int .i64 0) (f' := .int .i64 0)
    have hT := T6.out.put6 (g := w.heap.size) (.inr (Nat.le_refl _)) (.int .i64 0) (.int .i64 0) (.int .i64 0) (.int .i64 0) (.int .i64 0) (.int .i64 0)
    generalize put6 w6 w.heap.size (.int .i64 0) (.int .i64 0) (.int .i64 0) (.int .i64 0) (.int .i64 0) (.int .i64 0) = WF at *
    clear q0 q1 q2 q3 q4 q5 k0 k1_ k2 k3 k4 k5
    obtain ⟨e0, e1, e2, e3, e4, e5⟩ := (blk6 hf).1
    exact bodyPost_ret (v := .tuple #[.agg #[.int .i64 0, .int .i64 0, .int .i64 0, .int .i64 0, .int .i64 0, .int .i64 0], .int .i64 4]) (by simp [results, Try.results15, go_sem, e0, e1, e2, e3, e4, e5]) rfl ⟨rfl, hT⟩
  · go_wp2_with (first
      | (refine wpList_load_mid rfl 87 _ rfl (w.heap.size + 1) 0 rfl X _ RV3.out Try.underlying87 rfl HIV.out ?_)
      | (go_at_call 39; (with_reducible refine (MK.out _).mono ?_); rintro e4 w4 ⟨rfl, ht⟩; have K4 := Lib.hid (K3.out.turn ht (fun h => h)); have V4 := Lib.hid (V3.out.turn ht (fun h => h)); have S4 := Lib.hid (S3.out.turn ht (fun h => h)); have T4 := Lib.hid (T3.out.trans ht); have RV4 := Lib.hid (V4.out.range 0 X (fun j v hv => by rw [Nat.zero_add]; exact hv)); clear ht)
      | (refine wpList_load_mid_on (by first | rfl | go_simp) 87 _ rfl (w.heap.size + 1) 0 rfl X _ RV4.out Try.underlying87 rfl HIV.out ?_)
      | (go_at_call 40; (with_reducible refine (WH.out _).mono ?_); rintro e5 w5 ⟨rfl, ht⟩; have K5 := Lib.hid (K4.out.turn ht (fun h => h)); have V5 := Lib.hid (V4.out.turn ht (fun h => h)); have S5 := Lib.hid (S4.out.turn ht (fun h => h)); have T5 := Lib.hid (T4.out.trans ht); have RV5 := Lib.hid (V5.out.range 0 X (fun j v hv => by rw [Nat.zero_add]; exact hv)); clear ht)
      | (refine wpList_load_mid_on (by first | rfl | go_simp) 87 _ rfl (w.heap.size + 1) 0 rfl X _ RV5.out Try.underlying87 rfl HIV.out ?_)
      | (go_at_call 41; (with_reducible refine (BL.out _).mono ?_); rintro e6 w6 ⟨rfl, ht⟩; have K6 := Lib.hid (K5.out.turn ht (fun h => h)); have V6 := Lib.hid (V5.out.turn ht (fun h => h)); have S6 := Lib.hid (S5.out.turn ht (fun h => h)); have T6 := Lib.hid (T5.out.trans ht); have RV6 := Lib.hid (V6.out.range 0 X (fun j v hv => by rw [Nat.zero_add]; exact hv)); clear ht; obtain ⟨p0, p1, p2, p3, p4, p5⟩ := (blk6 S6.out).1)
      | (go_at_call 12; (with_reducible refine (CK.out _).mono ?_); rintro e7 w7 ⟨rfl, rfl⟩; have ht := (Turn.refl (fun _ => False) w6).alloc (.cells #[.int .i64 g, .int .i64 r, .int .i64 t, .int .i64 e, .int .i64 lm, .int .i64 m] 23); have K7 := Lib.hid (K6.out.turn ht (fun h => h)); have V7 := Lib.hid (V6.out.turn ht (fun h => h)); have S7 := Lib.hid (S6.out.turn ht (fun h => h)); have T7 := Lib.hid (T6.out.trans ht); have RV7 := Lib.hid (V7.out.range 0 X (fun j v hv => by rw [Nat.zero_add]; exact hv)); clear ht; obtain ⟨⟨q0, q1, q2, q3, q4, q5⟩, k0, k1_, k2, k3, k4, k5⟩ := blk6 K7.out))
    rw [put6_eq]
    have hf := K7.out.put6 (a' := .int .i64 0) (b' := .int .i64 0) (c' := .int .i64 0) (d' := .int .i64 0) (e' := .int .i64 0) (f' := .int .i64 0)
    have hT := T7.out.put6 (g := w.heap.size) (.inr (Nat.le_refl _)) (.int .i64 0) (.int .i64 0) (.int .i64 0) (.int .i64 0) (.int .i64 0) (.int .i64 0)
    generalize put6 (w6.alloc (.cells #[.int .i64 g, .int .i64 r, .int .i64 t, .int .i64 e, .int .i64 lm, .int .i64 m] 23)) w.heap.size (.int .i64 0) (.int .i64 0) (.int .i64 0) (.int .i64 0) (.int .i64 0) (.int .i64 0) = WF at *
    clear q0 q1 q2 q3 q4 q5 k0 k1_ k2 k3 k4 k5
    obtain ⟨e0, e1, e2, e3, e4, e5⟩ := (blk6 hf).1
    exact bodyPost_ret (v := .tuple #[.agg #[.int .i64 0, .int .i64 0, .int .i64 0, .int .i64 0, .int .i64 0, .int .i64 0], .int .i64 4]) (by simp [results, Try.results15, go_sem, e0, e1, e2, e3, e4, e5]) rfl ⟨rfl, hT⟩
  · go_wp2_with (first
      | (refine wpList_load_mid rfl 87 _ rfl (w.heap.size + 1) 0 rfl X _ RV3.out Try.underlying87 rfl HIV.out ?_)
      | (go_at_call 39; (with_reducible refine (MK.out _).mono ?_); rintro e4 w4 ⟨rfl, ht⟩; have K4 := Lib.hid (K3.out.turn ht (fun h => h)); have V4 := Lib.hid (V3.out.turn ht (fun h => h)); have S4 := Lib.hid (S3.out.turn ht (fun h => h)); have T4 := Lib.hid (T3.out.trans ht); have RV4 := Lib.hid (V4.out.range 0 X (fun j v hv => by rw [Nat.zero_add]; exact hv)); clear ht)
      | (refine wpList_load_mid_on (by first | rfl | go_simp) 87 _ rfl (w.heap.size + 1) 0 rfl X _ RV4.out Try.underlying87 rfl HIV.out ?_)
      | (go_at_call 40; (with_reducible refine (WH.out _).mono ?_); rintro e5 w5 ⟨rfl, ht⟩; have K5 := Lib.hid (K4.out.turn ht (fun h => h)); have V5 := Lib.hid (V4.out.turn ht (fun h => h)); have S5 := Lib.hid (S4.out.turn ht (fun h => h)); have T5 := Lib.hid (T4.out.trans ht); have RV5 := Lib.hid (V5.out.range 0 X (fun j v hv => by rw [Nat.zero_add]; exact hv)); clear ht)
      | (refine wpList_load_mid_on (by first | rfl | go_simp) 87 _ rfl (w.heap.size + 1) 0 rfl X _ RV5.out Try.underlying87 rfl HIV.out ?_)
      | (go_at_call 41; (with_reducible refine (BL.out _).mono ?_); rintro e6 w6 ⟨rfl, ht⟩; have K6 := Lib.hid (K5.out.turn ht (fun h => h)); have V6 := Lib.hid (V5.out.turn ht (fun h => h)); have S6 := Lib.hid (S5.out.turn ht (fun h => h)); have T6 := Lib.hid (T5.out.trans ht); have RV6 := Lib.hid (V6.out.range 0 X (fun j v hv => by rw [Nat.zero_add]; exact hv)); clear ht; obtain ⟨p0, p1, p2, p3, p4, p5⟩ := (blk6 S6.out).1)
      | (go_at_call 12; (with_reducible refine (CK.out _).mono ?_); rintro e7 w7 ⟨rfl, rfl⟩; have ht := (Turn.refl (fun _ => False) w6).alloc (.cells #[.int .i64 g, .int .i64 r, .int .i64 t, .int .i64 e, .int .i64 lm, .int .i64 m] 23); have K7 := Lib.hid (K6.out.turn ht (fun h => h)); have V7 := Lib.hid (V6.out.turn ht (fun h => h)); have S7 := Lib.hid (S6.out.turn ht (fun h => h)); have T7 := Lib.hid (T6.out.trans ht); have RV7 := Lib.hid (V7.out.range 0 X (fun j v hv => by rw [Nat.zero_add]; exact hv)); clear ht; obtain ⟨⟨q0, q1, q2, q3, q4, q5⟩, k0, k1_, k2, k3, k4, k5⟩ := blk6 K7.out; (try clear p0 p1 p2 p3 p4 p5); obtain ⟨p0, p1, p2, p3, p4, p5⟩ := (blk6 S7.out).1))
    clear p0 p1 p2 p3 p4 p5
    rw [put6_eq]
    have hf := K7.out.put6 (a' := .int .i64 g) (b' := .int .i64 r) (c' := .int .i64 t) (d' := .int .i64 e) (e' := .int .i64 lm) (f' := .int .i64 m)
    have hT := T7.out.put6 (g := w.heap.size) (.inr (Nat.le_refl _)) (.int .i64 g) (.int .i64 r) (.int .i64 t) (.int .i64 e) (.int .i64 lm) (.int .i64 m)
    generalize put6 (w6.alloc (.cells #[.int .i64 g, .int .i64 r, .int .i64 t, .int .i64 e, .int .i64 lm, .int .i64 m] 23)) w.heap.size (.int .i64 g) (.int .i64 r) (.int .i64 t) (.int .i64 e) (.int .i64 lm) (.int .i64 m) = WF at *
    clear q0 q1 q2 q3 q4 q5 k0 k1_ k2 k3 k4 k5
    obtain ⟨e0, e1, e2, e3, e4, e5⟩ := (blk6 hf).1
    exact bodyPost_ret (v := .tuple #[.agg #[.int .i64 g, .int .i64 r, .int .i64 t, .int .i64 e, .int .i64 lm, .int .i64 m], .int .i64 0]) (by simp [results, Try.results15, go_sem, e0, e1, e2, e3, e4, e5]) rfl ⟨rfl, hT⟩
theorem readU_any (v : Value) (l : List UInt8) (w : World) (hv : Sl w w.heap.size v l) :
    Calls Try.prog 15 #[v] w fun e w' => e = .returned (rdU (readU l)) ∧ Turn (fun _ => False) w w' := by
  by_cases hl : l.length = 128
  · exact readU_128 v l w hv hl
  · rw [show readU l = none from by unfold readU; rw [if_neg (fun h => hl h.1)]]
    obtain ⟨A, cap, rfl, _⟩ := hv
    exact readU_short A l.length cap hl w
end Go.Proofs.Ytcjoinahelmmpaa
