/- Layer 5: the document's Bytes; fields. -/
import Derived.Test.YthhmodbggngelaaSltE
import Derived.Test.YthhmodbggngelaaGetD
namespace Go.Proofs.Ythhmodbggngelaa
open Go.RowKit
set_option linter.unusedVariables false
set_option maxRecDepth 100000

theorem num_one (l : List UInt8) (i : Nat) (h : i < l.length) : num 1 l i = (l.getD i 0).toNat := by
  have := num_succ 0 l i (by simpa using h)
  rw [num_zero] at this
  rw [this]
  simp [List.getD_eq_getElem?_getD, h]
theorem and_u8 (n : Nat) (hn : n < 256) : (∃ a : Nat, bits BinOp.and .u8 (n : Int) 1 = (a : Int) ∧ ((a : Int) != 0) = decide (n % 2 = 1)) ∧ ∃ b : Nat, bits BinOp.and .u8 (n : Int) 2 = (b : Int) ∧ ((b : Int) != 0) = decide (n / 2 % 2 = 1) := by
  have key : ∀ n : Fin 256, (bits BinOp.and .u8 (n.val : Int) 1 = ((n.val % 2 : Nat) : Int)) ∧ (bits BinOp.and .u8 (n.val : Int) 2 = ((2 * (n.val / 2 % 2) : Nat) : Int)) := by decide +kernel
  obtain ⟨h1, h2⟩ := key ⟨n, hn⟩
  refine ⟨⟨n % 2, h1, ?_⟩, ⟨2 * (n / 2 % 2), h2, ?_⟩⟩
  · rw [Bool.eq_iff_iff]; simp only [bne_iff_ne, ne_eq, decide_eq_true_eq]; omega
  · rw [Bool.eq_iff_iff]; simp only [bne_iff_ne, ne_eq, decide_eq_true_eq]; omega
theorem rw_ok (k : Nat) (l : List UInt8) (at_ : Nat) (h : at_ + k ≤ l.length) : rw_ k l at_ 0 = (num k l at_, at_ + k, 0) := by
  unfold rw_
  rw [if_pos rfl]
  first | rw [if_pos h] | rw [if_neg (by omega)]
theorem fields5_len (A : Option Addr) (n cap : Nat) (hn : n ≠ 128) (w : World) :
    Calls Try.prog 65 #[.slice A n cap] w fun e w' => e = .returned (.tuple #[.agg #[.int .i64 0, .int .i64 0, .bool false, .bool false, .string ⟨#[]⟩], .bool false]) ∧ Below w.heap.size w w' := by
  have hq : ((n : Int) == 128) = false := by simp; omega
  have hq2 : ((n : Int) != 128) = true := by simp; omega
  clear hn
  go_enter Try.func65, Try.ntmps65
  go_wp2
  exact bodyPost_ret (v := .tuple #[.agg #[.int .i64 0, .int .i64 0, .bool false, .bool false, .string ⟨#[]⟩], .bool false]) (by simp [results, Try.results65, go_sem]) rfl ⟨rfl, by
    repeat (first | exact (Below.refl _ _) | refine Below.setCell ?_ (by simp) _ | refine Below.alloc ?_ (by simp) _)⟩
theorem Rdr.lt5 {w : World} {p at_ er : Nat} {l : List UInt8} (h : Rdr w p l at_ er) : p < w.heap.size := by
  obtain ⟨_, _, _, hb, _⟩ := h; exact hb.lt
theorem Rdr.below5 {w w' : World} {B p at_ er : Nat} {l : List UInt8} (h : Rdr w p l at_ er) (hb : Below B w w') (hp : p < B) : Rdr w' p l at_ er := by
  obtain ⟨A, cap, hc, hk, hr, h1, h2⟩ := h
  exact ⟨A, cap, hc, hk.below hb hp, hr.below (hb.mono (by omega)), h1, h2⟩
theorem conv_cut5 {w : World} {A : Option Addr} {l : List UInt8} (hA : Rd w w.heap.size A l) (at_ n c : Nat) (A' : Option Addr) (h : at_ + n ≤ l.length) (hA' : 0 < n → A' = A.map (fun x => ({ block := x.block, off := x.off + at_ } : Addr))) :
    (convert 53 9 (.slice A' n c)).run Try.prog w = .ok (.string ⟨((l.drop at_).take n).toArray⟩) w := by
  have hlen : ((l.drop at_).take n).length = n := by simp; omega
  have hx : ∀ m, ((l.drop at_).take n).length = m → (convert 53 9 (.slice A' m c)).run Try.prog w = .ok (.string ⟨((l.drop at_).take n).toArray⟩) w := by
    intro m hm
    rw [← hm]
    refine run_str _ 53 9 5 _ _ _ Try.underlying53 Try.underlying5 Try.underlying9 fun hpos => ?_
    have hpos2 : 0 < n := by rw [hlen] at hpos; omega
    rw [hA' hpos2]
    obtain ⟨ad, rfl, hs, _, hc⟩ := hA (by omega)
    refine ⟨_, rfl, fun j c hj => ?_⟩
    have hj' : l[at_ + j]? = some c := by
      rw [List.getElem?_take] at hj
      split at hj
      · rwa [List.getElem?_drop] at hj
      · cases hj
    have := hc _ _ hj'
    obtain ⟨b, o, sp⟩ := ad
    simp only at hs
    subst hs
    rw [Addr.add_mid] at this ⊢
    rw [← this, Nat.add_assoc]
  exact hx n hlen
set_option maxHeartbeats 2000000 in
theorem fields5_any (v : Value) (l : List UInt8) (w : World) (hv : Sl w w.heap.size v l) (hl : l.length = 128) :
    Calls Try.prog 65 #[v] w fun e w' => e = .returned (if num 2 l 14 ≤ 108 then .tuple #[stv (parse5 l), .bool true] else .tuple #[.agg #[.int .i64 0, .int .i64 0, .bool false, .bool false, .string ⟨#[]⟩], .bool false]) ∧ Below w.heap.size w w' := by
  have HS := Lib.hid hv
  obtain ⟨A, cap, rfl, hr, hm, hnil, hle⟩ := hv
  rw [hl]
  have HR := Lib.hid hr
  have HL := Lib.hid hl
  have r1 := Lib.hid (rw_ok 1 l 0 (by omega))
  have r2 := Lib.hid (rw_ok 1 l 1 (by omega))
  have r3 := Lib.hid (rw_ok 4 l 2 (by omega))
  have r4 := Lib.hid (rw_ok 8 l 6 (by omega))
  have r5_ := Lib.hid (rw_ok 2 l 14 (by omega))
  have n1 := num_one l 1 (by omega)
  have b1 : num 1 l 1 < 256 := by have := num_lt 1 l 1; simpa using this
  have b2 : num 2 l 14 < 65536 := by have := num_lt 2 l 14; simpa using this
  have b4 : num 4 l 2 < 4294967296 := by have := num_lt 4 l 2; simpa using this
  obtain ⟨⟨ba, ha, ga⟩, ⟨bb, hb, gb⟩⟩ := and_u8 (num 1 l 1) b1
  have HP : Hid (stv (parse5 l) = .agg #[.int .i64 (num 4 l 2 : Nat), .int .i64 (wrap64 (num 8 l 6 : Nat)), .bool (decide (num 1 l 1 % 2 = 1)), .bool (decide (num 1 l 1 / 2 % 2 = 1)), .string ⟨((l.drop 16).take (num 2 l 14)).toArray⟩]) := by
    unfold stv parse5; rw [n1]; exact Lib.hid rfl
  rw [HP.out]
  generalize hRR : (if num 2 l 14 ≤ 108 then Value.tuple #[Value.agg #[.int .i64 (num 4 l 2 : Nat), .int .i64 (wrap64 (num 8 l 6 : Nat)), .bool (decide (num 1 l 1 % 2 = 1)), .bool (decide (num 1 l 1 / 2 % 2 = 1)), .string ⟨((l.drop 16).take (num 2 l 14)).toArray⟩], .bool true] else Value.tuple #[.agg #[.int .i64 0, .int .i64 0, .bool false, .bool false, .string ⟨#[]⟩], .bool false]) = R
  have RR := Lib.hid hRR.symm
  clear hRR
  have HN : Hid (∀ W, Below w.heap.size w W → w.heap.size ≤ W.heap.size → Calls Try.prog 72 #[.slice A 128 cap] W fun e w' => ∃ p, e = .returned (.pointer (some ⟨p, 0, none⟩)) ∧ Rdr w' p l 0 0 ∧ W.heap.size ≤ p ∧ Below W.heap.size W w') := Lib.hid (fun W hb hz => by
    have := newReader_any w.heap.size _ l W (HS.out.below hb (Nat.le_refl _)) hz (by omega)
    rw [hl] at this
    exact this)
  clear hr hnil n1 hl
  go_enter Try.func65, Try.ntmps65
  go_wp2_with fail
  refine (HN.out _ ((Below.refl w.heap.size w).alloc (Nat.le_refl _) _) (by simp)).mono ?_
  rintro e w1 ⟨p, rfl, hrd, hp, hb1⟩
  have RD1 := Lib.hid hrd
  have PN : Hid (w.heap.size < p) := Lib.hid (by simp at hp; omega)
  have RB1 := Lib.hid ((Blk.new w 81 [.int .i64 0, .int .i64 0, .bool false, .bool false, .string ⟨#[]⟩]).below hb1 (by simp))
  have C1 : Hid (Below w.heap.size w w1) := Lib.hid (((Below.refl w.heap.size w).alloc (Nat.le_refl _) _).trans (hb1.mono (by simp)))
  clear hrd hp hb1
  go_wp2_with fail
  refine (get8_any p l 0 0 _ _ _ r1.out _ RD1.out).mono ?_
  rintro e w2 ⟨rfl, hrd, ht⟩
  have RD2 := Lib.hid hrd
  have T2 := Lib.hid ht
  clear hrd ht
  go_wp2_with fail
  refine (get8_any p l 1 0 _ _ _ r2.out _ RD2.out).mono ?_
  rintro e w3 ⟨rfl, hrd, ht⟩
  have RD3 := Lib.hid hrd
  have T3 := Lib.hid (T2.out.trans ht)
  clear hrd ht
  go_wp2_with fail
  refine (get32_any p l 2 0 _ _ _ r3.out _ RD3.out).mono ?_
  rintro e w4 ⟨rfl, hrd, ht⟩
  have RD4 := Lib.hid hrd
  have T4 := Lib.hid (T3.out.trans ht)
  clear hrd ht
  go_wp2_with fail
  refine (get64_any p l 6 0 _ _ _ r4.out _ RD4.out).mono ?_
  rintro e w5 ⟨rfl, hrd, ht⟩
  have RD5 := Lib.hid hrd
  have T5 := Lib.hid (T4.out.trans ht)
  clear hrd ht
  go_wp2_with fail
  have a5 : Below w5.heap.size w5 (w5.alloc (.cells #[.int .i64 (num 4 l 2 : Nat), .int .i64 (wrap64 (num 8 l 6 : Nat)), .bool (decide (num 1 l 1 % 2 = 1)), .bool (decide (num 1 l 1 / 2 % 2 = 1)), .string ⟨#[]⟩] 81)) := (Below.refl _ _).alloc (Nat.le_refl _) _
  have GN : Hid (p < w5.heap.size) := Lib.hid RD5.out.lt5
  have RD5' := Lib.hid (RD5.out.below5 a5 GN.out)
  have g5 := Blk.new w5 81 [.int .i64 (num 4 l 2 : Nat), .int .i64 (wrap64 (num 8 l 6 : Nat)), .bool (decide (num 1 l 1 % 2 = 1)), .bool (decide (num 1 l 1 / 2 % 2 = 1)), .string ⟨#[]⟩]
  have G5 := Lib.hid g5
  have RB5 := Lib.hid ((RB1.out.turn T5.out (fun e => by have := PN.out; omega)).below a5 (by have := RB1.out.lt; have := T5.out.size; omega))
  have RR5 := Lib.hid (((HR.out.below C1.out).turn T5.out C1.out.size (fun k hk e => by have := PN.out; omega)).below (a5.mono (by have := C1.out.size; have := T5.out.size; omega)))
  have C5 : Hid (Below w.heap.size w (w5.alloc (.cells #[.int .i64 (num 4 l 2 : Nat), .int .i64 (wrap64 (num 8 l 6 : Nat)), .bool (decide (num 1 l 1 % 2 = 1)), .bool (decide (num 1 l 1 / 2 % 2 = 1)), .string ⟨#[]⟩] 81))) := Lib.hid ((C1.out.trans (T5.out.below C1.out.size (fun k e => by have := PN.out; omega))).trans (a5.mono (by have := C1.out.size; have := T5.out.size; omega)))
  clear a5 g5
  refine (get16_any p l 14 0 _ _ _ r5_.out _ RD5'.out).mono ?_
  rintro e w6 ⟨rfl, hrd, ht⟩
  have RD6 : Hid (Rdr w6 p l 16 0) := Lib.hid hrd
  have G6 := Lib.hid (G5.out.turn ht (fun e => by have := GN.out; omega))
  have RB6 := Lib.hid (RB5.out.turn ht (fun e => by have := PN.out; omega))
  have RR6 := Lib.hid (RR5.out.turn ht C5.out.size (fun k hk e => by have := PN.out; omega))
  have C6 := Lib.hid (C5.out.trans (ht.below C5.out.size (fun k e => by have := PN.out; omega)))
  have GW : Hid (w.heap.size < w5.heap.size) := Lib.hid (by have := PN.out; have := GN.out; omega)
  clear hrd ht
  have c0 := G6.out.cell 0
  have c1 := G6.out.cell 1
  have c2 := G6.out.cell 2
  have c3 := G6.out.cell 3
  have c4 := G6.out.cell 4
  have f4 := G6.out.free 4
  have q0 := RB6.out.cell 0
  have q1 := RB6.out.cell 1
  have q2 := RB6.out.cell 2
  have q3 := RB6.out.cell 3
  have q4 := RB6.out.cell 4
  have k0 := RB6.out.free 0
  have k1 := RB6.out.free 1
  have k2 := RB6.out.free 2
  have k3 := RB6.out.free 3
  have k4 := RB6.out.free 4
  simp only [List.getElem?_cons_zero, List.getElem?_cons_succ] at c0 c1 c2 c3 c4 q0 q1 q2 q3 q4
  by_cases hn : num 2 l 14 ≤ 108
  · have RR := Lib.hid (RR.out.trans (if_pos hn))
    have hn2 : (num 2 l 14 : Int) ≤ 108 := by omega
    have hn0 : (0 : Int) ≤ (num 2 l 14 : Int) := by omega
    have HN14 := Lib.hid hn
    have hcap : (128 : Int) ≤ (cap : Int) := by have := HL.out; omega
    generalize num 2 l 14 = nd at *
    have hcv := conv_cut5 (RR6.out.more C6.out.size) 16 nd (cap - 16) (Option.map (fun x => ({ block := x.block, off := x.off + 16 } : Addr)) A) (by have := HL.out; omega) (fun _ => rfl)
    obtain ⟨DD, hDD⟩ : ∃ DD : ByteArray, ⟨((l.drop 16).take nd).toArray⟩ = DD := ⟨_, rfl⟩
    rw [hDD] at hcv
    have RR := Lib.hid (RR.out.trans (by rw [hDD]))
    have gw : w.heap.size < w5.heap.size := GW.out
    obtain ⟨g6, hg6⟩ : ∃ g, w5.heap.size = g := ⟨_, rfl⟩
    rw [hg6] at c0 c1 c2 c3 c4 f4 gw G6 ⊢
    clear hn hDD hg6
    go_wp2_with (go_at_call 77; refine (at_any p l 16 0 _ RD6.out).mono ?_; rintro e w' ⟨rfl, rfl⟩)
    have hf := ((((((RB6.out.far (p := ⟨g6, 4, none⟩) (by simp; omega) (.string DD)).put 0 (.int .i64 (num 4 l 2 : Nat))).put 1 (.int .i64 (wrap64 (num 8 l 6 : Nat)))).put 2 (.bool (decide (num 1 l 1 % 2 = 1)))).put 3 (.bool (decide (num 1 l 1 / 2 % 2 = 1)))).put 4 (.string DD))
    simp only [List.set_cons_zero, List.set_cons_succ] at hf
    have hb := ((((((C6.out.setCell (p := ⟨g6, 4, none⟩) (by simp; omega) (.string DD)).setCell (p := ⟨w.heap.size, 0, none⟩) (Nat.le_refl _) (.int .i64 (num 4 l 2 : Nat))).setCell (p := ⟨w.heap.size, 1, none⟩) (Nat.le_refl _) (.int .i64 (wrap64 (num 8 l 6 : Nat)))).setCell (p := ⟨w.heap.size, 2, none⟩) (Nat.le_refl _) (.bool (decide (num 1 l 1 % 2 = 1)))).setCell (p := ⟨w.heap.size, 3, none⟩) (Nat.le_refl _) (.bool (decide (num 1 l 1 / 2 % 2 = 1)))).setCell (p := ⟨w.heap.size, 4, none⟩) (Nat.le_refl _) (.string DD))
    have e0 := hf.cell 0
    have e1 := hf.cell 1
    have e2 := hf.cell 2
    have e3 := hf.cell 3
    have e4 := hf.cell 4
    simp only [List.getElem?_cons_zero, List.getElem?_cons_succ] at e0 e1 e2 e3 e4
    clear q0 q1 q2 q3 q4 k0 k1 k2 k3 k4 c0 c1 c2 c3 c4 f4 hf
    generalize ((((((w6.setCell ⟨g6, 4, none⟩ (.string DD)).setCell ⟨w.heap.size, 0, none⟩ (.int .i64 (num 4 l 2 : Nat))).setCell ⟨w.heap.size, 1, none⟩ (.int .i64 (wrap64 (num 8 l 6 : Nat)))).setCell ⟨w.heap.size, 2, none⟩ (.bool (decide (num 1 l 1 % 2 = 1)))).setCell ⟨w.heap.size, 3, none⟩ (.bool (decide (num 1 l 1 / 2 % 2 = 1)))).setCell ⟨w.heap.size, 4, none⟩ (.string DD)) = WF at *
    exact bodyPost_ret (v := .tuple #[.agg #[.int .i64 (num 4 l 2 : Nat), .int .i64 (wrap64 (num 8 l 6 : Nat)), .bool (decide (num 1 l 1 % 2 = 1)), .bool (decide (num 1 l 1 / 2 % 2 = 1)), .string DD], .bool true]) (by simp [results, Try.results65, go_sem, e0, e1, e2, e3, e4]) rfl ⟨by rw [RR.out], hb⟩
  · have RR := Lib.hid (RR.out.trans (if_neg hn))
    have hn2 : (108 : Int) < (num 2 l 14 : Int) := by omega
    clear hn
    go_wp2
    exact bodyPost_ret (v := .tuple #[.agg #[.int .i64 0, .int .i64 0, .bool false, .bool false, .string ⟨#[]⟩], .bool false]) (by simp [results, Try.results65, go_sem, q0, q1, q2, q3, q4]) rfl ⟨by rw [RR.out], by
      repeat (first | exact C6.out | refine Below.setCell ?_ (by simp) _)⟩
end Go.Proofs.Ythhmodbggngelaa
