/- Layer 9: New; every call of no pager. -/
import Derived.Test.YtmedljnbcpdoeaaDoorPrH
import Derived.Test.YtmedljnbcpdoeaaDoorBlkP
import Derived.BigQuiet
namespace Go.Proofs.YtmedljnbcpdoeaaDoor
open Go.RowKit
set_option linter.unusedVariables false
set_option linter.unusedSimpArgs false
set_option maxRecDepth 100000

theorem info_state9 : (Tryd.prog.info? 84).map (fun i => (i.zero, i.size, i.bytes)) = some (some (.int .i64 0), 1, 8) := by kernel_rfl
theorem make_states9 (n : Nat) (h1 : n ≤ 16384) (w : World) : (Instr.makeSlice 77 (.int .i64 n) (.int .i64 n)).run Tryd.prog w = .ok (.slice (some ⟨w.heap.size, 0, none⟩) n n) (w.alloc (.cells ((List.replicate n 0).map sv9).toArray 84)) := by
  obtain ⟨i, hi, hz, hs, hb⟩ := info_parts_ info_state9
  have := run_makeSlice (P := Tryd.prog) (w := w) 77 84 i _ Tryd.underlying77 hi hz .i64 .i64 n n (Int.natCast_nonneg _) (Int.le_refl _) (by rw [hs]; simp; omega) (by rw [hb]; omega) (by omega)
  rw [this, hs, Int.toNat_natCast, Nat.mul_one, show (Value.int .i64 0).cells = (List.replicate 1 (Value.int .i64 0)).toArray from rfl, made_same 1 _ _ (by decide)]
  simp [sv9]
theorem new9_nod {w : World} {v : Value} (h : Nod w v) (fr n : Int) :
    Calls Tryd.prog 8 #[v, .int .i64 fr, .int .i64 n] w fun r w' => r = .returned (.tuple #[.pointer none, .int .i64 1]) ∧ w' = w := by
  have HS := Lib.hid (size_nod h)
  clear h
  go_enter Tryd.func8, Tryd.ntmps8
  go_wp2_with fail
  refine HS.out.mono ?_
  rintro e w1 ⟨rfl, rfl⟩
  go_wp2_with fail
  exact bodyPost_ret (v := .tuple #[.pointer none, .int .i64 1]) (by simp [results, Tryd.results8, go_sem]) rfl ⟨rfl, rfl⟩
theorem bits9_free (n : Nat) : bits9 (List.replicate n 0) = List.replicate n true := by unfold bits9; rw [List.map_replicate]; rfl
set_option maxHeartbeats 1000000 in
theorem new9_ok {w : World} {SD : Nat → Prop} {pd : Nat} {D : Dsk} (hD : Dq SD w pd D) (h0 : ∀ k, SD k → k ≠ 0) (hT : Tb w) (fr n : Nat) (hn : 1 ≤ n) (hr : fr + 8 * n ≤ D.kept.length) :
    Calls Tryd.prog 8 #[.pointer (some ⟨pd, 0, none⟩), .int .i64 fr, .int .i64 n] w fun r w' => ∃ p S, r = .returned (.tuple #[.pointer (some ⟨p, 0, none⟩), .int .i64 0]) ∧ Pq S w' p pd fr (List.replicate n 0) D ∧ (∀ k, S k → SD k ∨ w.heap.size ≤ k) ∧ w.heap.size ≤ p ∧ Turn (fun _ => False) w w' := by
  have hkm : D.kept.length ≤ 16384 := hD.1.most
  have HSZ := Lib.hid (size_dq hD)
  have HDD := Lib.hid hD
  have H0 := Lib.hid h0
  have HT0 := hT.lt
  have HAN := Lib.hid (fun (W : World) (hW : Tb W) => new7_ok n hn (by omega) W hW)
  have HTB := Lib.hid hT
  have HMK := Lib.hid (fun W => make_states9 n (by omega) W)
  have hmk := HMK.out
  have HRO := Lib.hid hr
  obtain ⟨K, hK⟩ : ∃ K, D.kept.length = K := ⟨_, rfl⟩
  rw [hK] at HSZ hr hkm
  have z0 : ((K : Int) == 0) = false := by simp; omega
  have z1 : ¬ (fr : Int) < 0 := by omega
  have z2 := wrap_of ((K : Int) - (fr : Int)) (by omega) (by omega)
  have z3 : ¬ ((K : Int) - (fr : Int)) / 8 < (n : Int) := by omega
  have z4 : (0 : Int) ≤ (K : Int) - (fr : Int) := by omega
  clear hD h0 hT hK hmk
  go_enter Tryd.func8, Tryd.ntmps8
  go_wp2_with fail
  refine HSZ.out.mono ?_
  rintro e w1 ⟨rfl, rfl⟩
  go_wp2_with fail
  refine (HAN.out _ HTB.out).mono ?_
  rintro e w2 ⟨pa, ga, rfl, hal, hpa, hga, ht⟩
  have AL := Lib.hid hal
  have TT := Lib.hid ht
  have hz := ht.size
  have hmk2 := HMK.out w2
  have l1 := hal.ltp
  have l2 := hal.ltg
  clear hal ht
  go_wp2_with fail
  have hrow := Blk.new w2 84 ((List.replicate n 0).map sv9)
  rw [show ((List.replicate n 0).map sv9).toArray = Array.replicate n (sv9 0) by simp] at hrow
  have hbx := Blk.new (w2.alloc (.cells (Array.replicate n (sv9 0)) 84)) 81 [.pointer (some ⟨pd, 0, none⟩), .int .i64 fr, .pointer (some ⟨pa, 0, none⟩), .slice (some ⟨w2.heap.size, 0, none⟩) n n]
  rw [show (w2.alloc (.cells (Array.replicate n (sv9 0)) 84)).heap.size = w2.heap.size + 1 by simp] at hbx
  have ta := ((Turn.refl (fun _ => False) w2).alloc (.cells (Array.replicate n (sv9 0)) 84)).alloc (.cells #[.pointer (some ⟨pd, 0, none⟩), .int .i64 fr, .pointer (some ⟨pa, 0, none⟩), .slice (some ⟨w2.heap.size, 0, none⟩) n n] 81)
  have hlt := HDD.out.lt
  refine bodyPost_ret (v := .tuple #[.pointer (some ⟨w2.heap.size + 1, 0, none⟩), .int .i64 0]) (by simp [results, Tryd.results8, go_sem]) rfl ⟨w2.heap.size + 1, Pown (w2.heap.size + 1) pa ga w2.heap.size SD, rfl, ⟨pa, ga, w2.heap.size, SD, ⟨?_, hrow.alloc _, by rw [bits9_free]; exact AL.out.still ta, by rw [len_bits9], by omega, by omega, by omega, by omega, by omega, by omega, by omega⟩, HDD.out.still (TT.out.trans ta), fun k hk => ?_, rfl, by rw [List.length_replicate]; exact HRO.out⟩, fun k hk => ?_, by omega, TT.out.trans ta⟩
  · rw [List.length_replicate]; exact hbx
  · have h5 := hlt k hk
    exact ⟨by omega, by omega, by omega, by omega, H0.out k hk⟩
  · rcases hk with h | h | h | h | h
    · exact .inr (by omega)
    · exact .inr (by omega)
    · exact .inr (by omega)
    · exact .inr (by omega)
    · exact .inl h
/-- Every call of no pager. -/
theorem write9_no {w : World} {v : Value} (h : Nop w v) (b : Value) :
    Calls Tryd.prog 27 #[v, b] w fun r w' => r = .returned (.tuple #[.int .i64 0, .int .i64 1]) ∧ w' = w := by
  have HM := Lib.hid (made9_no h)
  clear h
  go_enter Tryd.func27, Tryd.ntmps27
  go_wp2_with fail
  refine HM.out.mono ?_
  rintro e w1 ⟨rfl, rfl⟩
  go_wp2_with fail
  exact bodyPost_ret (v := .tuple #[.int .i64 0, .int .i64 1]) (by simp [results, Tryd.results27, go_sem]) rfl ⟨rfl, rfl⟩
theorem read9_no {w : World} {v : Value} (h : Nop w v) (i : Int) :
    Calls Tryd.prog 21 #[v, .int .i64 i] w fun r w' => r = .returned (.tuple #[.slice none 0 0, .int .i64 1]) ∧ w' = w := by
  have HM := Lib.hid (made9_no h)
  clear h
  go_enter Tryd.func21, Tryd.ntmps21
  go_wp2_with fail
  refine HM.out.mono ?_
  rintro e w1 ⟨rfl, rfl⟩
  go_wp2_with fail
  exact bodyPost_ret (v := .tuple #[.slice none 0 0, .int .i64 1]) (by simp [results, Tryd.results21, go_sem]) rfl ⟨rfl, rfl⟩
theorem pages9_no {w : World} {v : Value} (h : Nop w v) :
    Calls Tryd.prog 30 #[v] w fun r w' => r = .returned (.tuple #[.slice none 0 0, .slice none 0 0, .slice none 0 0]) ∧ w' = w := by
  have HM := Lib.hid (made9_no h)
  clear h
  go_enter Tryd.func30, Tryd.ntmps30
  go_wp2_with fail
  refine HM.out.mono ?_
  rintro e w1 ⟨rfl, rfl⟩
  go_wp2_with fail
  exact bodyPost_ret (v := .tuple #[.slice none 0 0, .slice none 0 0, .slice none 0 0]) (by simp [results, Tryd.results30, go_sem]) rfl ⟨rfl, rfl⟩
theorem rewrite9_no {w : World} {v : Value} (h : Nop w v) (i : Int) (b : Value) :
    Calls Tryd.prog 11 #[v, .int .i64 i, b] w fun r w' => r = .returned (.int .i64 1) ∧ w' = w := by
  have HM := Lib.hid (made9_no h)
  clear h
  go_enter Tryd.func11, Tryd.ntmps11
  go_wp2_with fail
  refine HM.out.mono ?_
  rintro e w1 ⟨rfl, rfl⟩
  go_wp2_with fail
  go_ret
  exact ⟨rfl, rfl⟩
theorem release9_no {w : World} {v : Value} (h : Nop w v) (i : Int) :
    Calls Tryd.prog 13 #[v, .int .i64 i] w fun r w' => r = .returned (.int .i64 1) ∧ w' = w := by
  have HM := Lib.hid (made9_no h)
  clear h
  go_enter Tryd.func13, Tryd.ntmps13
  go_wp2_with fail
  refine HM.out.mono ?_
  rintro e w1 ⟨rfl, rfl⟩
  go_wp2_with fail
  go_ret
  exact ⟨rfl, rfl⟩
theorem settle9_no {w : World} {v : Value} (h : Nop w v) :
    Calls Tryd.prog 15 #[v] w fun r w' => r = .returned (.int .i64 1) ∧ w' = w := by
  have HM := Lib.hid (made9_no h)
  clear h
  go_enter Tryd.func15, Tryd.ntmps15
  go_wp2_with fail
  refine HM.out.mono ?_
  rintro e w1 ⟨rfl, rfl⟩
  go_wp2_with fail
  go_ret
  exact ⟨rfl, rfl⟩
theorem undo9_no {w : World} {v : Value} (h : Nop w v) :
    Calls Tryd.prog 17 #[v] w fun r w' => r = .returned (.int .i64 1) ∧ w' = w := by
  have HM := Lib.hid (made9_no h)
  clear h
  go_enter Tryd.func17, Tryd.ntmps17
  go_wp2_with fail
  refine HM.out.mono ?_
  rintro e w1 ⟨rfl, rfl⟩
  go_wp2_with fail
  go_ret
  exact ⟨rfl, rfl⟩
theorem keep9_no {w : World} {v : Value} (h : Nop w v) (b : Value) :
    Calls Tryd.prog 19 #[v, b] w fun r w' => r = .returned (.int .i64 1) ∧ w' = w := by
  have HM := Lib.hid (made9_no h)
  clear h
  go_enter Tryd.func19, Tryd.ntmps19
  go_wp2_with fail
  refine HM.out.mono ?_
  rintro e w1 ⟨rfl, rfl⟩
  go_wp2_with fail
  go_ret
  exact ⟨rfl, rfl⟩
theorem free9_no {w : World} {v : Value} (h : Nop w v) :
    Calls Tryd.prog 58 #[v] w fun r w' => r = .returned (.int .i64 0) ∧ w' = w := by
  have HM := Lib.hid (made9_no h)
  clear h
  go_enter Tryd.func58, Tryd.ntmps58
  go_wp2_with fail
  refine HM.out.mono ?_
  rintro e w1 ⟨rfl, rfl⟩
  go_wp2_with fail
  go_ret
  exact ⟨rfl, rfl⟩
end Go.Proofs.YtmedljnbcpdoeaaDoor
/- Layer 9: rows that are the same; a disk that is well; what is written then. -/
namespace Go.Proofs.YtmedljnbcpdoeaaDoor
open Go.RowKit
set_option linter.unusedVariables false
set_option linter.unusedSimpArgs false
set_option maxRecDepth 100000

/-- Numbers that a slice holds. -/
def Ir (w : World) (A : Option Addr) (L : List Int) : Prop := ∀ j z, L[j]? = some z → ∃ b, A = some ⟨b, 0, none⟩ ∧ b < w.heap.size ∧ w.cell? ⟨b, j, none⟩ = some (.int .i64 z)
theorem Ir.still {w w' : World} {A : Option Addr} {L : List Int} (h : Ir w A L) (ht : Turn (fun _ => False) w w') : Ir w' A L := fun j z hj => by
  obtain ⟨b, h1, h2, h3⟩ := h j z hj
  exact ⟨b, h1, Nat.lt_of_lt_of_le h2 ht.size, (World.cell?_of_block (w := w) (a := ⟨b, j, none⟩) (ht.block b h2 (fun h => h))).trans h3⟩
theorem Rw9.ir {B : Nat} {w : World} {L : List Int} {v : Value} (h : Rw9 B w v L) : ∃ A c, v = .slice A L.length c ∧ Ir w A L := by
  obtain ⟨A, c, rfl⟩ := own_slice9 h
  exact ⟨A, c, rfl, fun j z hj => by
    obtain ⟨g, h1, _, h3, h4⟩ := own_at9 h j (.int .i64 z) (by rw [List.getElem?_map, hj]; rfl)
    exact ⟨g, h1, h3, h4⟩⟩
theorem ir_blk {w : World} {g t : Nat} {L : List Int} (h : Blk w g t (L.map (Value.int .i64))) : Ir w (some ⟨g, 0, none⟩) L := fun j z hj => ⟨g, rfl, h.lt, by rw [h.cell j, List.getElem?_map, hj]; rfl⟩
set_option maxHeartbeats 1000000 in
theorem same9_any (A1 : Option Addr) (c1 : Nat) (A2 : Option Addr) (c2 : Nat) (L : List Int) (w : World) (h1 : Ir w A1 L) (h2 : Ir w A2 L) (hl : L.length ≤ 1000000) :
    Calls Tryd.prog 31 #[.slice A1 L.length c1, .slice A2 L.length c2] w fun r w' => r = .returned (.bool true) ∧ Turn (fun _ => False) w w' := by
  have H1 := Lib.hid h1
  have H2 := Lib.hid h2
  have HW := Lib.hid (Turn.refl (fun _ => False) w)
  clear h1 h2
  obtain ⟨n, hn⟩ : ∃ n, L.length = n := ⟨_, rfl⟩
  have HN := Lib.hid hn
  rw [hn] at hl ⊢
  clear hn
  have hnn : ((n : Int) == (n : Int)) = true := by simp
  go_enter Tryd.func31, Tryd.ntmps31
  go_wp2_with fail
  go_loopw [5] (fun v5 wr => ∃ j : Nat, j ≤ n ∧ v5 = .int .i64 j ∧ Turn (fun _ => False) w wr) (fun v5 _ => n - (intOf v5).toNat)
  case atStart => exact ⟨0, Nat.zero_le _, rfl, HW.out⟩
  case round =>
    obtain ⟨j, hj, rfl, ht⟩ := hrel
    have TT := Lib.hid ht
    clear ht
    by_cases hlt : j < n
    · have hl1 : (j : Int) < (n : Int) := by omega
      have hl0 : (0 : Int) ≤ (j : Int) := by omega
      have hq := wrap_of ((j : Int) + 1) (by omega) (by omega)
      have hjL : j < L.length := by rw [HN.out]; exact hlt
      obtain ⟨z, hz⟩ : ∃ z, L[j]? = some z := ⟨_, List.getElem?_eq_getElem hjL⟩
      obtain ⟨b1, rfl, _, x1⟩ := (H1.out.still TT.out) j z hz
      obtain ⟨b2, rfl, _, x2⟩ := (H2.out.still TT.out) j z hz
      have hzz : (z == z) = true := by simp
      clear hz hjL
      go_wp2_with fail
      go_quiet (fail)
      go_wp2_with fail
      go_roundw
      case rel => exact ⟨j + 1, by omega, by simp [hq], TT.out.drewN _⟩
      case measure => simp [intOf, hq]; omega
    · obtain rfl : j = n := by omega
      go_wp2_with fail
      go_ret
      exact ⟨rfl, TT.out⟩
theorem ba_mark {S : Nat → Prop} (w : World) (hS : ∀ k, S k → k < w.heap.size) (l : List UInt8) (n : Nat) (C : Array Value) (fr : Nat × Nat) (hC : C = (bv l).toArray) (hn : l.length = n) (hm : n ≤ 1000000) :
    Ba S (w.alloc (.cells C 5 fr)) (some ⟨w.heap.size, 0, none⟩) n l := by
  subst hn hC
  refine ⟨Nat.le_refl _, by unfold maxLen; omega, (fun h => by cases h), fun ad e hp => ?_⟩
  injection e with e
  subst e
  refine ⟨by simp, fun h => absurd (hS _ h) (by simp), fun j c hj => ?_⟩
  rw [Addr.add_mid, Nat.zero_add, World.cell?_alloc_mark]
  rw [List.getElem?_toArray, bv_at, hj]; rfl
/-- A disk that takes all writes. -/
def Good (D : Dsk) : Prop := D.dead = false ∧ D.fuse = -1
theorem write_good {D : Dsk} (h : Good D) (i : Nat) (hi : i < D.kept.length) (l : List UInt8) (hl : l.length ≤ 128) : D.write (i : Int) l = (D.wrote i l, 0) := by
  obtain ⟨h1, h2⟩ := h
  unfold Dsk.write
  rw [h1, h2, if_neg (by decide), if_neg (by omega), if_neg (by omega), if_neg (by decide), Int.toNat_natCast]
theorem wrote_good {D : Dsk} (h : Good D) (i : Nat) (l : List UInt8) : Good (D.wrote i l) := by
  obtain ⟨h1, h2⟩ := h
  have hb : D.burnt = D := by unfold Dsk.burnt; rw [h2, if_neg (by decide), if_neg (by decide)]
  unfold Good Dsk.wrote
  rw [hb]
  exact ⟨h1, h2⟩
theorem putk_good : ∀ (n : Nat) (D : Dsk) (s : Nat) (b : List UInt8), Good D → s + n ≤ D.kept.length → (putk n D (s : Int) b).2 = 0 ∧ Good (putk n D (s : Int) b).1
  | 0, D, s, b, hg, _ => ⟨rfl, hg⟩
  | n + 1, D, s, b, hg, hr => by
    have hw := write_good hg s (by omega) (b.take 128) (by rw [List.length_take]; omega)
    rw [putk, hw, if_pos rfl]
    have hk : (D.wrote s (b.take 128)).kept.length = D.kept.length := by have := (write_len D (s : Int) (b.take 128)).1; rw [hw] at this; exact this
    exact putk_good n (D.wrote s (b.take 128)) (s + 1) (b.drop 128) (wrote_good hg s _) (by omega)
theorem wr9_ok {fr : Nat} {st : List Nat} {D : Dsk} {b : List UInt8} {i : Nat} (hb : b.length ≤ 1024) (hf : fst9 st = some i) (hg : Good D) (hr : fr + 8 * i + 8 ≤ D.kept.length) :
    wr9 fr st D b = (st.set i 2, (putk 8 D ((fr + 8 * i : Nat) : Int) b).1, i, 0) := by
  unfold wr9
  rw [if_neg (by omega), hf]
  exact if_pos (putk_good 8 D _ b hg hr).1
theorem wr9_full {fr : Nat} {st : List Nat} {D : Dsk} {b : List UInt8} (hb : b.length ≤ 1024) (hf : fst9 st = none) : wr9 fr st D b = (st, D, 0, 10) := by
  unfold wr9
  rw [if_neg (by omega), hf]
end Go.Proofs.YtmedljnbcpdoeaaDoor
/- Layer 9: steps of an example: a pager over a well disk, made since. -/
namespace Go.Proofs.YtmedljnbcpdoeaaDoor
open Go.RowKit
set_option linter.unusedVariables false
set_option linter.unusedSimpArgs false
set_option maxRecDepth 100000

theorem Pq.lt {S : Nat → Prop} {w : World} {p pd fr : Nat} {st : List Nat} {D : Dsk} (h : Pq S w p pd fr st D) : ∀ k, S k → k < w.heap.size := fun k hk => by
  obtain ⟨pa, ga, gr, SD, hP, hD, hap, rfl, hroom⟩ := h
  rcases hk with h | h | h | h | h
  · rw [h]; exact hP.bx.lt
  · rw [h]; exact hP.al.ltp
  · rw [h]; exact hP.al.ltg
  · rw [h]; exact hP.row.lt
  · exact hD.lt k h
theorem Pq.turn {S T : Nat → Prop} {w w' : World} {p pd fr : Nat} {st : List Nat} {D : Dsk} (h : Pq S w p pd fr st D) (ht : Turn T w w') (hs : ∀ k, S k → ¬ T k) (h0 : ¬ T 0) : Pq S w' p pd fr st D := by
  obtain ⟨pa, ga, gr, SD, hP, hD, hap, rfl, hroom⟩ := h
  exact ⟨pa, ga, gr, SD, hP.turn ht (hs _ (.inl rfl)) (hs _ (.inr (.inl rfl))) (hs _ (.inr (.inr (.inl rfl)))) (hs _ (.inr (.inr (.inr (.inl rfl))))) h0, hD.turn ht (fun k hk => hs k (.inr (.inr (.inr (.inr hk))))), hap, rfl, hroom⟩
theorem Pq.still {S : Nat → Prop} {w w' : World} {p pd fr : Nat} {st : List Nat} {D : Dsk} (h : Pq S w p pd fr st D) (ht : Turn (fun _ => False) w w') : Pq S w' p pd fr st D := h.turn ht (fun _ _ h => h) (fun h => h)
/-- A call that touches the row of pages and the alloc alone. -/
theorem Pq.step {S : Nat → Prop} {w : World} {p pd fr : Nat} {st : List Nat} {D : Dsk} (h : Pq S w p pd fr st D) : ∃ pa ga gr, Pm w p pd pa ga gr fr st (bits9 st) ∧ ∀ (w' : World) (st' : List Nat), Pm w' p pd pa ga gr fr st' (bits9 st') → Turn (fun k => k = gr ∨ k = ga) w w' → st'.length = st.length → ∃ S', Pq S' w' p pd fr st' D ∧ Stp S w S' w' := by
  obtain ⟨pa, ga, gr, SD, hP, hD, hap, rfl, hroom⟩ := h
  refine ⟨pa, ga, gr, hP, fun w' st' hP' ht hl => ?_⟩
  refine Pq.mk (SD := SD) hP' (hD.turn ht (fun k hk h => by rcases h with h | h; exact (hap k hk).2.2.2.1 h; exact (hap k hk).2.2.1 h)) hap ⟨hP.bx.lt, hP.al.ltp, hP.al.ltg, hP.row.lt⟩ (fun k hk => .inl hk) (ht.mono (fun k _ hk => ?_)) (by rw [hl]; exact hroom)
  rcases hk with h | h
  · exact .inr (.inr (.inr (.inl h)))
  · exact .inr (.inr (.inl h))
theorem len_rel9 (st : List Nat) (i : Int) : (rel9 st i).1.length = st.length := by
  unfold rel9
  split
  · split
    · simp
    · split <;> simp
  · rfl
theorem settle9_q {S : Nat → Prop} {w : World} {p pd fr : Nat} {st : List Nat} {D : Dsk} (h : Pq S w p pd fr st D) :
    Calls Tryd.prog 15 #[.pointer (some ⟨p, 0, none⟩)] w fun r w' => r = .returned (.int .i64 0) ∧ ∃ S', Pq S' w' p pd fr (settle9 st) D ∧ Stp S w S' w' := by
  obtain ⟨pa, ga, gr, hP, hstep⟩ := h.step
  exact (settle9_any hP).mono fun e w' ⟨h1, h2, h3⟩ => ⟨h1, hstep w' _ h2 h3 (by unfold settle9; rw [len_trn9, len_trn9])⟩
theorem undo9_q {S : Nat → Prop} {w : World} {p pd fr : Nat} {st : List Nat} {D : Dsk} (h : Pq S w p pd fr st D) :
    Calls Tryd.prog 17 #[.pointer (some ⟨p, 0, none⟩)] w fun r w' => r = .returned (.int .i64 0) ∧ ∃ S', Pq S' w' p pd fr (undo9 st) D ∧ Stp S w S' w' := by
  obtain ⟨pa, ga, gr, hP, hstep⟩ := h.step
  exact (undo9_any hP).mono fun e w' ⟨h1, h2, h3⟩ => ⟨h1, hstep w' _ h2 h3 (by unfold undo9; rw [len_trn9, len_trn9])⟩
theorem release9_q {S : Nat → Prop} {w : World} {p pd fr : Nat} {st : List Nat} {D : Dsk} (h : Pq S w p pd fr st D) (i : Int) :
    Calls Tryd.prog 13 #[.pointer (some ⟨p, 0, none⟩), .int .i64 i] w fun r w' => r = .returned (.int .i64 (rel9 st i).2) ∧ ∃ S', Pq S' w' p pd fr (rel9 st i).1 D ∧ Stp S w S' w' := by
  obtain ⟨pa, ga, gr, hP, hstep⟩ := h.step
  exact (release9_any hP i).mono fun e w' ⟨h1, h2, h3⟩ => ⟨h1, hstep w' _ h2 h3 (len_rel9 st i)⟩
/-- Numbers that a slice holds, apart from a set of blocks. -/
def Rk (S : Nat → Prop) (w : World) (v : Value) (L : List Int) : Prop := ∃ A c, v = .slice A L.length c ∧ ∀ j z, L[j]? = some z → ∃ b, A = some ⟨b, 0, none⟩ ∧ b < w.heap.size ∧ ¬ S b ∧ w.cell? ⟨b, j, none⟩ = some (.int .i64 z)
theorem Rk.step {S S' : Nat → Prop} {w w' : World} {v : Value} {L : List Int} (h : Rk S w v L) (hs : Stp S w S' w') : Rk S' w' v L := by
  obtain ⟨A, c, e, hr⟩ := h
  refine ⟨A, c, e, fun j z hj => ?_⟩
  obtain ⟨b, h1, h2, h3, h4⟩ := hr j z hj
  exact ⟨b, h1, Nat.lt_of_lt_of_le h2 hs.1.size, fun h => by rcases hs.2 b h with h | h; exact h3 h; omega, (World.cell?_of_block (w := w) (a := ⟨b, j, none⟩) (hs.1.block b h2 h3)).trans h4⟩
theorem Rk.ir {S : Nat → Prop} {w : World} {v : Value} {L : List Int} (h : Rk S w v L) : ∃ A c, v = .slice A L.length c ∧ Ir w A L := by
  obtain ⟨A, c, e, hr⟩ := h
  exact ⟨A, c, e, fun j z hj => by obtain ⟨b, h1, h2, _, h4⟩ := hr j z hj; exact ⟨b, h1, h2, h4⟩⟩
theorem rk_of {S : Nat → Prop} {B : Nat} {w : World} {v : Value} {L : List Int} (h : Rw9 B w v L) (hS : ∀ k, S k → k < B) : Rk S w v L := by
  obtain ⟨A, c, rfl⟩ := own_slice9 h
  exact ⟨A, c, rfl, fun j z hj => by
    obtain ⟨g, h1, h2, h3, h4⟩ := own_at9 h j (.int .i64 z) (by rw [List.getElem?_map, hj]; rfl)
    exact ⟨g, h1, h3, fun h => by have := hS g h; omega, h4⟩⟩
theorem pages9_q {S : Nat → Prop} {w : World} {p pd fr : Nat} {st : List Nat} {D : Dsk} (h : Pq S w p pd fr st D) :
    Calls Tryd.prog 30 #[.pointer (some ⟨p, 0, none⟩)] w fun r w' => ∃ v1 v2 v3, r = .returned (.tuple #[v1, v2, v3]) ∧ Rk S w' v1 (pk9 1 st) ∧ Rk S w' v2 (pk9 2 st) ∧ Rk S w' v3 (pk9 3 st) ∧ Pq S w' p pd fr st D ∧ Turn (fun _ => False) w w' := by
  have hlt := h.lt
  have hq := h
  obtain ⟨pa, ga, gr, SD, hP, hD, hap, rfl, hroom⟩ := h
  exact (pages9_any hP).mono fun e w' ⟨v1, v2, v3, h1, h2, h3, h4, h5⟩ => ⟨v1, v2, v3, h1, rk_of h2 hlt, rk_of h3 hlt, rk_of h4 hlt, hq.still h5, h5⟩
/-- On the way: all is made since w. -/
structure Lv9 (w : World) (S : Nat → Prop) (X : World) (p pd : Nat) (st : List Nat) (D : Dsk) : Prop where
  q : Pq S X p pd 2 st D
  new : ∀ k, S k → w.heap.size ≤ k
  tn : Turn (fun _ => False) w X
  good : Good D
  kl : D.kept.length = 30
  pl : D.pend.length ≤ 100
variable {w X X' : World} {S S' : Nat → Prop} {p pd : Nat} {st st' : List Nat} {D D' : Dsk}
theorem Lv9.go (h : Lv9 w S X p pd st D) (hq : Pq S' X' p pd 2 st' D') (hs : Stp S X S' X') (hg : Good D') (hk : D'.kept.length = 30) (hp : D'.pend.length ≤ 100) : Lv9 w S' X' p pd st' D' := by
  have hz := h.tn.size
  refine ⟨hq, fun k hk => ?_, h.tn.trans_new hs.1 (fun k hk hs2 => by have := h.new k hs2; omega), hg, hk, hp⟩
  rcases hs.2 k hk with h1 | h1
  · exact h.new k h1
  · omega
theorem Lv9.al (h : Lv9 w S X p pd st D) (o : Obj) : Lv9 w S (X.alloc o) p pd st D := ⟨h.q.still ((Turn.refl _ _).alloc o), h.new, h.tn.alloc o, h.good, h.kl, h.pl⟩
theorem Lv9.write (h : Lv9 w S X p pd st D) (l : List UInt8) (n : Nat) (C : Array Value) (fz : Nat × Nat) (hC : C = (bv l).toArray) (hn : l.length = n) (hn1 : n ≤ 1024) (i : Nat) (z : Int) (hz : z = i) (hf : fst9 st = some i) (hi : 2 + 8 * i + 8 ≤ 30) (hp : D.pend.length ≤ 90) :
    Calls Tryd.prog 27 #[.pointer (some ⟨p, 0, none⟩), .slice (some ⟨X.heap.size, 0, none⟩) n n] (X.alloc (.cells C 5 fz)) fun r w' => r = .returned (.tuple #[.int .i64 z, .int .i64 0]) ∧ ∃ S', Lv9 w S' w' p pd (st.set i 2) (putk 8 D ((2 + 8 * i : Nat) : Int) l).1 ∧ Stp S (X.alloc (.cells C 5 fz)) S' w' := by
  have hb := ba_mark X h.q.lt l n C fz hC hn (by omega)
  have ha := h.al (.cells C 5 fz)
  have hw := write9_any ha.q (fun _ => hb) (by omega)
  rw [hn, wr9_ok (i := i) (by omega) hf h.good (by rw [h.kl]; omega)] at hw
  subst hz
  have hl := putk_len 8 D ((2 + 8 * i : Nat) : Int) l
  exact hw.mono fun e w' ⟨h1, S', h2, h3⟩ => ⟨h1, S', ha.go h2 h3 (putk_good 8 D _ l h.good (by rw [h.kl]; omega)).2 (by rw [hl.1]; exact h.kl) (by omega), h3⟩
theorem Lv9.full (h : Lv9 w S X p pd st D) (l : List UInt8) (n : Nat) (C : Array Value) (fz : Nat × Nat) (hC : C = (bv l).toArray) (hn : l.length = n) (hn1 : n ≤ 1024) (hf : fst9 st = none) :
    Calls Tryd.prog 27 #[.pointer (some ⟨p, 0, none⟩), .slice (some ⟨X.heap.size, 0, none⟩) n n] (X.alloc (.cells C 5 fz)) fun r w' => r = .returned (.tuple #[.int .i64 0, .int .i64 10]) ∧ ∃ S', Lv9 w S' w' p pd st D ∧ Stp S (X.alloc (.cells C 5 fz)) S' w' := by
  have hb := ba_mark X h.q.lt l n C fz hC hn (by omega)
  have ha := h.al (.cells C 5 fz)
  have hw := write9_any ha.q (fun _ => hb) (by have := h.pl; omega)
  rw [hn, wr9_full (by omega) hf] at hw
  exact hw.mono fun e w' ⟨h1, S', h2, h3⟩ => ⟨h1, S', ha.go h2 h3 h.good h.kl h.pl, h3⟩
theorem Lv9.settle (h : Lv9 w S X p pd st D) : Calls Tryd.prog 15 #[.pointer (some ⟨p, 0, none⟩)] X fun r w' => r = .returned (.int .i64 0) ∧ ∃ S', Lv9 w S' w' p pd (settle9 st) D ∧ Stp S X S' w' :=
  (settle9_q h.q).mono fun e w' ⟨h1, S', h2, h3⟩ => ⟨h1, S', h.go h2 h3 h.good h.kl h.pl, h3⟩
theorem Lv9.undo (h : Lv9 w S X p pd st D) : Calls Tryd.prog 17 #[.pointer (some ⟨p, 0, none⟩)] X fun r w' => r = .returned (.int .i64 0) ∧ ∃ S', Lv9 w S' w' p pd (undo9 st) D ∧ Stp S X S' w' :=
  (undo9_q h.q).mono fun e w' ⟨h1, S', h2, h3⟩ => ⟨h1, S', h.go h2 h3 h.good h.kl h.pl, h3⟩
theorem Lv9.release (h : Lv9 w S X p pd st D) (i : Int) : Calls Tryd.prog 13 #[.pointer (some ⟨p, 0, none⟩), .int .i64 i] X fun r w' => r = .returned (.int .i64 (rel9 st i).2) ∧ ∃ S', Lv9 w S' w' p pd (rel9 st i).1 D ∧ Stp S X S' w' :=
  (release9_q h.q i).mono fun e w' ⟨h1, S', h2, h3⟩ => ⟨h1, S', h.go h2 h3 h.good h.kl h.pl, h3⟩
theorem Lv9.pages (h : Lv9 w S X p pd st D) : Calls Tryd.prog 30 #[.pointer (some ⟨p, 0, none⟩)] X fun r w' => ∃ v1 v2 v3, r = .returned (.tuple #[v1, v2, v3]) ∧ Rk S w' v1 (pk9 1 st) ∧ Rk S w' v2 (pk9 2 st) ∧ Rk S w' v3 (pk9 3 st) ∧ Lv9 w S w' p pd st D ∧ Turn (fun _ => False) X w' :=
  (pages9_q h.q).mono fun e w' ⟨v1, v2, v3, h1, h2, h3, h4, h5, h6⟩ => ⟨v1, v2, v3, h1, h2, h3, h4, ⟨h5, h.new, h.tn.trans h6, h.good, h.kl, h.pl⟩, h6⟩
end Go.Proofs.YtmedljnbcpdoeaaDoor
