/- PagerPlays: its walk. (mkPP.py) -/
import Derived.Test.YtmedljnbcpdoeaaDoorDpL
import Derived.Deep.CutRange
import Derived.Deep.CutBlock
import Derived.Deep.DeepCutAuto
namespace Go.Proofs.YtmedljnbcpdoeaaDoor
open Go.RowKit
set_option linter.unusedVariables false
set_option linter.unusedSimpArgs false
set_option maxRecDepth 100000

def Pf9 (N n i : Nat) (st : List Nat) (D : Dsk) : Prop := st.length = n ∧ D.kept.length = N ∧ D.pend.length ≤ 8 * i
theorem keep_putk (n : Nat) (D : Dsk) (s : Int) (b : List UInt8) : (putk n D s b).1.kept.length = D.kept.length := (putk_len n D s b).1
theorem Pf9.rwr {N n i : Nat} {st : List Nat} {D : Dsk} (h : Pf9 N n i st D) (fr : Nat) (k : Int) (b : List UInt8) : Pf9 N n (i + 1) st (rwr9 fr st D k b).1 := by
  refine ⟨h.1, ?_, ?_⟩
  · unfold rwr9
    split
    · exact h.2.1
    · split
      · rw [keep_putk]; exact h.2.1
      · exact h.2.1
  · have := len_rwr9 fr st D k b
    have := h.2.2
    omega
theorem Pf9.wr {N n i : Nat} {st : List Nat} {D : Dsk} (h : Pf9 N n i st D) (fr : Nat) (b : List UInt8) : Pf9 N n (i + 1) (wr9 fr st D b).1 (wr9 fr st D b).2.1 := by
  obtain ⟨h1, h2⟩ := len_wr9 fr st D b
  refine ⟨h1.trans h.1, ?_, by have := h.2.2; omega⟩
  unfold wr9
  split
  · exact h.2.1
  · split
    · exact h.2.1
    · split
      · rw [keep_putk]; exact h.2.1
      · rw [keep_putk]; exact h.2.1
theorem Pf9.to {N n i : Nat} {st st' : List Nat} {D : Dsk} (h : Pf9 N n i st D) (hl : st'.length = st.length) : Pf9 N n (i + 1) st' D := ⟨hl.trans h.1, h.2.1, by have := h.2.2; omega⟩
theorem Pf9.arm {N n i : Nat} {st : List Nat} {D : Dsk} (h : Pf9 N n i st D) (k : Int) : Pf9 N n (i + 1) st (D.arm k).1 := ⟨h.1, by rw [(arm_len D k).1]; exact h.2.1, by rw [(arm_len D k).2]; have := h.2.2; omega⟩
theorem Pf9.crash {N n i : Nat} {st : List Nat} {D : Dsk} (h : Pf9 N n i st D) (zs : List Int) : Pf9 N n (i + 1) st (D.crashed zs) := ⟨h.1, by rw [(crash_len D zs).1]; exact h.2.1, by rw [(crash_len D zs).2]; exact Nat.zero_le _⟩
theorem len_settle9 (st : List Nat) : (settle9 st).length = st.length := by unfold settle9; rw [len_trn9, len_trn9]
theorem len_undo9 (st : List Nat) : (undo9 st).length = st.length := by unfold undo9; rw [len_trn9, len_trn9]
theorem kinds9 (k : Int) : k = 1 ∨ k = 2 ∨ k = 3 ∨ k = 4 ∨ k = 5 ∨ k = 6 ∨ k = 7 ∨ k = 8 ∨ ((k == 1) = false ∧ (k == 2) = false ∧ (k == 3) = false ∧ (k == 4) = false ∧ (k == 5) = false ∧ (k == 6) = false ∧ (k == 7) = false ∧ (k == 8) = false) := by
  simp only [beq_eq_false_iff_ne, ne_eq]
  omega
theorem Blk.act9 {S : Nat → Prop} {S' : Nat → Prop} {X X' : World} {g : Nat} {l : List Value} (h : Blk X g 44 l) (hs : Stp S X S' X') (hg : ¬ S g) : Blk X' g 44 l ∧ ¬ S' g :=
  ⟨h.turn hs.1 hg, fun hk => by
    rcases hs.2 g hk with h1 | h1
    · exact hg h1
    · have := h.lt; omega⟩
theorem FW.act9 {X : World} {gm xa : Nat} {l : List Value} (h : Blk X xa 44 l) (hg : gm < xa) (D : Dsk) (ks : List (List UInt8)) (A : Option Addr) (c : Nat) (B : Option Addr) (d : Nat) : Blk (FW X gm D ks A c B d) xa 44 l := by
  have hne : ∀ j, xa ≠ (⟨gm, j, none⟩ : Addr).block := fun j => by show xa ≠ gm; omega
  exact ((((h.far (hne 0) _).far (hne 1) _).far (hne 2) _).far (hne 3) _).far (hne 4) _
theorem X2.act9 {X : World} {gx xa : Nat} {l : List Value} (h : Blk X xa 44 l) (hg : gx < xa) (u v : Value) : Blk ((X.setCell ⟨gx, 0, none⟩ u).setCell ⟨gx, 1, none⟩ v) xa 44 l := by
  have hne : ∀ j, xa ≠ (⟨gx, j, none⟩ : Addr).block := fun j => by show xa ≠ gx; omega
  exact (h.far (hne 0) _).far (hne 1) _
set_option maxHeartbeats 8000000 in
theorem pagerPlays_good (N fr n : Nat) (v0 : Value) (qs : List Acv) (w : World) (hN1 : 1 ≤ N) (hN2 : N ≤ 200) (hn1 : 1 ≤ n) (hroom : fr + 8 * n ≤ N) (hbad : ¬ bad9 N (fr : Int) (n : Int)) (h1 : Acts w.heap.size w v0 qs) (hf : few9 qs = true) (hT : Tb w) :
    Calls Tryd.prog 3 #[.int .i64 N, .int .i64 fr, .int .i64 n, v0] w fun r w' => r = .returned (.bool true) ∧ Below w.heap.size w w' := by
  have HND := Lib.hid (new_dq N (by omega) (by omega) w)
  have HNR := Lib.hid (fun W => newRef_r N (by omega) (by omega) W)
  have HF := Lib.hid (few9_any w.heap.size v0 qs w h1)
  rw [hf] at HF
  have HL := Lib.hid (fun (W : World) (ht : Turn (fun _ => False) w W) => lives9 W (hT.turn ht (fun h => h)))
  have HT := Lib.hid hT
  have hz0 := hT.lt
  have HFW : Hid (qs.length ≤ 100 ∧ ∀ a ∈ qs, a.s.size ≤ 5000 ∧ a.zs.length ≤ 100) := Lib.hid (by
    unfold few9 at hf
    simp only [Bool.and_eq_true, decide_eq_true_eq, List.all_eq_true] at hf
    exact hf)
  obtain ⟨A0, c0, rfl, hlen0, hrow0⟩ := h1
  have HA := Lib.hid hrow0
  obtain ⟨m, hm⟩ : ∃ n, qs.length = n := ⟨_, rfl⟩
  have HM := Lib.hid hm
  rw [hm] at hlen0 HF ⊢
  have hm100 : m ≤ 100 := by have := HFW.out.1; omega
  have g1 : ¬ (N : Int) < 1 := by omega
  have g2 : ¬ (200 : Int) < (N : Int) := by omega
  have HB := Lib.hid hbad
  clear hT hrow0 hm hf hbad
  go_enter Tryd.func3, Tryd.ntmps3
  go_wp2_with fail
  refine HF.out.mono ?_
  rintro e wf ⟨rfl, hwf⟩
  obtain rfl : w = wf := hwf.symm
  go_wp2_with fail
  refine HND.out.mono ?_
  rintro e w1 ⟨pd, SD, rfl, hd, hS, ht⟩
  have T1 := Lib.hid ht
  have HSD := Lib.hid hS
  have HD1 := Lib.hid hd
  clear ht hS hd HND HF
  go_wp2_with fail
  refine (HNR.out _).mono ?_
  rintro e w2 ⟨g0, hg0, rfl, hrm, ht⟩
  obtain ⟨W3, hW3⟩ : ∃ W, w2.alloc (.cells #[.int .i64 N, .slice (some ⟨g0, 0, none⟩) N N, .slice none 0 0, .int .i64 (-1), .bool false] 32) = W := ⟨_, rfl⟩
  have hlk : (fresh N).kept.length = N := by unfold fresh; rw [List.length_replicate]
  have BM : Hid (Blk W3 w2.heap.size 32 [.int .i64 N, .slice (some ⟨g0, 0, none⟩) N N, .slice none 0 0, .int .i64 (-1), .bool false]) := Lib.hid (hW3 ▸ Blk.new _ _ _)
  have T3 : Hid (Turn (fun _ => False) w1 W3) := Lib.hid (hW3 ▸ ht.alloc _)
  have s3 : w2.heap.size < W3.heap.size := BM.out.lt
  have RM := Lib.hid (hrm.still (w' := W3) (hW3 ▸ (Turn.refl _ _).alloc _))
  have hg1 : g0 < w2.heap.size := own_lt_ hrm.kept g0 rfl
  have HPN := Lib.hid (new9_ok (HD1.out.still T3.out) (fun k hk e => by have := HSD.out k hk; omega) (HT.out.turn (T1.out.trans T3.out) (fun h => h)) fr n hn1 (by rw [hlk]; exact hroom))
  have HDN : Hid (∀ W, Calls Tryd.prog 9 #[.agg #[.int .i64 N, .slice (some ⟨g0, 0, none⟩) N N, .slice none 0 0, .int .i64 (-1), .bool false], .int .i64 fr, .int .i64 n] W fun r w' => ∃ AV cV, r = .returned (.tuple #[.agg #[.int .i64 fr, .slice AV n cV], .int .i64 0]) ∧ Rw9 W.heap.size w' (.slice AV n cV) (il9 (List.replicate n 0)) ∧ Turn (fun _ => False) W w') := Lib.hid (fun W => by
    have h := new_d (fresh N) (List.replicate N []) (some ⟨g0, 0, none⟩) none N 0 (by omega) fr n W (by rw [hlk]; exact HB.out)
    have e : rd (fresh N) (List.replicate N []) (some ⟨g0, 0, none⟩) N none 0 = .agg #[.int .i64 N, .slice (some ⟨g0, 0, none⟩) N N, .slice none 0 0, .int .i64 (-1), .bool false] := by
      unfold rd; rw [hlk, List.length_replicate]; rfl
    rw [e] at h
    refine h.mono fun e w' ⟨v, h1, h2, h3⟩ => ?_
    rw [Int.toNat_natCast] at h2
    obtain ⟨AV, cV, e2, _⟩ := h2.ir
    rw [len_il9, List.length_replicate] at e2
    subst e2
    exact ⟨AV, cV, h1, h2, h3⟩)
  have HW3 := Lib.hid hW3
  clear hrm ht hW3
  go_wp2_with fail
  rw [HW3.out]
  clear HW3
  refine HPN.out.mono ?_
  rintro e w4 ⟨p, S1, rfl, hq, hS1, hp, ht⟩
  have Q4 := Lib.hid hq
  have T4 := Lib.hid ht
  have HS1 := Lib.hid hS1
  obtain ⟨y0, y1, y2, y3, y4⟩ := cells5 (BM.out.turn ht (fun h => h))
  clear hq ht hS1 HPN
  go_wp2_with fail
  refine (HDN.out _).mono ?_
  rintro e w5 ⟨AV, cV, rfl, hrw, ht⟩
  clear y0 y1 y2 y3 y4
  obtain ⟨W6, hW6⟩ : ∃ W, w5.alloc (.cells #[.int .i64 fr, .slice AV n cV] 40) = W := ⟨_, rfl⟩
  have BX : Hid (Blk W6 w5.heap.size 40 [.int .i64 fr, .slice AV n cV]) := Lib.hid (hW6 ▸ Blk.new _ _ _)
  have T6 : Hid (Turn (fun _ => False) w4 W6) := Lib.hid (hW6 ▸ ht.alloc _)
  have T65 : Hid (Turn (fun _ => False) w5 W6) := Lib.hid (hW6 ▸ (Turn.refl _ _).alloc _)
  have T36 : Hid (Turn (fun _ => False) W3 W6) := Lib.hid (T4.out.trans T6.out)
  have z1 := T1.out.size
  have z2 := T3.out.size
  have z4 := T4.out.size
  have z5 := ht.size
  obtain ⟨gx, hgx⟩ : ∃ g, w5.heap.size = g := ⟨_, rfl⟩
  obtain ⟨gm, hgm⟩ : ∃ g, w2.heap.size = g := ⟨_, rfl⟩
  rw [hgx] at BX
  rw [hgm] at BM
  have PL : Hid (Pl9 w W6 S1 p pd gm gx fr (List.replicate n 0) (fresh N) (List.replicate n 0) (fresh N) (.slice AV n cV) (List.replicate N []) (some ⟨g0, 0, none⟩) N none 0) := Lib.hid (by
    have hS1 : ∀ k, S1 k → k < w1.heap.size ∨ W3.heap.size ≤ k := fun k hk => by
      rcases HS1.out k hk with h | h
      · exact .inl (HD1.out.lt k h)
      · exact .inr h
    have hS2 : ∀ k, S1 k → k < w4.heap.size := Q4.out.lt
    refine ⟨Q4.out.still T6.out, fun k hk => ?_, T1.out.trans (T3.out.trans T36.out), ?_, BX.out, ⟨(hrw.still T65.out).base (Nat.zero_le _), fun b hb hs => ?_⟩, ⟨RM.out.still T36.out, fun b hb hs => ?_, fun b hb hs => ?_⟩, by omega, by omega, by omega, fun hk => ?_, fun hk => ?_⟩
    · rcases HS1.out k hk with h | h
      · exact HSD.out k h
      · omega
    · have h := BM.out.turn T36.out (fun h => h)
      unfold rdc
      rw [hlk, List.length_replicate]
      exact h
    · have h1 := own_blk9 hrw b hb
      rcases hs with h | h | h
      · have := hS2 b h; omega
      · omega
      · omega
    · have e : g0 = b := by rw [List.length_replicate] at hb; unfold Value.ownBlock at hb; simp at hb; exact hb
      rcases hs with h | h | h
      · have := hS1 b h; omega
      · omega
      · omega
    · have : (fresh N).pend.length = 0 := rfl
      simp [Value.ownBlock, this] at hb
    · have := hS1 gm hk; omega
    · have := hS2 gx hk; omega)
  have PF : Hid (Pf9 N n 0 (List.replicate n 0) (fresh N)) := Lib.hid ⟨List.length_replicate, hlk, Nat.le_refl _⟩
  have HW6 := Lib.hid hW6
  clear hW6 hrw ht hp hg0 hg1 hlk Q4 T4 T6 T65 T36 RM BM BX HS1 HSD HD1 HDN HNR HB T3
  rw [hgm]
  have HGX := Lib.hid hgx
  clear hgx hgm
  go_wp2_with fail
  rw [HW6.out, HGX.out]
  clear HW6 HGX
  go_loopw [17] (fun v17 wr => ∃ (i : Nat) (S : Nat → Prop) (st : List Nat) (D : Dsk) (v : Value) (ks : List (List UInt8)) (A : Option Addr) (c : Nat) (B : Option Addr) (d : Nat), i ≤ m ∧ v17 = .int .i64 i ∧ Pl9 w wr S p pd gm gx fr st D st D v ks A c B d ∧ Hid (Pf9 N n i st D)) (fun v17 _ => m - (intOf v17).toNat)
  case atStart => exact ⟨0, S1, _, _, _, _, _, _, _, _, Nat.zero_le _, rfl, PL.out, PF⟩
  case round =>
    clear PL PF
    obtain ⟨i, S, st, D, v, ks, A, c, B, d, hi, rfl, hP, PF⟩ := hrel
    obtain ⟨wx, rfl⟩ : ∃ W, W = wr := ⟨_, rfl⟩
    have P0 := Lib.hid hP
    obtain ⟨AV, cV, rfl⟩ := hP.rd.vis PF.out.1
    clear hP
    by_cases hlt : i < m
    · have hl1 : (i : Int) < (m : Int) := by omega
      have hl0 : (0 : Int) ≤ (i : Int) := by omega
      have hq := wrap_of ((i : Int) + 1) (by omega) (by omega)
      obtain ⟨a, ha⟩ : ∃ a, qs[i]? = some a := ⟨_, List.getElem?_eq_getElem (by rw [HM.out]; exact hlt)⟩
      obtain ⟨b, o, rfl, hb, hcc⟩ := HA.out (by rw [HM.out]; omega)
      obtain ⟨⟨e0, e1, e2, e3⟩, hiv, hb1, hb2⟩ := hcc i a ha
      have ha5 := HFW.out.2 a (List.mem_of_getElem? ha)
      have HCW : Hid (∀ X, Turn (fun _ => False) wx X → ∀ j u, w.cell? ⟨b, j, none⟩ = some u → X.cell? ⟨b, j, none⟩ = some u) := Lib.hid (fun X hX j u hu => (World.cell?_of_block (w := w) (a := ⟨b, j, none⟩) ((P0.out.tn.trans hX).block b hb (fun h => h))).trans hu)
      have y0 := HCW.out wx (Turn.refl _ _) _ _ e0
      have y1 := HCW.out wx (Turn.refl _ _) _ _ e1
      have y2 := HCW.out wx (Turn.refl _ _) _ _ e2
      have y3 := HCW.out wx (Turn.refl _ _) _ _ e3
      have HIV := Lib.hid hiv
      have HA5 := Lib.hid ha5
      clear hcc e0 e1 e2 e3 hiv ha ha5
      obtain ⟨ak, ai, as_, av, azs⟩ := a
      simp only at y0 y1 y2 y3 HIV HA5 hb1 hb2
      obtain ⟨A3, c3, hav, hzl3, hrow3⟩ := HIV.out
      obtain ⟨n3, hn3⟩ : ∃ n, azs.length = n := ⟨_, rfl⟩
      rw [hn3] at hav hzl3 hrow3
      subst hav
      have HN3 := Lib.hid hn3
      have h3b : n3 ≤ 100 := by have := HA5.out.2; omega
      have HR3 := Lib.hid hrow3
      clear hn3 hrow3
      go_upto_block 2 with fail
      obtain ⟨XA, hXA⟩ : ∃ W, wx.alloc (.cells #[.int .i64 ak, .int .i64 ai, .string as_, .slice A3 n3 c3] 44) = W := ⟨_, rfl⟩
      have BA : Hid (Blk XA wx.heap.size 44 [.int .i64 ak, .int .i64 ai, .string as_, .slice A3 n3 c3]) := Lib.hid (hXA ▸ Blk.new _ _ _)
      have PA := Lib.hid (P0.out.still (X' := XA) (hXA ▸ (Turn.refl _ _).alloc _))
      rw [hXA]
      clear hXA
      have hgx := P0.out.bx.lt
      have hgm := P0.out.bm.lt
      have hax : Hid (¬ S wx.heap.size) := Lib.hid (fun h => by have := P0.out.q.lt _ h; omega)
      obtain ⟨xa, hxa⟩ : ∃ g, wx.heap.size = g := ⟨_, rfl⟩
      rw [hxa] at BA hgx hgm hax ⊢
      clear hxa y0 y1 y2 y3 P0 HCW
      have HPW : Hid (D.pend.length ≤ 900) := Lib.hid (by have := PF.out.2.2; omega)
      have HFR : Hid (fr + 8 * st.length ≤ D.kept.length) := Lib.hid (by rw [PF.out.1, PF.out.2.1]; exact hroom)
      have HST : Hid (st.length ≤ 16384) := Lib.hid (by rw [PF.out.1]; omega)
      have HIVA : Hid (∀ X (T : Nat → Prop), Turn (fun _ => False) w X → (∀ k, T k → w.heap.size ≤ k) → Iv T X (.slice A3 n3 c3) azs) := Lib.hid (fun X T ht hT => (HIV.out.below (ht.below (Nat.le_refl _) (fun k hk => hk.elim)) (Nat.le_refl _)).iv ht.size hT)
      go_cut [19, 20] from 81 to 245 (fun a19 a20 wx => ∃ (e : Int) (S5 : Nat → Prop) (st5 : List Nat) (D5 : Dsk) (v5 : Value) (ks5 : List (List UInt8)) (A5 : Option Addr) (c5 : Nat) (B5 : Option Addr) (d5 : Nat), a19 = .int .i64 e ∧ a20 = .int .i64 e ∧ Pl9 w wx S5 p pd gm gx fr st5 D5 st5 D5 v5 ks5 A5 c5 B5 d5 ∧ Hid (Pf9 N n (i + 1) st5 D5))
      case first =>
        rcases kinds9 ak with rfl | rfl | rfl | rfl | rfl | rfl | rfl | rfl | ⟨n1, n2, n3_, n4, n5, n6, n7, n8⟩
        · as_aux_lemma =>
            obtain ⟨x0, x1, f0, f1⟩ := cells2 PA.out.bx
            obtain ⟨m0, m1, m2, m3, m4, h0_, h1_, h2_, h3_, h4_⟩ := cells5f PA.out.bm
            obtain ⟨a0, a1, a2, a3⟩ : XA.cell? ⟨xa, 0, none⟩ = some (.int .i64 1) ∧ XA.cell? ⟨xa, 1, none⟩ = some (.int .i64 ai) ∧ XA.cell? ⟨xa, 2, none⟩ = some (.string as_) ∧ XA.cell? ⟨xa, 3, none⟩ = some (.slice A3 n3 c3) := ⟨(BA).out.cell 0, (BA).out.cell 1, (BA).out.cell 2, (BA).out.cell 3⟩
            obtain ⟨⟨D2, e2⟩, hR⟩ : ∃ R, rwr9 fr st D ai as_.data.toList = R := ⟨_, rfl⟩
            have HR := Lib.hid hR
            have HC := Lib.hid (rewrite_d PA.out.lt PA.out.rd PA.out.rg PA.out.ok (by have := HPW.out; omega) fr HFR.out ai as_)
            have PFN := Lib.hid (PF.out.rwr fr ai as_.data.toList)
            rw [hR] at HC PFN
            simp only at HC PFN
            clear hR
            go_wp2_with fail
            refine HC.out.mono ?_
            rintro e w2 ⟨B2, d2, rfl, hg2, ht2⟩
            have P2 := Lib.hid (PA.out.still ht2)
            have R2 := Lib.hid hg2
            have BA2 := Lib.hid (BA.out.turn ht2 (fun h => h))
            clear hg2 ht2
            clear x0 x1 f0 f1
            clear m0 m1 m2 m3 m4 h0_ h1_ h2_ h3_ h4_
            clear a0 a1 a2 a3
            obtain ⟨m0, m1, m2, m3, m4, h0_, h1_, h2_, h3_, h4_⟩ := cells5f P2.out.bm
            have P3 := Lib.hid (P2.out.setm hz0 R2.out)
            have B3 := Lib.hid (FW.act9 BA2.out hgm D2 ks A c B2 d2)
            go_upto_region 22 with fail
            obtain ⟨X3, hX3⟩ : ∃ W, FW w2 gm D2 ks A c B2 d2 = W := ⟨_, rfl⟩
            rw [hX3] at P3 B3
            unfold FW at hX3
            rw [hX3]
            clear hX3
            clear m0 m1 m2 m3 m4 h0_ h1_ h2_ h3_ h4_
            obtain ⟨a0, a1, a2, a3⟩ : X3.cell? ⟨xa, 0, none⟩ = some (.int .i64 1) ∧ X3.cell? ⟨xa, 1, none⟩ = some (.int .i64 ai) ∧ X3.cell? ⟨xa, 2, none⟩ = some (.string as_) ∧ X3.cell? ⟨xa, 3, none⟩ = some (.slice A3 n3 c3) := ⟨(B3).out.cell 0, (B3).out.cell 1, (B3).out.cell 2, (B3).out.cell 3⟩
            go_wp2_with (first | (refine wpList_conv_ba (by first | (go_simp; done) | rfl) _ rfl S as_ rfl P3.out.q.lt ?_; intro g4 c4 w4 hba ht4; have HBA := Lib.hid hba; have P4 := Lib.hid (P3.out.still ht4); clear hba ht4))
            have HP := Lib.hid (show Calls Tryd.prog 11 #[.pointer (some ⟨p, 0, none⟩), .int .i64 ai, .slice (some ⟨g4, 0, none⟩) as_.data.toList.length c4] w4 fun r w' => r = .returned (.int .i64 e2) ∧ ∃ S', Pq S' w' p pd fr st D2 ∧ Stp S w4 S' w' from by have h := rewrite9_q P4.out.q ai HBA.out (by have := HPW.out; omega); rw [HR.out] at h; exact h)
            refine HP.out.mono ?_
            rintro e w8 ⟨rfl, S8, hq8, hs8⟩
            have P8 := Lib.hid (P4.out.prog hq8 hs8)
            clear hq8 hs8
            go_wp2_with fail
            go_meet
            case rel => exact ⟨e2, S8, st, D2, _, ks, A, c, B2, d2, rfl, rfl, P8.out, PFN⟩
        · as_aux_lemma =>
            obtain ⟨x0, x1, f0, f1⟩ := cells2 PA.out.bx
            obtain ⟨a0, a1, a2, a3⟩ : XA.cell? ⟨xa, 0, none⟩ = some (.int .i64 2) ∧ XA.cell? ⟨xa, 1, none⟩ = some (.int .i64 ai) ∧ XA.cell? ⟨xa, 2, none⟩ = some (.string as_) ∧ XA.cell? ⟨xa, 3, none⟩ = some (.slice A3 n3 c3) := ⟨(BA).out.cell 0, (BA).out.cell 1, (BA).out.cell 2, (BA).out.cell 3⟩
            obtain ⟨⟨st2, e2⟩, hR⟩ : ∃ R, rel9 st ai = R := ⟨_, rfl⟩
            have HR := Lib.hid hR
            have HC := Lib.hid (release_d PA.out.lt PA.out.rd HST.out (fr : Int) ai)
            have PFN := Lib.hid (PF.out.to (len_rel9 st ai))
            rw [hR] at HC PFN
            simp only at HC PFN
            clear hR
            go_wp2_with fail
            refine HC.out.mono ?_
            rintro e w2 ⟨v2, rfl, hr2, ht2⟩
            obtain ⟨AN, cN, rfl⟩ := hr2.vis (n := n) PFN.out.1
            have P2 := Lib.hid (PA.out.still ht2)
            have R2 := Lib.hid hr2
            have BA2 := Lib.hid (BA.out.turn ht2 (fun h => h))
            clear hr2 ht2
            clear x0 x1 f0 f1
            clear a0 a1 a2 a3
            obtain ⟨x0, x1, f0, f1⟩ := cells2 P2.out.bx
            have P3 := Lib.hid (P2.out.setx hz0 R2.out)
            have B3 := Lib.hid (X2.act9 BA2.out hgx (.int .i64 (fr : Int)) (.slice AN n cN))
            go_upto_region 25 with fail
            obtain ⟨X3, hX3⟩ : ∃ W, ((w2.setCell ⟨gx, 0, none⟩ (.int .i64 fr)).setCell ⟨gx, 1, none⟩ (.slice AN n cN)) = W := ⟨_, rfl⟩
            rw [hX3] at P3 B3 ⊢
            clear hX3
            clear x0 x1 f0 f1
            obtain ⟨a0, a1, a2, a3⟩ : X3.cell? ⟨xa, 0, none⟩ = some (.int .i64 2) ∧ X3.cell? ⟨xa, 1, none⟩ = some (.int .i64 ai) ∧ X3.cell? ⟨xa, 2, none⟩ = some (.string as_) ∧ X3.cell? ⟨xa, 3, none⟩ = some (.slice A3 n3 c3) := ⟨(B3).out.cell 0, (B3).out.cell 1, (B3).out.cell 2, (B3).out.cell 3⟩
            go_wp2_with fail
            have HP := Lib.hid (show Calls Tryd.prog 13 #[.pointer (some ⟨p, 0, none⟩), .int .i64 ai] X3 fun r w' => r = .returned (.int .i64 e2) ∧ ∃ S', Pq S' w' p pd fr st2 D ∧ Stp S X3 S' w' from by have h := release9_q P3.out.q ai; rw [HR.out] at h; exact h)
            refine HP.out.mono ?_
            rintro e w8 ⟨rfl, S8, hq8, hs8⟩
            have P8 := Lib.hid (P3.out.prog hq8 hs8)
            clear hq8 hs8
            go_wp2_with fail
            go_meet
            case rel => exact ⟨e2, S8, st2, D, _, ks, A, c, B, d, rfl, rfl, P8.out, PFN⟩
        · as_aux_lemma =>
            obtain ⟨x0, x1, f0, f1⟩ := cells2 PA.out.bx
            have HC := Lib.hid (settle_d PA.out.lt PA.out.rd HST.out (fr : Int))
            obtain ⟨a0, a1, a2, a3⟩ : XA.cell? ⟨xa, 0, none⟩ = some (.int .i64 3) ∧ XA.cell? ⟨xa, 1, none⟩ = some (.int .i64 ai) ∧ XA.cell? ⟨xa, 2, none⟩ = some (.string as_) ∧ XA.cell? ⟨xa, 3, none⟩ = some (.slice A3 n3 c3) := ⟨(BA).out.cell 0, (BA).out.cell 1, (BA).out.cell 2, (BA).out.cell 3⟩
            have PFN := Lib.hid (PF.out.to (len_settle9 st))
            go_wp2_with fail
            refine HC.out.mono ?_
            rintro e w2 ⟨v2, rfl, hr2, ht2⟩
            obtain ⟨AN, cN, rfl⟩ := hr2.vis (n := n) PFN.out.1
            have P2 := Lib.hid (PA.out.still ht2)
            have R2 := Lib.hid hr2
            clear hr2 ht2 x0 x1 f0 f1 a0 a1 a2 a3
            go_wp2_with fail
            refine (settle9_q P2.out.q).mono ?_
            rintro e w3 ⟨rfl, S3, hq3, hs3⟩
            have P3 := Lib.hid (P2.out.prog hq3 hs3)
            have R3 := Lib.hid (R2.out.stp (Stp.pz gm gx hs3))
            obtain ⟨x0, x1, f0, f1⟩ := cells2 P3.out.bx
            have P4 := Lib.hid (P3.out.setx hz0 R3.out)
            clear hq3 hs3
            go_wp2_with fail
            go_meet
            case rel => exact ⟨0, S3, _, D, _, ks, A, c, B, d, rfl, rfl, P4.out, PFN⟩
        · as_aux_lemma =>
            obtain ⟨x0, x1, f0, f1⟩ := cells2 PA.out.bx
            have HC := Lib.hid (undo_d PA.out.lt PA.out.rd HST.out (fr : Int))
            obtain ⟨a0, a1, a2, a3⟩ : XA.cell? ⟨xa, 0, none⟩ = some (.int .i64 4) ∧ XA.cell? ⟨xa, 1, none⟩ = some (.int .i64 ai) ∧ XA.cell? ⟨xa, 2, none⟩ = some (.string as_) ∧ XA.cell? ⟨xa, 3, none⟩ = some (.slice A3 n3 c3) := ⟨(BA).out.cell 0, (BA).out.cell 1, (BA).out.cell 2, (BA).out.cell 3⟩
            have PFN := Lib.hid (PF.out.to (len_undo9 st))
            go_wp2_with fail
            refine HC.out.mono ?_
            rintro e w2 ⟨v2, rfl, hr2, ht2⟩
            obtain ⟨AN, cN, rfl⟩ := hr2.vis (n := n) PFN.out.1
            have P2 := Lib.hid (PA.out.still ht2)
            have R2 := Lib.hid hr2
            clear hr2 ht2 x0 x1 f0 f1 a0 a1 a2 a3
            go_wp2_with fail
            refine (undo9_q P2.out.q).mono ?_
            rintro e w3 ⟨rfl, S3, hq3, hs3⟩
            have P3 := Lib.hid (P2.out.prog hq3 hs3)
            have R3 := Lib.hid (R2.out.stp (Stp.pz gm gx hs3))
            obtain ⟨x0, x1, f0, f1⟩ := cells2 P3.out.bx
            have P4 := Lib.hid (P3.out.setx hz0 R3.out)
            clear hq3 hs3
            go_wp2_with fail
            go_meet
            case rel => exact ⟨0, S3, _, D, _, ks, A, c, B, d, rfl, rfl, P4.out, PFN⟩
        · as_aux_lemma =>
            obtain ⟨x0, x1, f0, f1⟩ := cells2 PA.out.bx
            obtain ⟨a0, a1, a2, a3⟩ : XA.cell? ⟨xa, 0, none⟩ = some (.int .i64 5) ∧ XA.cell? ⟨xa, 1, none⟩ = some (.int .i64 ai) ∧ XA.cell? ⟨xa, 2, none⟩ = some (.string as_) ∧ XA.cell? ⟨xa, 3, none⟩ = some (.slice A3 n3 c3) := ⟨(BA).out.cell 0, (BA).out.cell 1, (BA).out.cell 2, (BA).out.cell 3⟩
            obtain ⟨⟨st2, e2⟩, hR⟩ : ∃ R, keep9 st azs = R := ⟨_, rfl⟩
            have HR := Lib.hid hR
            have HC := Lib.hid (keep_da PA.out.lt PA.out.rd HST.out (fr : Int) A3 n3 c3 azs HN3.out (by omega) (HIVA.out XA _ PA.out.tn (fun _ h => h.elim)))
            have PFN := Lib.hid (PF.out.to (len_keep9 st azs))
            rw [hR] at HC PFN
            simp only at HC PFN
            clear hR
            go_wp2_with fail
            refine HC.out.mono ?_
            rintro e w2 ⟨v2, rfl, hr2, ht2⟩
            obtain ⟨AN, cN, rfl⟩ := hr2.vis (n := n) PFN.out.1
            have P2 := Lib.hid (PA.out.still ht2)
            have R2 := Lib.hid hr2
            have BA2 := Lib.hid (BA.out.turn ht2 (fun h => h))
            clear hr2 ht2
            clear x0 x1 f0 f1
            clear a0 a1 a2 a3
            obtain ⟨x0, x1, f0, f1⟩ := cells2 P2.out.bx
            have P3 := Lib.hid (P2.out.setx hz0 R2.out)
            have B3 := Lib.hid (X2.act9 BA2.out hgx (.int .i64 (fr : Int)) (.slice AN n cN))
            go_upto_region 32 with fail
            obtain ⟨X3, hX3⟩ : ∃ W, ((w2.setCell ⟨gx, 0, none⟩ (.int .i64 fr)).setCell ⟨gx, 1, none⟩ (.slice AN n cN)) = W := ⟨_, rfl⟩
            rw [hX3] at P3 B3 ⊢
            clear hX3
            clear x0 x1 f0 f1
            obtain ⟨a0, a1, a2, a3⟩ : X3.cell? ⟨xa, 0, none⟩ = some (.int .i64 5) ∧ X3.cell? ⟨xa, 1, none⟩ = some (.int .i64 ai) ∧ X3.cell? ⟨xa, 2, none⟩ = some (.string as_) ∧ X3.cell? ⟨xa, 3, none⟩ = some (.slice A3 n3 c3) := ⟨(B3).out.cell 0, (B3).out.cell 1, (B3).out.cell 2, (B3).out.cell 3⟩
            have hx3 : xa < X3.heap.size := B3.out.lt
            go_wp2_with (first | (at_builtin; refine wpList_app_iv9 rfl _ _ rfl X3.heap.size n3 c3 A3 azs HN3.out rfl rfl (HIVA.out _ _ (P3.out.tn.alloc _) (fun _ h => h.elim)) (by omega) ?_; intro A6 c6 w6 hi6 ht6; have I6 := Lib.hid (hi6 S (fun k hk => by have := P3.out.q.lt k hk; simp; omega)); have P6 := Lib.hid (P3.out.still (((Turn.refl (fun _ => False) X3).alloc _).trans ht6)); clear hi6 ht6))
            have HP := Lib.hid (show Calls Tryd.prog 19 #[.pointer (some ⟨p, 0, none⟩), .slice A6 n3 c6] w6 fun r w' => r = .returned (.int .i64 e2) ∧ ∃ S', Pq S' w' p pd fr st2 D ∧ Stp S w6 S' w' from by have h := keep9_q P6.out.q (.slice A6 n3 c6) azs I6.out (by rw [HN3.out]; omega); rw [HR.out] at h; exact h)
            refine HP.out.mono ?_
            rintro e w8 ⟨rfl, S8, hq8, hs8⟩
            have P8 := Lib.hid (P6.out.prog hq8 hs8)
            clear hq8 hs8
            go_wp2_with fail
            go_meet
            case rel => exact ⟨e2, S8, st2, D, _, ks, A, c, B, d, rfl, rfl, P8.out, PFN⟩
        · as_aux_lemma =>
            obtain ⟨x0, x1, f0, f1⟩ := cells2 PA.out.bx
            obtain ⟨m0, m1, m2, m3, m4, h0_, h1_, h2_, h3_, h4_⟩ := cells5f PA.out.bm
            obtain ⟨a0, a1, a2, a3⟩ : XA.cell? ⟨xa, 0, none⟩ = some (.int .i64 6) ∧ XA.cell? ⟨xa, 1, none⟩ = some (.int .i64 ai) ∧ XA.cell? ⟨xa, 2, none⟩ = some (.string as_) ∧ XA.cell? ⟨xa, 3, none⟩ = some (.slice A3 n3 c3) := ⟨(BA).out.cell 0, (BA).out.cell 1, (BA).out.cell 2, (BA).out.cell 3⟩
            obtain ⟨⟨tx, e2⟩, hR⟩ : ∃ R, rd9 fr st D ai = R := ⟨_, rfl⟩
            have HR := Lib.hid hR
            have HC := Lib.hid (read_d PA.out.rd PA.out.rg PA.out.ok (by have := HPW.out; omega) fr HFR.out ai)
            rw [hR] at HC
            simp only at HC
            clear hR
            obtain ⟨TX, hTX⟩ : ∃ x : ByteArray, (⟨tx.toArray⟩ : ByteArray) = x := ⟨_, rfl⟩
            rw [show sv tx = .string TX by unfold sv; rw [hTX]] at HC
            go_wp2_with fail
            refine HC.out.mono ?_
            rintro e w2 ⟨rfl, ht2⟩
            have P2 := Lib.hid (PA.out.still ht2)
            have BA2 := Lib.hid (BA.out.turn ht2 (fun h => h))
            clear ht2
            clear x0 x1 f0 f1
            clear m0 m1 m2 m3 m4 h0_ h1_ h2_ h3_ h4_
            clear a0 a1 a2 a3
            obtain ⟨a0, a1, a2, a3⟩ : w2.cell? ⟨xa, 0, none⟩ = some (.int .i64 6) ∧ w2.cell? ⟨xa, 1, none⟩ = some (.int .i64 ai) ∧ w2.cell? ⟨xa, 2, none⟩ = some (.string as_) ∧ w2.cell? ⟨xa, 3, none⟩ = some (.slice A3 n3 c3) := ⟨(BA2).out.cell 0, (BA2).out.cell 1, (BA2).out.cell 2, (BA2).out.cell 3⟩
            go_wp2_with fail
            have HP := Lib.hid (read9_q P2.out.q ai)
            rw [HR.out] at HP
            simp only at HP
            refine HP.out.mono ?_
            rintro e w8 ⟨v8, rfl, ho8, ht8⟩
            obtain ⟨mt, hmt⟩ : ∃ k, tx.length = k := ⟨_, rfl⟩
            have hsl := Sl.of_own ho8
            rw [hmt] at ho8
            obtain ⟨A8, c8, rfl⟩ := own_slice9 ho8
            have hcv := sl_conv hsl
            have P8 := Lib.hid (P2.out.still ht8)
            have hne : (TX.toList != TX.toList) = false := by simp
            rw [hTX] at hcv
            clear ho8 ht8 hsl hmt hTX
            go_wp2_with fail
            go_meet
            case rel => exact ⟨e2, S, st, D, _, ks, A, c, B, d, rfl, rfl, P8.out, Lib.hid (PF.out.to rfl)⟩
        · as_aux_lemma =>
            obtain ⟨m0, m1, m2, m3, m4, h0_, h1_, h2_, h3_, h4_⟩ := cells5f PA.out.bm
            obtain ⟨a0, a1, a2, a3⟩ : XA.cell? ⟨xa, 0, none⟩ = some (.int .i64 7) ∧ XA.cell? ⟨xa, 1, none⟩ = some (.int .i64 ai) ∧ XA.cell? ⟨xa, 2, none⟩ = some (.string as_) ∧ XA.cell? ⟨xa, 3, none⟩ = some (.slice A3 n3 c3) := ⟨(BA).out.cell 0, (BA).out.cell 1, (BA).out.cell 2, (BA).out.cell 3⟩
            obtain ⟨⟨D2, e2⟩, hR⟩ : ∃ R, D.arm ai = R := ⟨_, rfl⟩
            have HR := Lib.hid hR
            have HC := Lib.hid (arm_rg PA.out.rg ai)
            have PFN := Lib.hid (PF.out.arm ai)
            rw [hR] at HC PFN
            simp only at HC PFN
            clear hR
            go_wp2_with fail
            refine HC.out.mono ?_
            rintro e w2 ⟨rfl, hg2, ht2⟩
            have P2 := Lib.hid (PA.out.still ht2)
            have R2 := Lib.hid hg2
            have BA2 := Lib.hid (BA.out.turn ht2 (fun h => h))
            clear hg2 ht2
            clear m0 m1 m2 m3 m4 h0_ h1_ h2_ h3_ h4_
            clear a0 a1 a2 a3
            obtain ⟨m0, m1, m2, m3, m4, h0_, h1_, h2_, h3_, h4_⟩ := cells5f P2.out.bm
            have P3 := Lib.hid (P2.out.setm hz0 R2.out)
            have B3 := Lib.hid (FW.act9 BA2.out hgm D2 ks A c B d)
            go_upto_region 41 with fail
            obtain ⟨X3, hX3⟩ : ∃ W, FW w2 gm D2 ks A c B d = W := ⟨_, rfl⟩
            rw [hX3] at P3 B3
            unfold FW at hX3
            rw [hX3]
            clear hX3
            clear m0 m1 m2 m3 m4 h0_ h1_ h2_ h3_ h4_
            obtain ⟨a0, a1, a2, a3⟩ : X3.cell? ⟨xa, 0, none⟩ = some (.int .i64 7) ∧ X3.cell? ⟨xa, 1, none⟩ = some (.int .i64 ai) ∧ X3.cell? ⟨xa, 2, none⟩ = some (.string as_) ∧ X3.cell? ⟨xa, 3, none⟩ = some (.slice A3 n3 c3) := ⟨(B3).out.cell 0, (B3).out.cell 1, (B3).out.cell 2, (B3).out.cell 3⟩
            go_wp2_with fail
            have HP := Lib.hid (show Calls Tryd.prog 23 #[.pointer (some ⟨pd, 0, none⟩), .int .i64 ai] X3 fun r w' => r = .returned (.int .i64 e2) ∧ ∃ S', Pq S' w' p pd fr st D2 ∧ Stp S X3 S' w' from by have h := arm9_q P3.out.q ai hb2; rw [HR.out] at h; exact h)
            refine HP.out.mono ?_
            rintro e w8 ⟨rfl, S8, hq8, hs8⟩
            have P8 := Lib.hid (P3.out.prog hq8 hs8)
            clear hq8 hs8
            go_wp2_with fail
            go_meet
            case rel => exact ⟨e2, S8, st, D2, _, ks, A, c, B, d, rfl, rfl, P8.out, PFN⟩
        · as_aux_lemma =>
            obtain ⟨m0, m1, m2, m3, m4, h0_, h1_, h2_, h3_, h4_⟩ := cells5f PA.out.bm
            obtain ⟨a0, a1, a2, a3⟩ : XA.cell? ⟨xa, 0, none⟩ = some (.int .i64 8) ∧ XA.cell? ⟨xa, 1, none⟩ = some (.int .i64 ai) ∧ XA.cell? ⟨xa, 2, none⟩ = some (.string as_) ∧ XA.cell? ⟨xa, 3, none⟩ = some (.slice A3 n3 c3) := ⟨(BA).out.cell 0, (BA).out.cell 1, (BA).out.cell 2, (BA).out.cell 3⟩
            obtain ⟨D2, hR⟩ : ∃ R, D.crashed azs = R := ⟨_, rfl⟩
            have HR := Lib.hid hR
            have HC := Lib.hid (crash_rg PA.out.lt PA.out.rg PA.out.ok (by have := HPW.out; omega) (.slice A3 n3 c3) azs (by rw [HN3.out]; omega) (HIVA.out XA _ PA.out.tn (fun _ h => h.elim)))
            have PFN := Lib.hid (PF.out.crash azs)
            rw [hR] at HC PFN
            clear hR
            go_wp2_with fail
            refine HC.out.mono ?_
            rintro e w2 ⟨ks2, A2, c2, B2, d2, rfl, hg2, ht2⟩
            have P2 := Lib.hid (PA.out.still ht2)
            have R2 := Lib.hid hg2
            have BA2 := Lib.hid (BA.out.turn ht2 (fun h => h))
            clear hg2 ht2
            clear m0 m1 m2 m3 m4 h0_ h1_ h2_ h3_ h4_
            clear a0 a1 a2 a3
            obtain ⟨m0, m1, m2, m3, m4, h0_, h1_, h2_, h3_, h4_⟩ := cells5f P2.out.bm
            have P3 := Lib.hid (P2.out.setm hz0 R2.out)
            have B3 := Lib.hid (FW.act9 BA2.out hgm D2 ks2 A2 c2 B2 d2)
            go_upto_region 44 with fail
            obtain ⟨X3, hX3⟩ : ∃ W, FW w2 gm D2 ks2 A2 c2 B2 d2 = W := ⟨_, rfl⟩
            rw [hX3] at P3 B3
            unfold FW at hX3
            rw [hX3]
            clear hX3
            clear m0 m1 m2 m3 m4 h0_ h1_ h2_ h3_ h4_
            obtain ⟨a0, a1, a2, a3⟩ : X3.cell? ⟨xa, 0, none⟩ = some (.int .i64 8) ∧ X3.cell? ⟨xa, 1, none⟩ = some (.int .i64 ai) ∧ X3.cell? ⟨xa, 2, none⟩ = some (.string as_) ∧ X3.cell? ⟨xa, 3, none⟩ = some (.slice A3 n3 c3) := ⟨(B3).out.cell 0, (B3).out.cell 1, (B3).out.cell 2, (B3).out.cell 3⟩
            have hx3 : xa < X3.heap.size := B3.out.lt
            go_wp2_with (first | (at_builtin; refine wpList_app_iv9 rfl _ _ rfl X3.heap.size n3 c3 A3 azs HN3.out rfl rfl (HIVA.out _ _ (P3.out.tn.alloc _) (fun _ h => h.elim)) (by omega) ?_; intro A6 c6 w6 hi6 ht6; have I6 := Lib.hid (hi6 S (fun k hk => by have := P3.out.q.lt k hk; simp; omega)); have P6 := Lib.hid (P3.out.still (((Turn.refl (fun _ => False) X3).alloc _).trans ht6)); clear hi6 ht6))
            have HP := Lib.hid (show Calls Tryd.prog 25 #[.pointer (some ⟨pd, 0, none⟩), .slice A6 n3 c6] w6 fun r w' => r = .returned (.int .i64 0) ∧ ∃ S', Pq S' w' p pd fr st D2 ∧ Stp S w6 S' w' from by have h := crash9_q P6.out.q (.slice A6 n3 c6) azs I6.out (by rw [HN3.out]; omega) (by have := HPW.out; omega); rw [HR.out] at h; exact h)
            refine HP.out.mono ?_
            rintro e w8 ⟨rfl, S8, hq8, hs8⟩
            have P8 := Lib.hid (P6.out.prog hq8 hs8)
            clear hq8 hs8
            go_wp2_with fail
            go_meet
            case rel => exact ⟨0, S8, st, D2, _, ks2, A2, c2, B2, d2, rfl, rfl, P8.out, PFN⟩
        · as_aux_lemma =>
            obtain ⟨x0, x1, f0, f1⟩ := cells2 PA.out.bx
            obtain ⟨m0, m1, m2, m3, m4, h0_, h1_, h2_, h3_, h4_⟩ := cells5f PA.out.bm
            obtain ⟨a0, a1, a2, a3⟩ : XA.cell? ⟨xa, 0, none⟩ = some (.int .i64 ak) ∧ XA.cell? ⟨xa, 1, none⟩ = some (.int .i64 ai) ∧ XA.cell? ⟨xa, 2, none⟩ = some (.string as_) ∧ XA.cell? ⟨xa, 3, none⟩ = some (.slice A3 n3 c3) := ⟨(BA).out.cell 0, (BA).out.cell 1, (BA).out.cell 2, (BA).out.cell 3⟩
            obtain ⟨⟨st2, D2, k2, e2⟩, hR⟩ : ∃ R, wr9 fr st D as_.data.toList = R := ⟨_, rfl⟩
            have HR := Lib.hid hR
            have HC := Lib.hid (write_d PA.out.lt PA.out.rd PA.out.rg PA.out.ok (by have := HPW.out; omega) fr HFR.out as_)
            have PFN := Lib.hid (PF.out.wr fr as_.data.toList)
            rw [hR] at HC PFN
            simp only at HC PFN
            clear hR
            go_wp2_with fail
            refine HC.out.mono ?_
            rintro e w2 ⟨v2, B2, d2, rfl, hr2, hg2, ht2⟩
            obtain ⟨AN, cN, rfl⟩ := hr2.vis (n := n) PFN.out.1
            obtain ⟨Y, hY⟩ : ∃ W, w2.alloc (.cells #[.int .i64 fr, .slice AN n cN] 40) = W := ⟨_, rfl⟩
            obtain ⟨X3, hX3⟩ : ∃ W, Y.alloc (.cells #[.int .i64 D2.kept.length, .slice A ks.length c, .slice B2 D2.pend.length d2, .int .i64 D2.fuse, .bool D2.dead] 32) = W := ⟨_, rfl⟩
            have hsY : Y.heap.size = w2.heap.size + 1 := by rw [← hY]; simp
            have T23 : Hid (Turn (fun _ => False) w2 X3) := Lib.hid (by rw [← hX3, ← hY]; exact ((Turn.refl _ _).alloc _).alloc _)
            have BY : Hid (Blk X3 w2.heap.size 40 [.int .i64 fr, .slice AN n cN]) := Lib.hid (by rw [← hX3, ← hY]; exact (Blk.new _ _ _).alloc _)
            have BZ : Hid (Blk X3 (w2.heap.size + 1) 32 [.int .i64 D2.kept.length, .slice A ks.length c, .slice B2 D2.pend.length d2, .int .i64 D2.fuse, .bool D2.dead]) := Lib.hid (by rw [← hX3]; exact Blk.new_ _ _ _ hsY)
            have P2 := Lib.hid (PA.out.still ht2)
            have hy1 : Hid (gx < w2.heap.size ∧ gm < w2.heap.size ∧ ∀ k, S k → k < w2.heap.size) := Lib.hid ⟨P2.out.bx.lt, P2.out.bm.lt, P2.out.q.lt⟩
            have P3 := Lib.hid (P2.out.still T23.out)
            have R3 := Lib.hid (hr2.still T23.out)
            have G3 := Lib.hid (hg2.still T23.out)
            have B3 := Lib.hid (BA.out.turn (ht2.trans T23.out) (fun h => h))
            have HY := Lib.hid hY
            have HX3 := Lib.hid hX3
            clear hr2 hg2 ht2 hY hX3 hsY
            clear x0 x1 f0 f1
            clear m0 m1 m2 m3 m4 h0_ h1_ h2_ h3_ h4_
            clear a0 a1 a2 a3
            go_upto_region 16 with fail
            rw [HY.out, HX3.out]
            clear HY HX3
            obtain ⟨y, hy⟩ : ∃ g, w2.heap.size = g := ⟨_, rfl⟩
            rw [hy] at BY BZ hy1 ⊢
            clear hy
            obtain ⟨a0, a1, a2, a3⟩ : X3.cell? ⟨xa, 0, none⟩ = some (.int .i64 ak) ∧ X3.cell? ⟨xa, 1, none⟩ = some (.int .i64 ai) ∧ X3.cell? ⟨xa, 2, none⟩ = some (.string as_) ∧ X3.cell? ⟨xa, 3, none⟩ = some (.slice A3 n3 c3) := ⟨(B3).out.cell 0, (B3).out.cell 1, (B3).out.cell 2, (B3).out.cell 3⟩
            go_wp2_with (first | (refine wpList_conv_ba (by first | (go_simp; done) | rfl) _ rfl S as_ rfl P3.out.q.lt ?_; intro g4 c4 w4 hba ht4; have HBA := Lib.hid hba; have P4 := Lib.hid (P3.out.still ht4); have T34 := Lib.hid ht4; clear hba ht4))
            have HP := Lib.hid (write9_any P4.out.q HBA.out (by have := HPW.out; omega))
            rw [HR.out] at HP
            simp only at HP
            refine HP.out.mono ?_
            rintro e w8 ⟨rfl, S8, hq8, hs8⟩
            have P8 := Lib.hid (P4.out.prog hq8 hs8)
            have R8 := Lib.hid ((R3.out.still T34.out).stp (Stp.pz gm gx hs8))
            have G8 := Lib.hid ((G3.out.still T34.out).stp (Stp.pz gm gx hs8))
            have BY8 := Lib.hid ((BY.out.turn T34.out (fun h => h)).turn hs8.1 (fun h => by have := hy1.out.2.2 y h; omega))
            have BZ8 := Lib.hid ((BZ.out.turn T34.out (fun h => h)).turn hs8.1 (fun h => by have := hy1.out.2.2 (y + 1) h; omega))
            have BPW : Hid (∀ W, Turn (fun k => k = gx ∨ k = gm) w8 W → W.cell? ⟨y, 0, none⟩ = some (.int .i64 fr) ∧ W.cell? ⟨y, 1, none⟩ = some (.slice AN n cN)) := Lib.hid (fun W hW => by have h := BY8.out.turn hW (fun h => by have := hy1.out; omega); exact ⟨h.cell 0, h.cell 1⟩)
            have BDW : Hid (∀ W, Turn (fun k => k = gx ∨ k = gm) w8 W → W.cell? ⟨y + 1, 0, none⟩ = some (.int .i64 D2.kept.length) ∧ W.cell? ⟨y + 1, 1, none⟩ = some (.slice A ks.length c) ∧ W.cell? ⟨y + 1, 2, none⟩ = some (.slice B2 D2.pend.length d2) ∧ W.cell? ⟨y + 1, 3, none⟩ = some (.int .i64 D2.fuse) ∧ W.cell? ⟨y + 1, 4, none⟩ = some (.bool D2.dead)) := Lib.hid (fun W hW => by have h := BZ8.out.turn hW (fun h => by have := hy1.out; omega); exact ⟨h.cell 0, h.cell 1, h.cell 2, h.cell 3, h.cell 4⟩)
            clear hq8 hs8 a0 a1 a2 a3
            go_wp2_with fail
            refine wp_region_noPanic ?_
            refine wp_region_held_drew (S := fun X => Turn (fun k => k = gx ∨ k = gm) w8 X) (by kernel_rfl) ((Turn.refl (fun k => k = gx ∨ k = gm) w8).drew) (fun hHeld => ?_)
            refine wpAnyH_named9 (fun X0 hX0 => ?_)
            have T0 : Hid (Turn (fun _ => False) w8 X0) := Lib.hid (by rw [hX0]; exact (Turn.refl _ _).drew)
            have hH0 := T0.out.mono (T := fun k => k = gx ∨ k = gm) (fun _ _ h => h.elim)
            have PX := Lib.hid (P8.out.still T0.out)
            have RX := Lib.hid (R8.out.still T0.out)
            have GX := Lib.hid (G8.out.still T0.out)
            clear hHeld hX0
            refine wpAnyH_take (i := 0) (v := ?_) rfl (by kernel_rfl) (by kernel_rfl) (by kernel_rfl) (fun _ _ _ h => h) (Or.inl ⟨by rfl, ?_⟩) (by assumption) ?_
            rotate_left 1
            · intro w' hSw
              obtain ⟨x0, x1⟩ := BPW.out _ hSw
              go_simp
              all_goals first | with_reducible rfl | (rw [if_neg (by omega)]; done) | (rw [if_neg (by omega)]; with_reducible rfl)
            try simp only [List.getElem_toArray, List.getElem_cons_zero, List.getElem_cons_succ, Act.put, List.setIfInBounds_toArray, List.set_cons_zero, List.set_cons_succ]
            refine wpAnyH_take (i := 1) (v := ?_) rfl (by kernel_rfl) (by kernel_rfl) (by kernel_rfl) (fun _ _ _ h => h) (Or.inl ⟨by rfl, ?_⟩) (by assumption) ?_
            rotate_left 1
            · intro w' hSw
              obtain ⟨x0, x1, x2, x3, x4⟩ := BDW.out _ hSw
              go_simp
              all_goals first | with_reducible rfl | (rw [if_neg (by omega)]; done) | (rw [if_neg (by omega)]; with_reducible rfl)
            try simp only [List.getElem_toArray, List.getElem_cons_zero, List.getElem_cons_succ, Act.put, List.setIfInBounds_toArray, List.set_cons_zero, List.set_cons_succ]
            refine wpAnyH_take (i := 2) (v := ?_) rfl (by kernel_rfl) (by kernel_rfl) (by kernel_rfl) (fun _ _ _ h => h) (Or.inl ⟨by rfl, ?_⟩) (by assumption) ?_
            rotate_left 1
            · intro w' hSw
              go_simp
              all_goals first | with_reducible rfl | (rw [if_neg (by omega)]; done) | (rw [if_neg (by omega)]; with_reducible rfl)
            try simp only [List.getElem_toArray, List.getElem_cons_zero, List.getElem_cons_succ, Act.put, List.setIfInBounds_toArray, List.set_cons_zero, List.set_cons_succ]
            refine wpAnyH_take (i := 3) (v := ?_) rfl (by kernel_rfl) (by kernel_rfl) (by kernel_rfl) (fun _ _ _ h => h) (Or.inl ⟨by rfl, ?_⟩) (by assumption) ?_
            rotate_left 1
            · intro w' hSw
              go_simp
              all_goals first | with_reducible rfl | (rw [if_neg (by omega)]; done) | (rw [if_neg (by omega)]; with_reducible rfl)
            try simp only [List.getElem_toArray, List.getElem_cons_zero, List.getElem_cons_succ, Act.put, List.setIfInBounds_toArray, List.set_cons_zero, List.set_cons_succ]
            refine wpAnyH_ready (rs := [4]) (by kernel_rfl) (by simp) ?_
            refine AllReadyH.cons rfl (fun K hK => ?_) AllReadyH.nil
            obtain ⟨x0, x1, f0, f1⟩ := cells2 PX.out.bx
            go_simp
            refine hK.out _ _ ((hH0.setCell (p := ⟨gx, 0, none⟩) (.inl (.inl rfl)) _).setCell (p := ⟨gx, 1, none⟩) (.inl (.inl rfl)) _) (fun hHeld => ?_)
            refine wpAnyH_named9 (fun X1 e1 => ?_)
            have PY := Lib.hid (PX.out.setx hz0 RX.out)
            have TXX := (box2 PX.out.bx (.int .i64 (fr : Int)) (.slice AN n cN)).2.1
            have GY := Lib.hid (GX.out.stp (S' := Pz S8 gm gx) ⟨TXX.mono (fun k _ e => .inr (.inr e)), fun k hk => .inl hk⟩)
            have hH1 := hH0.trans (TXX.mono (fun k _ e => .inl e))
            rw [← e1] at PY GY hH1
            clear hK K hHeld e1 TXX x0 x1 f0 f1
            try simp only [List.getElem_toArray, List.getElem_cons_zero, List.getElem_cons_succ, Act.put, List.setIfInBounds_toArray, List.set_cons_zero, List.set_cons_succ]
            refine wpAnyH_ready (rs := [5]) (by kernel_rfl) (by simp) ?_
            refine AllReadyH.cons rfl (fun K hK => ?_) AllReadyH.nil
            obtain ⟨m0, m1, m2, m3, m4, h0_, h1_, h2_, h3_, h4_⟩ := cells5f PY.out.bm
            have hS2 := ((((hH1.setCell (p := ⟨gm, 0, none⟩) (.inl (.inr rfl)) (.int .i64 (D2.kept.length : Int))).setCell (p := ⟨gm, 1, none⟩) (.inl (.inr rfl)) (.slice A ks.length c)).setCell (p := ⟨gm, 2, none⟩) (.inl (.inr rfl)) (.slice B2 D2.pend.length d2)).setCell (p := ⟨gm, 3, none⟩) (.inl (.inr rfl)) (.int .i64 D2.fuse)).setCell (p := ⟨gm, 4, none⟩) (.inl (.inr rfl)) (.bool D2.dead)
            go_simp
            refine hK.out _ _ hS2 (fun hHeld => ?_)
            refine wpAnyH_named9 (fun X2 e2_ => ?_)
            have PZ := Lib.hid (PY.out.setm hz0 GY.out)
            unfold FW at PZ
            rw [← e2_] at PZ
            have hH2 : Turn (fun k => k = gx ∨ k = gm) w8 X2 := by rw [e2_]; exact hS2
            clear hK K hHeld e2_ hS2 m0 m1 m2 m3 m4 h0_ h1_ h2_ h3_ h4_
            try simp only [List.getElem_toArray, List.getElem_cons_zero, List.getElem_cons_succ, Act.put, List.setIfInBounds_toArray, List.set_cons_zero, List.set_cons_succ]
            refine wpAnyH_take (i := 6) (v := ?_) rfl (by kernel_rfl) (by kernel_rfl) (by kernel_rfl) (fun _ _ _ h => h) (Or.inl ⟨by rfl, ?_⟩) (by assumption) ?_
            rotate_left 1
            · intro w' hSw
              go_simp
              all_goals first | with_reducible rfl | (rw [if_neg (by omega)]; done) | (rw [if_neg (by omega)]; with_reducible rfl)
            try simp only [List.getElem_toArray, List.getElem_cons_zero, List.getElem_cons_succ, Act.put, List.setIfInBounds_toArray, List.set_cons_zero, List.set_cons_succ]
            refine wpAnyH_take (i := 7) (v := ?_) rfl (by kernel_rfl) (by kernel_rfl) (by kernel_rfl) (fun _ _ _ h => h) (Or.inl ⟨by rfl, ?_⟩) (by assumption) ?_
            rotate_left 1
            · intro w' hSw
              go_simp
              all_goals first | with_reducible rfl | (rw [if_neg (by omega)]; done) | (rw [if_neg (by omega)]; with_reducible rfl)
            try simp only [List.getElem_toArray, List.getElem_cons_zero, List.getElem_cons_succ, Act.put, List.setIfInBounds_toArray, List.set_cons_zero, List.set_cons_succ]
            refine wpAnyH_done (by kernel_rfl) ?_ _
            refine NoPanic.normal ?_
            go_wp2_with fail
            go_meet
            case rel => exact ⟨e2, S8, st2, D2, _, ks, A, c, B2, d2, rfl, rfl, PZ.out, PFN⟩
      case rest =>
        clear PA PF
        obtain ⟨e5, S5, st5, D5, v5, ks5, A5, c5, B5, d5, rfl, rfl, hP5, PF5⟩ := hcut
        as_aux_lemma =>
          have P5 := Lib.hid hP5
          obtain ⟨A7, c7, rfl⟩ := hP5.rd.vis PF5.out.1
          have HAL : Hid (∀ X, Turn (fun _ => False) wc X → Calls Tryd.prog 28 #[.pointer (some ⟨p, 0, none⟩), .agg #[.int .i64 fr, .slice A7 n c7]] X fun e w' => ∃ v, e = .returned v ∧ (v = .bool true ∧ Turn (fun _ => False) X w')) := Lib.hid (fun X hX => (alike_any (P5.out.still hX).q (P5.out.still hX).rd (by rw [PF5.out.1]; omega)).mono fun e w' ⟨h1, h2⟩ => ⟨_, h1, rfl, h2⟩)
          have HPE : Hid (∀ X, Turn (fun _ => False) wc X → Calls Tryd.prog 29 #[.pointer (some ⟨pd, 0, none⟩)] X fun e w' => ∃ v, e = .returned v ∧ (v = .int .i64 D5.pend.length ∧ w' = X)) := Lib.hid (fun X hX => (pending9_q (P5.out.still hX).q).mono fun e w' ⟨h1, h2⟩ => ⟨_, h1, rfl, h2⟩)
          clear hP5
          obtain ⟨pn, hpn⟩ : ∃ k, D5.pend.length = k := ⟨_, rfl⟩
          go_upto_region 45 with fail
          refine wp_region_noPanic ?_
          refine wp_region_held_drew (S := fun X => Turn (fun _ => False) wc X) (by kernel_rfl) ((Turn.refl (fun _ => False) wc).drew) (fun hHeld => ?_)
          have T0 : Hid (Turn (fun _ => False) wc wc.drew) := Lib.hid ((Turn.refl (fun _ => False) wc).drew)
          clear hHeld hpn pn
          refine wpAnyH_take (i := 0) (v := ?_) rfl (by kernel_rfl) (by kernel_rfl) (by kernel_rfl) (fun _ _ _ h => h) (Or.inl ⟨by rfl, ?_⟩) (by assumption) ?_
          rotate_left 1
          · intro w' hSw
            go_simp
            all_goals first | with_reducible rfl | (rw [if_neg (by omega)]; done) | (rw [if_pos (by omega)]; done) | (rw [if_neg (by omega)]; with_reducible rfl) | (rw [if_pos (by omega)]; with_reducible rfl)
          try simp only [List.getElem_toArray, List.getElem_cons_zero, Act.put, List.setIfInBounds_toArray, List.set_cons_zero, List.set_cons_succ]
          refine wpAnyH_take (i := 1) (v := ?_) rfl (by kernel_rfl) (by kernel_rfl) (by kernel_rfl) (fun _ _ _ h => h) (Or.inl ⟨by rfl, ?_⟩) (by assumption) ?_
          rotate_left 1
          · intro w' hSw
            go_simp
            all_goals first | with_reducible rfl | (rw [if_neg (by omega)]; done) | (rw [if_pos (by omega)]; done) | (rw [if_neg (by omega)]; with_reducible rfl) | (rw [if_pos (by omega)]; with_reducible rfl)
          try simp only [List.getElem_toArray, List.getElem_cons_zero, List.getElem_cons_succ, Act.put, List.setIfInBounds_toArray, List.set_cons_zero, List.set_cons_succ]
          refine wpAnyH_take (i := 2) (v := ?_) rfl (by kernel_rfl) (by kernel_rfl) (by kernel_rfl) (fun _ _ _ h => h) (Or.inl ⟨by rfl, ?_⟩) (by assumption) ?_
          rotate_left 1
          · intro w' hSw
            go_simp
            all_goals first | with_reducible rfl | (rw [if_neg (by omega)]; done) | (rw [if_pos (by omega)]; done) | (rw [if_neg (by omega)]; with_reducible rfl) | (rw [if_pos (by omega)]; with_reducible rfl)
          try simp only [List.getElem_toArray, List.getElem_cons_zero, List.getElem_cons_succ, Act.put, List.setIfInBounds_toArray, List.set_cons_zero, List.set_cons_succ]
          refine wpAnyH_take (i := 3) (v := ?_) rfl (by kernel_rfl) (by kernel_rfl) (by kernel_rfl) (fun _ _ _ h => h) (Or.inl ⟨by rfl, ?_⟩) (by assumption) ?_
          rotate_left 1
          · intro w' hSw
            go_simp
            all_goals first | with_reducible rfl | (rw [if_neg (by omega)]; done) | (rw [if_pos (by omega)]; done) | (rw [if_neg (by omega)]; with_reducible rfl) | (rw [if_pos (by omega)]; with_reducible rfl)
          try simp only [List.getElem_toArray, List.getElem_cons_zero, List.getElem_cons_succ, Act.put, List.setIfInBounds_toArray, List.set_cons_zero, List.set_cons_succ]
          refine wpAnyH_take (i := 4) (v := ?_) rfl (by kernel_rfl) (by kernel_rfl) (by kernel_rfl) (fun _ _ _ h => h) (Or.inl ⟨by rfl, ?_⟩) (by assumption) ?_
          rotate_left 1
          · intro w' hSw
            go_simp
            all_goals first | with_reducible rfl | (rw [if_neg (by omega)]; done) | (rw [if_pos (by omega)]; done) | (rw [if_neg (by omega)]; with_reducible rfl) | (rw [if_pos (by omega)]; with_reducible rfl)
          try simp only [List.getElem_toArray, List.getElem_cons_zero, List.getElem_cons_succ, Act.put, List.setIfInBounds_toArray, List.set_cons_zero, List.set_cons_succ]
          refine wpAnyH_take (i := 5) (v := ?_) rfl (by kernel_rfl) (by kernel_rfl) (by kernel_rfl) (fun _ _ _ h => h) (Or.inl ⟨by rfl, ?_⟩) (by assumption) ?_
          rotate_left 1
          · intro w' hSw
            have hS1 := hSw
            obtain ⟨x0, x1, _, _⟩ := cells2 (P5.out.bx.turn hS1 (fun h => h))
            go_simp
            all_goals first | with_reducible rfl | (rw [if_neg (by omega)]; done) | (rw [if_pos (by omega)]; done) | (rw [if_neg (by omega)]; with_reducible rfl) | (rw [if_pos (by omega)]; with_reducible rfl)
          try simp only [List.getElem_toArray, List.getElem_cons_zero, List.getElem_cons_succ, Act.put, List.setIfInBounds_toArray, List.set_cons_zero, List.set_cons_succ]
          refine wpAnyH_ready (rs := [6]) (by kernel_rfl) (by simp) ?_
          refine AllReadyH.cons rfl (fun K hK => ?_) AllReadyH.nil
          refine step_call_on 28 Tryd.f28 _ _ rfl Tryd.func28 (by kernel_rfl) (by kernel_rfl) _ _ (HAL.out _ T0.out) (by go_simp) (by first | rfl | go_simp) ?_
          rintro v9 w9 ⟨rfl, ht⟩
          have T1 := Lib.hid (T0.out.trans ht)
          clear ht
          refine hK.out _ _ T1.out (fun hHeld => ?_)
          clear hHeld
          clear hK K
          try simp only [List.getElem_toArray, List.getElem_cons_zero, List.getElem_cons_succ, Act.put, List.setIfInBounds_toArray, List.set_cons_zero, List.set_cons_succ]
          refine wpAnyH_take (i := 7) (v := ?_) rfl (by kernel_rfl) (by kernel_rfl) (by kernel_rfl) (fun _ _ _ h => h) (Or.inl ⟨by rfl, ?_⟩) (by assumption) ?_
          rotate_left 1
          · intro w' hSw
            go_simp
            all_goals first | with_reducible rfl | (rw [if_neg (by omega)]; done) | (rw [if_pos (by omega)]; done) | (rw [if_neg (by omega)]; with_reducible rfl) | (rw [if_pos (by omega)]; with_reducible rfl)
          try simp only [List.getElem_toArray, List.getElem_cons_zero, List.getElem_cons_succ, Act.put, List.setIfInBounds_toArray, List.set_cons_zero, List.set_cons_succ]
          refine wpAnyH_take (i := 8) (v := ?_) rfl (by kernel_rfl) (by kernel_rfl) (by kernel_rfl) (fun _ _ _ h => h) (Or.inl ⟨by rfl, ?_⟩) (by assumption) ?_
          rotate_left 1
          · intro w' hSw
            go_simp
            all_goals first | with_reducible rfl | (rw [if_neg (by omega)]; done) | (rw [if_pos (by omega)]; done) | (rw [if_neg (by omega)]; with_reducible rfl) | (rw [if_pos (by omega)]; with_reducible rfl)
          try simp only [List.getElem_toArray, List.getElem_cons_zero, List.getElem_cons_succ, Act.put, List.setIfInBounds_toArray, List.set_cons_zero, List.set_cons_succ]
          refine wpAnyH_take (i := 9) (v := ?_) rfl (by kernel_rfl) (by kernel_rfl) (by kernel_rfl) (fun _ _ _ h => h) (Or.inl ⟨by rfl, ?_⟩) (by assumption) ?_
          rotate_left 1
          · intro w' hSw
            go_simp
            all_goals first | with_reducible rfl | (rw [if_neg (by omega)]; done) | (rw [if_pos (by omega)]; done) | (rw [if_neg (by omega)]; with_reducible rfl) | (rw [if_pos (by omega)]; with_reducible rfl)
          try simp only [List.getElem_toArray, List.getElem_cons_zero, List.getElem_cons_succ, Act.put, List.setIfInBounds_toArray, List.set_cons_zero, List.set_cons_succ]
          refine wpAnyH_take (i := 10) (v := ?_) rfl (by kernel_rfl) (by kernel_rfl) (by kernel_rfl) (fun _ _ _ h => h) (Or.inl ⟨by rfl, ?_⟩) (by assumption) ?_
          rotate_left 1
          · intro w' hSw
            go_simp
            all_goals first | with_reducible rfl | (rw [if_neg (by omega)]; done) | (rw [if_pos (by omega)]; done) | (rw [if_neg (by omega)]; with_reducible rfl) | (rw [if_pos (by omega)]; with_reducible rfl)
          try simp only [List.getElem_toArray, List.getElem_cons_zero, List.getElem_cons_succ, Act.put, List.setIfInBounds_toArray, List.set_cons_zero, List.set_cons_succ]
          refine wpAnyH_take (i := 12) (v := ?_) rfl (by kernel_rfl) (by kernel_rfl) (by kernel_rfl) (fun _ _ _ h => h) (Or.inl ⟨by rfl, ?_⟩) (by assumption) ?_
          rotate_left 1
          · intro w' hSw
            go_simp
            all_goals first | with_reducible rfl | (rw [if_neg (by omega)]; done) | (rw [if_pos (by omega)]; done) | (rw [if_neg (by omega)]; with_reducible rfl) | (rw [if_pos (by omega)]; with_reducible rfl)
          try simp only [List.getElem_toArray, List.getElem_cons_zero, List.getElem_cons_succ, Act.put, List.setIfInBounds_toArray, List.set_cons_zero, List.set_cons_succ]
          refine wpAnyH_take (i := 13) (v := ?_) rfl (by kernel_rfl) (by kernel_rfl) (by kernel_rfl) (fun _ _ _ h => h) (Or.inl ⟨by rfl, ?_⟩) (by assumption) ?_
          rotate_left 1
          · intro w' hSw
            have hS1 := hSw
            have x2 := (cells5f (P5.out.bm.turn hS1 (fun h => h))).2.2.1
            go_simp
            all_goals first | with_reducible rfl | (rw [if_neg (by omega)]; done) | (rw [if_pos (by omega)]; done) | (rw [if_neg (by omega)]; with_reducible rfl) | (rw [if_pos (by omega)]; with_reducible rfl)
          try simp only [List.getElem_toArray, List.getElem_cons_zero, List.getElem_cons_succ, Act.put, List.setIfInBounds_toArray, List.set_cons_zero, List.set_cons_succ]
          refine wpAnyH_take (i := 14) (v := ?_) rfl (by kernel_rfl) (by kernel_rfl) (by kernel_rfl) (fun _ _ _ h => h) (Or.inl ⟨by rfl, ?_⟩) (by assumption) ?_
          rotate_left 1
          · intro w' hSw
            go_simp
            all_goals first | with_reducible rfl | (rw [if_neg (by omega)]; done) | (rw [if_pos (by omega)]; done) | (rw [if_neg (by omega)]; with_reducible rfl) | (rw [if_pos (by omega)]; with_reducible rfl)
          try simp only [List.getElem_toArray, List.getElem_cons_zero, List.getElem_cons_succ, Act.put, List.setIfInBounds_toArray, List.set_cons_zero, List.set_cons_succ]
          refine wpAnyH_ready (rs := [11]) (by kernel_rfl) (by simp) ?_
          refine AllReadyH.cons rfl (fun K hK => ?_) AllReadyH.nil
          refine step_call_on 29 Tryd.f29 _ _ rfl Tryd.func29 (by kernel_rfl) (by kernel_rfl) _ _ (HPE.out _ T1.out) (by go_simp) (by first | rfl | go_simp) ?_
          rintro v9 w10 ⟨rfl, hw9⟩
          subst hw9
          refine hK.out _ _ T1.out (fun hHeld => ?_)
          clear hHeld
          clear hK K
          try simp only [List.getElem_toArray, List.getElem_cons_zero, List.getElem_cons_succ, Act.put, List.setIfInBounds_toArray, List.set_cons_zero, List.set_cons_succ]
          refine wpAnyH_take (i := 15) (v := ?_) rfl (by kernel_rfl) (by kernel_rfl) (by kernel_rfl) (fun _ _ _ h => h) (Or.inl ⟨by rfl, ?_⟩) (by assumption) ?_
          rotate_left 1
          · intro w' hSw
            go_simp
            all_goals first | with_reducible rfl | (rw [if_neg (by omega)]; done) | (rw [if_pos (by omega)]; done) | (rw [if_neg (by omega)]; with_reducible rfl) | (rw [if_pos (by omega)]; with_reducible rfl)
          try simp only [List.getElem_toArray, List.getElem_cons_zero, List.getElem_cons_succ, Act.put, List.setIfInBounds_toArray, List.set_cons_zero, List.set_cons_succ]
          refine wpAnyH_take (i := 16) (v := ?_) rfl (by kernel_rfl) (by kernel_rfl) (by kernel_rfl) (fun _ _ _ h => h) (Or.inl ⟨by rfl, ?_⟩) (by assumption) ?_
          rotate_left 1
          · intro w' hSw
            go_simp
            all_goals first | with_reducible rfl | (rw [if_neg (by omega)]; done) | (rw [if_pos (by omega)]; done) | (rw [if_neg (by omega)]; with_reducible rfl) | (rw [if_pos (by omega)]; with_reducible rfl)
          try simp only [List.getElem_toArray, List.getElem_cons_zero, List.getElem_cons_succ, Act.put, List.setIfInBounds_toArray, List.set_cons_zero, List.set_cons_succ]
          refine wpAnyH_done (by kernel_rfl) ?_ _
          refine NoPanic.normal ?_
          go_wp2_with fail
          go_roundw
          case rel => exact ⟨i + 1, S5, st5, D5, _, ks5, A5, c5, B5, d5, by omega, by simp [hq], (P5.out.still T1.out), PF5⟩
          case measure => simp [intOf, hq]; omega
    · obtain rfl : i = m := by omega
      go_wp2_with fail
      have TE := Lib.hid P0.out.tn
      refine (HL.out _ TE.out).mono ?_
      rintro e w9 ⟨rfl, ht9⟩
      go_wp2_with fail
      go_ret
      exact ⟨rfl, (TE.out.trans ht9).below (Nat.le_refl _) (fun k hk => hk.elim)⟩
theorem pagerPlays_out (size fr n : Int) (v0 : Value) (qs : List Acv) (w : World) (h : size < 1 ∨ 200 < size ∨ few9 qs = false) (h1 : Acts w.heap.size w v0 qs) (hT : Tb w) :
    Calls Tryd.prog 3 #[.int .i64 size, .int .i64 fr, .int .i64 n, v0] w fun r w' => r = .returned (.bool true) ∧ Below w.heap.size w w' := by
  have HF := Lib.hid (few9_any w.heap.size v0 qs w h1)
  have HL := Lib.hid (lives9 w hT)
  clear h1 hT
  by_cases g1 : size < 1
  · clear h HF
    go_enter Tryd.func3, Tryd.ntmps3
    go_wp2_with fail
    refine HL.out.mono ?_
    rintro e w3 ⟨rfl, ht⟩
    go_wp2_with fail
    go_ret
    exact ⟨rfl, ht.below (Nat.le_refl _) (fun k hk => hk.elim)⟩
  · by_cases g2 : 200 < size
    · clear h HF
      go_enter Tryd.func3, Tryd.ntmps3
      go_wp2_with fail
      refine HL.out.mono ?_
      rintro e w3 ⟨rfl, ht⟩
      go_wp2_with fail
      go_ret
      exact ⟨rfl, ht.below (Nat.le_refl _) (fun k hk => hk.elim)⟩
    · have hf : few9 qs = false := by rcases h with h | h | h; omega; omega; exact h
      rw [hf] at HF
      clear h hf
      go_enter Tryd.func3, Tryd.ntmps3
      go_wp2_with fail
      refine HF.out.mono ?_
      rintro e wf ⟨rfl, hwf⟩
      obtain rfl : w = wf := hwf.symm
      go_wp2_with fail
      refine HL.out.mono ?_
      rintro e w3 ⟨rfl, ht⟩
      go_wp2_with fail
      go_ret
      exact ⟨rfl, ht.below (Nat.le_refl _) (fun k hk => hk.elim)⟩
set_option maxHeartbeats 2000000 in
theorem pagerPlays_bad (N : Nat) (fr n : Int) (hfr : -9223372036854775808 ≤ fr ∧ fr ≤ 9223372036854775807) (hn : -9223372036854775808 ≤ n ∧ n ≤ 9223372036854775807) (v0 : Value) (qs : List Acv) (w : World) (hN1 : 1 ≤ N) (hN2 : N ≤ 200) (hbad : bad9 N fr n) (h1 : Acts w.heap.size w v0 qs) (hf : few9 qs = true) (hT : Tb w) :
    Calls Tryd.prog 3 #[.int .i64 N, .int .i64 fr, .int .i64 n, v0] w fun r w' => r = .returned (.bool true) ∧ Below w.heap.size w w' := by
  have HND := Lib.hid (new_dq N (by omega) (by omega) w)
  have HNR := Lib.hid (fun W => newRef_r N (by omega) (by omega) W)
  have HF := Lib.hid (few9_any w.heap.size v0 qs w h1)
  rw [hf] at HF
  have HL := Lib.hid (fun (W : World) (ht : Turn (fun _ => False) w W) => lives9 W (hT.turn ht (fun h => h)))
  have HT := Lib.hid hT
  obtain ⟨A0, c0, rfl, hlen0, hrow0⟩ := h1
  obtain ⟨m, hm⟩ : ∃ n, qs.length = n := ⟨_, rfl⟩
  rw [hm] at hlen0 HF ⊢
  have g1 : ¬ (N : Int) < 1 := by omega
  have g2 : ¬ (200 : Int) < (N : Int) := by omega
  have HB := Lib.hid hbad
  have HR := Lib.hid (And.intro hfr hn)
  clear hT hrow0 hm hf hbad hfr hn
  go_enter Tryd.func3, Tryd.ntmps3
  go_wp2_with fail
  refine HF.out.mono ?_
  rintro e wf ⟨rfl, hwf⟩
  obtain rfl : w = wf := hwf.symm
  go_wp2_with fail
  refine HND.out.mono ?_
  rintro e w1 ⟨pd, SD, rfl, hd, hS, ht⟩
  have T1 := Lib.hid ht
  have HD1 := Lib.hid hd
  clear ht hS hd HND HF
  go_wp2_with fail
  refine (HNR.out _).mono ?_
  rintro e w2 ⟨g0, hg0, rfl, hrm, ht⟩
  obtain ⟨W3, hW3⟩ : ∃ W, w2.alloc (.cells #[.int .i64 N, .slice (some ⟨g0, 0, none⟩) N N, .slice none 0 0, .int .i64 (-1), .bool false] 32) = W := ⟨_, rfl⟩
  have hlk : (fresh N).kept.length = N := by unfold fresh; rw [List.length_replicate]
  have BM : Hid (Blk W3 w2.heap.size 32 [.int .i64 N, .slice (some ⟨g0, 0, none⟩) N N, .slice none 0 0, .int .i64 (-1), .bool false]) := Lib.hid (hW3 ▸ Blk.new _ _ _)
  have T3 : Hid (Turn (fun _ => False) w1 W3) := Lib.hid (hW3 ▸ ht.alloc _)
  have HPN := Lib.hid (new9_bad (HD1.out.still T3.out) (HT.out.turn (T1.out.trans T3.out) (fun h => h)) fr n HR.out.1 HR.out.2 (by rw [hlk]; exact HB.out))
  have HDN : Hid (∀ W, Calls Tryd.prog 9 #[.agg #[.int .i64 N, .slice (some ⟨g0, 0, none⟩) N N, .slice none 0 0, .int .i64 (-1), .bool false], .int .i64 fr, .int .i64 n] W fun r w' => r = .returned (.tuple #[.agg #[.int .i64 0, .slice none 0 0], .int .i64 2]) ∧ Turn (fun _ => False) W w') := Lib.hid (fun W => by
    have h := new_d_bad (fresh N) (List.replicate N []) (some ⟨g0, 0, none⟩) none N 0 (by omega) fr n HR.out.1 HR.out.2 W (by rw [hlk]; exact HB.out)
    have e : rd (fresh N) (List.replicate N []) (some ⟨g0, 0, none⟩) N none 0 = .agg #[.int .i64 N, .slice (some ⟨g0, 0, none⟩) N N, .slice none 0 0, .int .i64 (-1), .bool false] := by
      unfold rd; rw [hlk, List.length_replicate]; rfl
    rw [e] at h
    exact h)
  have HW3 := Lib.hid hW3
  clear hrm ht hW3
  go_wp2_with fail
  rw [HW3.out]
  clear HW3
  refine HPN.out.mono ?_
  rintro e w4 ⟨rfl, ht⟩
  have T4 := Lib.hid (T1.out.trans (T3.out.trans ht))
  obtain ⟨y0, y1, y2, y3, y4⟩ := cells5 (BM.out.turn ht (fun h => h))
  clear ht HPN
  go_wp2_with fail
  refine (HDN.out _).mono ?_
  rintro e w5 ⟨rfl, ht⟩
  have T5 := Lib.hid ((T4.out.trans ht).alloc (.cells #[.int .i64 0, .slice none 0 0] 40))
  clear y0 y1 y2 y3 y4 ht
  go_wp2_with fail
  go_loopw [17] (fun v17 wr => v17 = .int .i64 0 ∧ Turn (fun _ => False) w wr) (fun _ _ => 0)
  case atStart => exact ⟨rfl, T5.out⟩
  case round =>
    obtain ⟨rfl, hte⟩ := hrel
    have hm : (decide (0 < m) = true ∧ (0 : Int) < (m : Int)) ∨ (decide (0 < m) = false ∧ ¬ (0 : Int) < (m : Int)) := by
      by_cases h : 0 < m
      · exact .inl ⟨by simpa using h, by omega⟩
      · exact .inr ⟨by simpa using h, by omega⟩
    have TE := Lib.hid hte
    clear hte
    rcases hm with ⟨d1, d2⟩ | ⟨d1, d2⟩
    all_goals
      go_wp2_with fail
      refine (HL.out _ TE.out).mono ?_
      rintro e w9 ⟨rfl, ht9⟩
      go_wp2_with fail
      go_ret
      exact ⟨rfl, (TE.out.trans ht9).below (Nat.le_refl _) (fun k hk => hk.elim)⟩
theorem pagerPlays_walk (size fr n : Int) (hfr : -9223372036854775808 ≤ fr ∧ fr ≤ 9223372036854775807) (hn : -9223372036854775808 ≤ n ∧ n ≤ 9223372036854775807) (v0 : Value) (qs : List Acv) (w : World) (h1 : Acts w.heap.size w v0 qs) (hT : Tb w) :
    Calls Tryd.prog 3 #[.int .i64 size, .int .i64 fr, .int .i64 n, v0] w fun r w' => r = .returned (.bool true) ∧ Below w.heap.size w w' := by
  by_cases h : size < 1 ∨ 200 < size ∨ few9 qs = false
  · exact pagerPlays_out size fr n v0 qs w h h1 hT
  · have hf : few9 qs = true := by
      cases hq : few9 qs with
      | true => rfl
      | false => exact absurd (.inr (.inr hq)) h
    obtain ⟨N, rfl⟩ : ∃ N : Nat, size = N := ⟨size.toNat, by omega⟩
    have hN1 : 1 ≤ N := by omega
    have hN2 : N ≤ 200 := by omega
    by_cases hbad : bad9 N fr n
    · exact pagerPlays_bad N fr n hfr hn v0 qs w hN1 hN2 hbad h1 hf hT
    · have hb2 := hbad
      unfold bad9 at hb2
      obtain ⟨f, rfl⟩ : ∃ f : Nat, fr = f := ⟨fr.toNat, by omega⟩
      obtain ⟨k, rfl⟩ : ∃ k : Nat, n = k := ⟨n.toNat, by omega⟩
      exact pagerPlays_good N f k v0 qs w hN1 hN2 (by omega) (by omega) hbad h1 hf hT
end Go.Proofs.YtmedljnbcpdoeaaDoor
