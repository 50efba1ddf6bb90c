/- Layer 8: the program's Split. -/
import Derived.Test.YtpnnbfojdccfhaaPgW
namespace Go.Proofs.Ytpnnbfojdccfhaa
open Go.RowKit
set_option linter.unusedVariables false
set_option maxRecDepth 100000

theorem sumS_take_mono (L : List ByteArray) {a b : Nat} (h : a ≤ b) : sumS (L.take a) ≤ sumS (L.take b) := by
  have := sumS_take_le (L.take b) a
  rw [List.take_take, Nat.min_eq_left h] at this
  exact this
theorem size_part {n : Nd} (hs : Stands8 n) {b : Nat} (hb : b ≤ n.keys.length) : size8 (part8 n 0 b) = 3 + sumS (n.keys.take b) + kb8 n.leaf * b + (if n.leaf then sumS (n.vals.take b) else 4) := by
  unfold size8 part8
  cases hl : n.leaf
  · simp only [Bool.false_eq_true, if_false, List.drop_zero, List.length_take, Nat.min_eq_left hb]
  · simp only [if_true, List.drop_zero, List.length_take, Nat.min_eq_left hb]
theorem size_part_mono {n : Nd} (hs : Stands8 n) {a b : Nat} (h : a ≤ b) (hb : b ≤ n.keys.length) : size8 (part8 n 0 a) ≤ size8 (part8 n 0 b) := by
  rw [size_part hs (Nat.le_trans h hb), size_part hs hb]
  have h1 := sumS_take_mono n.keys h
  have h2 := sumS_take_mono n.vals h
  have h3 : kb8 n.leaf * a ≤ kb8 n.leaf * b := Nat.mul_le_mul_left _ h
  split <;> omega
def bet8 (leaf : Bool) : Nat := if leaf then 0 else 1
theorem box_three (w : World) (a b c : List Value) : Blk (((w.alloc (.cells a.toArray 26)).alloc (.cells b.toArray 26)).alloc (.cells c.toArray 26)) w.heap.size 26 a ∧ Blk (((w.alloc (.cells a.toArray 26)).alloc (.cells b.toArray 26)).alloc (.cells c.toArray 26)) (w.heap.size + 1) 26 b ∧ Blk (((w.alloc (.cells a.toArray 26)).alloc (.cells b.toArray 26)).alloc (.cells c.toArray 26)) (w.heap.size + 1 + 1) 26 c := by
  obtain ⟨h1, h2⟩ := box_two w a b
  refine ⟨h1.alloc _, h2.alloc _, ?_⟩
  have := Blk.new ((w.alloc (.cells a.toArray 26)).alloc (.cells b.toArray 26)) 26 c
  rw [show ((w.alloc (.cells a.toArray 26)).alloc (.cells b.toArray 26)).heap.size = w.heap.size + 1 + 1 from by simp] at this
  exact this
set_option maxHeartbeats 4000000 in
theorem split_yes (n : Nd) (A1 : Option Addr) (c1 : Nat) (A2 : Option Addr) (c2 : Nat) (A3 : Option Addr) (c3 : Nat) (w : World) (h : No w A1 c1 A2 c2 A3 c3 n) (hc1 : Cp A1 n.keys.length c1) (hc2 : Cp A2 n.vals.length c2) (hc3 : Cp A3 n.kids.length c3) (hf : Few8 n) (hs : Stands8 n) (hm : 1 + bet8 n.leaf < n.keys.length) :
    Calls Try.prog 20 #[nv8 A1 c1 A2 c2 A3 c3 n] w fun e w' => ∃ k va vb, e = .returned (.tuple #[va, .string (key8 n.keys k), vb, .bool true]) ∧ (1 ≤ k ∧ k + bet8 n.leaf < n.keys.length ∧ (∀ i, 1 ≤ i → i < k → size8 (part8 n 0 i) < size8 n / 2) ∧ (k + bet8 n.leaf + 1 < n.keys.length → size8 n / 2 ≤ size8 (part8 n 0 k))) ∧ NoO w' va (part8 n 0 k) ∧ NoO w' vb (part8 n (k + bet8 n.leaf) n.keys.length) ∧ Turn (fun _ => False) w w' := by
  have h2000 := hf.nk
  have HN := Lib.hid h
  have HS := Lib.hid (fun X (ht : Turn (fun _ => False) w X) => stands_any n A1 c1 A2 c2 A3 c3 X (h.turn ht) hf)
  rw [st8_yes hs] at HS
  have HZ := Lib.hid (fun X (ht : Turn (fun _ => False) w X) => size_any n A1 c1 A2 c2 A3 c3 X (h.turn ht) hf)
  have hsz : size8 n ≤ 1000000000000000000 := by
    have := hf.sums
    unfold size8 kb8
    have := hf.nk
    split <;> omega
  have HC : Hid (∀ X bn bh m, Turn (fun _ => False) w X → Blk X bn 26 (nc8 A1 c1 A2 c2 A3 c3 n) → Blk X bh 3 [.int .i64 (size8 n / 2 : Nat)] → m + 1 + bet8 n.leaf + 1 = n.keys.length → Calls Try.prog 34 #[.int .i64 (m : Nat), .func (.func 41) #[] #[.pointer (some ⟨bn, 0, none⟩), .pointer (some ⟨bh, 0, none⟩)]] X fun e w' => (∃ r : Nat, e = .returned (.int .i64 r) ∧ r ≤ m ∧ (∀ i, i < r → decide (size8 n / 2 ≤ size8 (part8 n 0 (i + 1))) = false) ∧ (r < m → decide (size8 n / 2 ≤ size8 (part8 n 0 (r + 1))) = true)) ∧ Turn (fun _ => False) X w') := Lib.hid (fun X bn bh m hX hb hh hm2 =>
    search_any 41 #[.pointer (some ⟨bn, 0, none⟩), .pointer (some ⟨bh, 0, none⟩)] m (fun i => decide (size8 n / 2 ≤ size8 (part8 n 0 (i + 1)))) X (fun _ _ => rfl) (by omega)
      (fun Y hY i hi => split1_any n i (size8 n / 2) bn bh A1 c1 A2 c2 A3 c3 Y (h.turn (hX.trans hY)) hc1 hc2 hc3 hf hs (by omega) (hb.turn hY (fun h => h)) (hh.turn hY (fun h => h)))
      (fun a b hab hb2 hp => decide_eq_true (Nat.le_trans (of_decide_eq_true hp) (size_part_mono hs (by omega) (by omega)))))
  have HPO : Hid (∀ X a b, Turn (fun _ => False) w X → a ≤ b → b ≤ n.keys.length → Calls Try.prog 42 #[nv8 A1 c1 A2 c2 A3 c3 n, .int .i64 (a : Nat), .int .i64 (b : Nat)] X fun e w' => ∃ v, e = .returned v ∧ (∃ D1 e1 D2 e2 D3 e3, v = nv8 D1 e1 D2 e2 D3 e3 (part8 n a b) ∧ No w' D1 e1 D2 e2 D3 e3 (part8 n a b) ∧ (Cp D1 (part8 n a b).keys.length e1 ∧ Cp D2 (part8 n a b).vals.length e2 ∧ Cp D3 (part8 n a b).kids.length e3) ∧ Turn (fun _ => False) X w')) := Lib.hid (fun X a b hX hab hb => by
    refine (part_any n a b A1 c1 A2 c2 A3 c3 X (h.turn hX) hc1 hc2 hc3 hs (by omega) h2000 hab hb).mono ?_
    rintro e w' ⟨v, rfl, ⟨D1, e1, D2, e2, D3, e3, rfl, hn, hcc⟩, ht⟩
    exact ⟨_, rfl, D1, e1, D2, e2, D3, e3, rfl, hn, hcc, ht⟩)
  have HOW : Hid (∀ X a b D1 e1 D2 e2 D3 e3, No X D1 e1 D2 e2 D3 e3 (part8 n a b) → (Cp D1 (part8 n a b).keys.length e1 ∧ Cp D2 (part8 n a b).vals.length e2 ∧ Cp D3 (part8 n a b).kids.length e3) → Calls Try.prog 43 #[nv8 D1 e1 D2 e2 D3 e3 (part8 n a b)] X fun e w' => ∃ v, e = .returned v ∧ (∃ E1 f1 E2 f2 E3 f3, v = nv8 E1 f1 E2 f2 E3 f3 (part8 n a b) ∧ (∀ Y, Turn (fun k => k < X.heap.size) w' Y → No Y E1 f1 E2 f2 E3 f3 (part8 n a b)) ∧ (Cp E1 (part8 n a b).keys.length f1 ∧ Cp E2 (part8 n a b).vals.length f2 ∧ Cp E3 (part8 n a b).kids.length f3) ∧ Turn (fun _ => False) X w')) := Lib.hid (fun X a b D1 e1 D2 e2 D3 e3 hn hcc => by
    have hfp := few_part hf a b
    exact own_any _ D1 e1 D2 e2 D3 e3 X hn hcc.1 hcc.2.1 hcc.2.2 (Nat.le_trans hfp.nk (by decide)) (Nat.le_trans hfp.nv (by decide)) (Nat.le_trans hfp.nd (by decide)))
  have T0 := Lib.hid ((((Turn.refl (fun _ => False) w).alloc (.cells #[.bool n.leaf, .slice A1 n.keys.length c1, .slice A2 n.vals.length c2, .slice A3 n.kids.length c3] 26)).alloc (.cells #[.bool false, .slice none 0 0, .slice none 0 0, .slice none 0 0] 26)).alloc (.cells #[.bool false, .slice none 0 0, .slice none 0 0, .slice none 0 0] 26))
  have B0 := Lib.hid (box_three w [.bool n.leaf, .slice A1 n.keys.length c1, .slice A2 n.vals.length c2, .slice A3 n.kids.length c3] [.bool false, .slice none 0 0, .slice none 0 0, .slice none 0 0] [.bool false, .slice none 0 0, .slice none 0 0, .slice none 0 0]).1
  have R0 := Lib.hid (box_three w [.bool n.leaf, .slice A1 n.keys.length c1, .slice A2 n.vals.length c2, .slice A3 n.kids.length c3] [.bool false, .slice none 0 0, .slice none 0 0, .slice none 0 0] [.bool false, .slice none 0 0, .slice none 0 0, .slice none 0 0]).2.1
  have S0 := Lib.hid (box_three w [.bool n.leaf, .slice A1 n.keys.length c1, .slice A2 n.vals.length c2, .slice A3 n.kids.length c3] [.bool false, .slice none 0 0, .slice none 0 0, .slice none 0 0] [.bool false, .slice none 0 0, .slice none 0 0, .slice none 0 0]).2.2
  have hbet : bet8 n.leaf = if n.leaf then 0 else 1 := rfl
  have HKY := Lib.hid (fun k (hk : k < n.keys.length) => key8_some hk)
  obtain ⟨b1, o1, rfl, hbk1, hck⟩ := h.keys (by omega)
  have HCK := Lib.hid hck
  clear h hc1 hc2 hc3 hf hs hck
  unfold nc8 at HC
  generalize size8 n = SZ at *
  simp only [nv8] at HS HZ HPO HOW HC ⊢
  generalize hlf : n.leaf = leaf at *
  generalize hnk : n.keys.length = nk at *
  generalize hnv : n.vals.length = nv at *
  generalize hnd : n.kids.length = nd at *
  obtain ⟨bt, hbt⟩ : ∃ b, bet8 leaf = b := ⟨_, rfl⟩
  rw [hbt] at hm HC hbet ⊢
  obtain ⟨m, hmm⟩ : ∃ m, m + 1 + bt + 1 = nk := ⟨nk - bt - 2, by omega⟩
  have z1 := wrap_of ((nk : Int) - (bt : Int)) (by omega) (by omega)
  have z2 : IntKind.i64.wrap ((nk : Int) - (bt : Int) - 1) = ((m + 1 : Nat) : Int) := by rw [wrap_of _ (by omega) (by omega)]; omega
  have HMM := Lib.hid hmm
  have HBET := Lib.hid hbet
  have HHM := Lib.hid hm
  cases leaf
  · obtain rfl : bt = 1 := by rw [hbet]; rfl
    clear hbet hm hbt z1 z2
    have z1 := wrap_of ((nk : Int) - 1) (by omega) (by omega)
    have z2 : (nk : Int) - 1 - 1 = (m : Int) + 1 := by omega
    have z3 := wrap_of ((m : Int) + 1) (by omega) (by omega)
    have z4 := wrap_of (m : Int) (by omega) (by omega)
    have z5 : decide ((m : Int) + 1 < 1) = false := decide_eq_false (by omega)
    go_enter Try.func20, Try.ntmps20
    go_wp2_with fail
    refine (HS.out _ T0.out).mono ?_
    rintro e w1 ⟨rfl, ht1⟩
    have T1 := Lib.hid (T0.out.trans ht1)
    have B1 := Lib.hid (B0.out.turn ht1 (fun h => h))
    have R1 := Lib.hid (R0.out.turn ht1 (fun h => h))
    have S1 := Lib.hid (S0.out.turn ht1 (fun h => h))
    clear ht1 T0 B0 R0 S0
    have y0 : w1.cell? ⟨w.heap.size, 0, none⟩ = some (.bool false) := B1.out.cell 0
    have y1 : w1.cell? ⟨w.heap.size, 1, none⟩ = some (.slice (some ⟨b1, o1, none⟩) nk c1) := B1.out.cell 1
    have y2 : w1.cell? ⟨w.heap.size, 2, none⟩ = some (.slice A2 nv c2) := B1.out.cell 2
    have y3 : w1.cell? ⟨w.heap.size, 3, none⟩ = some (.slice A3 nd c3) := B1.out.cell 3
    go_wp2_with fail
    refine (HZ.out _ T1.out).mono ?_
    rintro e w2 ⟨rfl, ht2⟩
    have T2 := Lib.hid (T1.out.trans ht2)
    have B2 := Lib.hid (B1.out.turn ht2 (fun h => h))
    have R2 := Lib.hid (R1.out.turn ht2 (fun h => h))
    have S2 := Lib.hid (S1.out.turn ht2 (fun h => h))
    clear ht2 y0 y1 y2 y3 B1 R1 S1
    have q0 : (SZ : Int) ≤ 9223372036854775807 := by omega
    have q1 : (0 : Int) ≤ (SZ : Int) := by omega
    go_wp2_with fail
    refine (HC.out _ w.heap.size w2.heap.size m (T2.out.alloc _) (B2.out.alloc _) (Blk.new w2 _ _) (by first | exact hmm | omega)).mono ?_
    rintro e w3 ⟨⟨r, rfl, hr, hlo, hhi⟩, ht3⟩
    have T3 := Lib.hid ((T2.out.alloc (.cells #[.int .i64 ((SZ / 2 : Nat) : Int)] 3)).trans ht3)
    have B3 := Lib.hid ((B2.out.alloc (.cells #[.int .i64 ((SZ / 2 : Nat) : Int)] 3)).turn ht3 (fun h => h))
    have R3 := Lib.hid ((R2.out.alloc (.cells #[.int .i64 ((SZ / 2 : Nat) : Int)] 3)).turn ht3 (fun h => h))
    have S3 := Lib.hid ((S2.out.alloc (.cells #[.int .i64 ((SZ / 2 : Nat) : Int)] 3)).turn ht3 (fun h => h))
    have HLO := Lib.hid hlo
    have HHI := Lib.hid hhi
    clear ht3 hlo hhi B2 R2 S2
    obtain ⟨k, hk⟩ : ∃ k, k = r + 1 := ⟨_, rfl⟩
    have HKR := Lib.hid hk
    have hkn : k + 1 < nk := by omega
    have u1 : (1 : Int) + (r : Int) = (k : Int) := by omega
    have u2 := wrap_of (k : Int) (by omega) (by omega)
    have u3 : (k : Int) < (nk : Int) := by omega
    have u4 : (0 : Int) ≤ (k : Int) := by omega
    have u5 := wrap_of ((k : Int) + 1) (by omega) (by omega)
    have hkk := HKY.out k (by omega)
    have HKC : Hid (∀ X, Turn (fun _ => False) w X → X.cell? ⟨b1, o1 + k, none⟩ = some (.string (key8 n.keys k))) := Lib.hid (fun X hX => HCK.out X hX k _ hkk)
    have HKC2 : Hid (∀ X, Turn (fun _ => False) w3 X → X.cell? ⟨b1, o1 + k, none⟩ = some (.string (key8 n.keys k))) := Lib.hid (fun X hX => HKC.out X (T3.out.trans hX))
    have HBK : Hid (b1 < w.heap.size) := Lib.hid hbk1
    have HP1 := Lib.hid (fun X hX => HPO.out X 0 k hX (Nat.zero_le _) (by omega))
    have HP2 := Lib.hid (fun X hX => HPO.out X (k + 1) nk hX (by omega) (Nat.le_refl _))
    have HO1 := Lib.hid (fun X => HOW.out X 0 k)
    have HO2 := Lib.hid (fun X => HOW.out X (k + 1) nk)
    generalize hky : key8 n.keys k = ky at *
    clear hk
    obtain ⟨PA, hPA⟩ : ∃ p, part8 n 0 k = p := ⟨_, rfl⟩
    obtain ⟨PB, hPB⟩ : ∃ p, part8 n (k + 1) nk = p := ⟨_, rfl⟩
    rw [hPA] at HP1 HO1
    rw [hPB] at HP2 HO2
    have HPA := Lib.hid hPA
    have HPB := Lib.hid hPB
    clear hPA hPB HPO HOW
    generalize hpl : PA.leaf = pl at *
    generalize hpk : PA.keys.length = pk at *
    generalize hpv : PA.vals.length = pv at *
    generalize hpd : PA.kids.length = pd at *
    generalize hql : PB.leaf = ql at *
    generalize hqk : PB.keys.length = qk at *
    generalize hqv : PB.vals.length = qv at *
    generalize hqd : PB.kids.length = qd at *
    have y30 : (w3.drew).cell? ⟨w.heap.size, 0, none⟩ = some (.bool false) := (B3.out.drew).cell 0
    have y31 : (w3.drew).cell? ⟨w.heap.size, 1, none⟩ = some (.slice (some ⟨b1, o1, none⟩) nk c1) := (B3.out.drew).cell 1
    have y32 : (w3.drew).cell? ⟨w.heap.size, 2, none⟩ = some (.slice A2 nv c2) := (B3.out.drew).cell 2
    have y33 : (w3.drew).cell? ⟨w.heap.size, 3, none⟩ = some (.slice A3 nd c3) := (B3.out.drew).cell 3
    have y34 : (w3.drew).cell? ⟨b1, o1 + k, none⟩ = some (.string ky) := HKC2.out _ (Turn.refl (fun _ => False) w3).drew
    go_wp2_with fail
    go_region_held3 (fun X => X.cell? ⟨w.heap.size, 0, none⟩ = some (.bool false) ∧ X.cell? ⟨w.heap.size, 1, none⟩ = some (.slice (some ⟨b1, o1, none⟩) nk c1) ∧ X.cell? ⟨w.heap.size, 2, none⟩ = some (.slice A2 nv c2) ∧ X.cell? ⟨w.heap.size, 3, none⟩ = some (.slice A3 nd c3) ∧ X.cell? ⟨b1, o1 + k, none⟩ = some (.string ky))
      (first
        | (with_reducible exact ⟨y30, y31, y32, y33, y34⟩)
        | (with_reducible exact ⟨y40, y41, y42, y43, y44⟩)
        | (with_reducible exact ⟨y50, y51, y52, y53, y54⟩)
        | (with_reducible exact ⟨y60, y61, y62, y63, y64⟩)
        | (with_reducible exact ⟨y70, y71, y72, y73, y74⟩)
        | (with_reducible exact ⟨y80, y81, y82, y83, y84⟩)
        | (with_reducible exact ⟨y90, y91, y92, y93, y94⟩))
      (first
        | (refine step_call rfl 43 Try.f43 _ _ rfl Try.func43 (by kernel_rfl) (by kernel_rfl) _ _ (HO2.out _ L1 g1 L2 g2 L3 g3 N6.out P6.out) (by go_simp) ?_; rintro v7 w7 ⟨I1, j1, I2, j2, I3, j3, rfl, hn7, hp7, ht7⟩; have T7 : Hid (Turn (fun _ => False) w3 w7) := Lib.hid ((T6.out).trans ht7); have N7 := Lib.hid hn7; have P7 := Lib.hid hp7; have V7 := Lib.hid (V6.out.trans ht7); clear hn7 hp7; have y70 : (w7).cell? ⟨w.heap.size, 0, none⟩ = some (.bool false) := (B3.out.turn T7.out (fun h => h)).cell 0; have y71 : (w7).cell? ⟨w.heap.size, 1, none⟩ = some (.slice (some ⟨b1, o1, none⟩) nk c1) := (B3.out.turn T7.out (fun h => h)).cell 1; have y72 : (w7).cell? ⟨w.heap.size, 2, none⟩ = some (.slice A2 nv c2) := (B3.out.turn T7.out (fun h => h)).cell 2; have y73 : (w7).cell? ⟨w.heap.size, 3, none⟩ = some (.slice A3 nd c3) := (B3.out.turn T7.out (fun h => h)).cell 3; have y74 : (w7).cell? ⟨b1, o1 + k, none⟩ = some (.string ky) := HKC2.out _ T7.out; have R7 := Lib.hid (R3.out.turn T7.out (fun h => h)); have S7 := Lib.hid (S3.out.turn T7.out (fun h => h)); have r0 := R7.out.cell 0; have r1 := R7.out.cell 1; have r2 := R7.out.cell 2; have r3 := R7.out.cell 3; have g0 := R7.out.free 0; have g01 := R7.out.free 1; have g02 := R7.out.free 2; have g03 := R7.out.free 3; have F1 := Lib.hid (put4 R7.out (.bool pl) (.slice E1 pk f1) (.slice E2 pv f2) (.slice E3 pd f3)); have S8 := Lib.hid (S7.out.turn F1.out.2 (fun h => by omega)); have B7 := Lib.hid (B3.out.turn T7.out (fun h => h)); have F2 := Lib.hid (put4 S8.out (.bool ql) (.slice I1 qk j1) (.slice I2 qv j2) (.slice I3 qd j3)); have s0 := S8.out.cell 0; have s1 := S8.out.cell 1; have s2 := S8.out.cell 2; have s3 := S8.out.cell 3; have h0 := S8.out.free 0; have h01 := S8.out.free 1; have h02 := S8.out.free 2; have h03 := S8.out.free 3; have hz5 := T5.out.size; have hz6 := T6.out.size; have hz7 := T7.out.size; have hz3 := T3.out.size; have hbk := HBK.out; have kc7 := HKC2.out _ T7.out; have kc8 := (World.cell?_of_block (w := w7) (w' := ((((w7).setCell ⟨w.heap.size + 1, 0, none⟩ (.bool pl)).setCell ⟨w.heap.size + 1, 1, none⟩ (.slice E1 pk f1)).setCell ⟨w.heap.size + 1, 2, none⟩ (.slice E2 pv f2)).setCell ⟨w.heap.size + 1, 3, none⟩ (.slice E3 pd f3)) (a := ⟨b1, o1 + k, none⟩) (F1.out.2.block b1 (by omega) (fun h => by omega))).trans kc7; have y80 : (((((w7).setCell ⟨w.heap.size + 1, 0, none⟩ (.bool pl)).setCell ⟨w.heap.size + 1, 1, none⟩ (.slice E1 pk f1)).setCell ⟨w.heap.size + 1, 2, none⟩ (.slice E2 pv f2)).setCell ⟨w.heap.size + 1, 3, none⟩ (.slice E3 pd f3)).cell? ⟨w.heap.size, 0, none⟩ = some (.bool false) := (B7.out.turn F1.out.2 (fun h => by omega)).cell 0; have y81 : (((((w7).setCell ⟨w.heap.size + 1, 0, none⟩ (.bool pl)).setCell ⟨w.heap.size + 1, 1, none⟩ (.slice E1 pk f1)).setCell ⟨w.heap.size + 1, 2, none⟩ (.slice E2 pv f2)).setCell ⟨w.heap.size + 1, 3, none⟩ (.slice E3 pd f3)).cell? ⟨w.heap.size, 1, none⟩ = some (.slice (some ⟨b1, o1, none⟩) nk c1) := (B7.out.turn F1.out.2 (fun h => by omega)).cell 1; have y82 : (((((w7).setCell ⟨w.heap.size + 1, 0, none⟩ (.bool pl)).setCell ⟨w.heap.size + 1, 1, none⟩ (.slice E1 pk f1)).setCell ⟨w.heap.size + 1, 2, none⟩ (.slice E2 pv f2)).setCell ⟨w.heap.size + 1, 3, none⟩ (.slice E3 pd f3)).cell? ⟨w.heap.size, 2, none⟩ = some (.slice A2 nv c2) := (B7.out.turn F1.out.2 (fun h => by omega)).cell 2; have y83 : (((((w7).setCell ⟨w.heap.size + 1, 0, none⟩ (.bool pl)).setCell ⟨w.heap.size + 1, 1, none⟩ (.slice E1 pk f1)).setCell ⟨w.heap.size + 1, 2, none⟩ (.slice E2 pv f2)).setCell ⟨w.heap.size + 1, 3, none⟩ (.slice E3 pd f3)).cell? ⟨w.heap.size, 3, none⟩ = some (.slice A3 nd c3) := (B7.out.turn F1.out.2 (fun h => by omega)).cell 3; have y84 : (((((w7).setCell ⟨w.heap.size + 1, 0, none⟩ (.bool pl)).setCell ⟨w.heap.size + 1, 1, none⟩ (.slice E1 pk f1)).setCell ⟨w.heap.size + 1, 2, none⟩ (.slice E2 pv f2)).setCell ⟨w.heap.size + 1, 3, none⟩ (.slice E3 pd f3)).cell? ⟨b1, o1 + k, none⟩ = some (.string ky) := kc8; have hzF := F1.out.2.size; have kc9 := (World.cell?_of_block (w := ((((w7).setCell ⟨w.heap.size + 1, 0, none⟩ (.bool pl)).setCell ⟨w.heap.size + 1, 1, none⟩ (.slice E1 pk f1)).setCell ⟨w.heap.size + 1, 2, none⟩ (.slice E2 pv f2)).setCell ⟨w.heap.size + 1, 3, none⟩ (.slice E3 pd f3)) (w' := ((((((((w7).setCell ⟨w.heap.size + 1, 0, none⟩ (.bool pl)).setCell ⟨w.heap.size + 1, 1, none⟩ (.slice E1 pk f1)).setCell ⟨w.heap.size + 1, 2, none⟩ (.slice E2 pv f2)).setCell ⟨w.heap.size + 1, 3, none⟩ (.slice E3 pd f3)).setCell ⟨w.heap.size + 1 + 1, 0, none⟩ (.bool ql)).setCell ⟨w.heap.size + 1 + 1, 1, none⟩ (.slice I1 qk j1)).setCell ⟨w.heap.size + 1 + 1, 2, none⟩ (.slice I2 qv j2)).setCell ⟨w.heap.size + 1 + 1, 3, none⟩ (.slice I3 qd j3)) (a := ⟨b1, o1 + k, none⟩) (F2.out.2.block b1 (by omega) (fun h => by omega))).trans kc8; have y90 : (((((((((w7).setCell ⟨w.heap.size + 1, 0, none⟩ (.bool pl)).setCell ⟨w.heap.size + 1, 1, none⟩ (.slice E1 pk f1)).setCell ⟨w.heap.size + 1, 2, none⟩ (.slice E2 pv f2)).setCell ⟨w.heap.size + 1, 3, none⟩ (.slice E3 pd f3)).setCell ⟨w.heap.size + 1 + 1, 0, none⟩ (.bool ql)).setCell ⟨w.heap.size + 1 + 1, 1, none⟩ (.slice I1 qk j1)).setCell ⟨w.heap.size + 1 + 1, 2, none⟩ (.slice I2 qv j2)).setCell ⟨w.heap.size + 1 + 1, 3, none⟩ (.slice I3 qd j3)).cell? ⟨w.heap.size, 0, none⟩ = some (.bool false) := ((B7.out.turn F1.out.2 (fun h => by omega)).turn F2.out.2 (fun h => by omega)).cell 0; have y91 : (((((((((w7).setCell ⟨w.heap.size + 1, 0, none⟩ (.bool pl)).setCell ⟨w.heap.size + 1, 1, none⟩ (.slice E1 pk f1)).setCell ⟨w.heap.size + 1, 2, none⟩ (.slice E2 pv f2)).setCell ⟨w.heap.size + 1, 3, none⟩ (.slice E3 pd f3)).setCell ⟨w.heap.size + 1 + 1, 0, none⟩ (.bool ql)).setCell ⟨w.heap.size + 1 + 1, 1, none⟩ (.slice I1 qk j1)).setCell ⟨w.heap.size + 1 + 1, 2, none⟩ (.slice I2 qv j2)).setCell ⟨w.heap.size + 1 + 1, 3, none⟩ (.slice I3 qd j3)).cell? ⟨w.heap.size, 1, none⟩ = some (.slice (some ⟨b1, o1, none⟩) nk c1) := ((B7.out.turn F1.out.2 (fun h => by omega)).turn F2.out.2 (fun h => by omega)).cell 1; have y92 : (((((((((w7).setCell ⟨w.heap.size + 1, 0, none⟩ (.bool pl)).setCell ⟨w.heap.size + 1, 1, none⟩ (.slice E1 pk f1)).setCell ⟨w.heap.size + 1, 2, none⟩ (.slice E2 pv f2)).setCell ⟨w.heap.size + 1, 3, none⟩ (.slice E3 pd f3)).setCell ⟨w.heap.size + 1 + 1, 0, none⟩ (.bool ql)).setCell ⟨w.heap.size + 1 + 1, 1, none⟩ (.slice I1 qk j1)).setCell ⟨w.heap.size + 1 + 1, 2, none⟩ (.slice I2 qv j2)).setCell ⟨w.heap.size + 1 + 1, 3, none⟩ (.slice I3 qd j3)).cell? ⟨w.heap.size, 2, none⟩ = some (.slice A2 nv c2) := ((B7.out.turn F1.out.2 (fun h => by omega)).turn F2.out.2 (fun h => by omega)).cell 2; have y93 : (((((((((w7).setCell ⟨w.heap.size + 1, 0, none⟩ (.bool pl)).setCell ⟨w.heap.size + 1, 1, none⟩ (.slice E1 pk f1)).setCell ⟨w.heap.size + 1, 2, none⟩ (.slice E2 pv f2)).setCell ⟨w.heap.size + 1, 3, none⟩ (.slice E3 pd f3)).setCell ⟨w.heap.size + 1 + 1, 0, none⟩ (.bool ql)).setCell ⟨w.heap.size + 1 + 1, 1, none⟩ (.slice I1 qk j1)).setCell ⟨w.heap.size + 1 + 1, 2, none⟩ (.slice I2 qv j2)).setCell ⟨w.heap.size + 1 + 1, 3, none⟩ (.slice I3 qd j3)).cell? ⟨w.heap.size, 3, none⟩ = some (.slice A3 nd c3) := ((B7.out.turn F1.out.2 (fun h => by omega)).turn F2.out.2 (fun h => by omega)).cell 3; have y94 : (((((((((w7).setCell ⟨w.heap.size + 1, 0, none⟩ (.bool pl)).setCell ⟨w.heap.size + 1, 1, none⟩ (.slice E1 pk f1)).setCell ⟨w.heap.size + 1, 2, none⟩ (.slice E2 pv f2)).setCell ⟨w.heap.size + 1, 3, none⟩ (.slice E3 pd f3)).setCell ⟨w.heap.size + 1 + 1, 0, none⟩ (.bool ql)).setCell ⟨w.heap.size + 1 + 1, 1, none⟩ (.slice I1 qk j1)).setCell ⟨w.heap.size + 1 + 1, 2, none⟩ (.slice I2 qv j2)).setCell ⟨w.heap.size + 1 + 1, 3, none⟩ (.slice I3 qd j3)).cell? ⟨b1, o1 + k, none⟩ = some (.string ky) := kc9; clear ht7)
        | (refine step_call rfl 42 Try.f42 _ _ rfl Try.func42 (by kernel_rfl) (by kernel_rfl) _ _ (HP2.out _ (T3.out.trans T5.out)) (by go_simp) ?_; rintro v6 w6 ⟨L1, g1, L2, g2, L3, g3, rfl, hn6, hp6, ht6⟩; have T6 : Hid (Turn (fun _ => False) w3 w6) := Lib.hid ((T5.out).trans ht6); have N6 := Lib.hid hn6; have P6 := Lib.hid hp6; have V6 := Lib.hid ht6; clear hn6 hp6; have y60 : (w6).cell? ⟨w.heap.size, 0, none⟩ = some (.bool false) := (B3.out.turn T6.out (fun h => h)).cell 0; have y61 : (w6).cell? ⟨w.heap.size, 1, none⟩ = some (.slice (some ⟨b1, o1, none⟩) nk c1) := (B3.out.turn T6.out (fun h => h)).cell 1; have y62 : (w6).cell? ⟨w.heap.size, 2, none⟩ = some (.slice A2 nv c2) := (B3.out.turn T6.out (fun h => h)).cell 2; have y63 : (w6).cell? ⟨w.heap.size, 3, none⟩ = some (.slice A3 nd c3) := (B3.out.turn T6.out (fun h => h)).cell 3; have y64 : (w6).cell? ⟨b1, o1 + k, none⟩ = some (.string ky) := HKC2.out _ T6.out; clear ht6)
        | (refine step_call rfl 43 Try.f43 _ _ rfl Try.func43 (by kernel_rfl) (by kernel_rfl) _ _ (HO1.out _ D1 e1 D2 e2 D3 e3 N4.out P4.out) (by go_simp) ?_; rintro v5 w5 ⟨E1, f1, E2, f2, E3, f3, rfl, hn5, hp5, ht5⟩; have T5 : Hid (Turn (fun _ => False) w3 w5) := Lib.hid ((T4.out).trans ht5); have N5 := Lib.hid hn5; have P5 := Lib.hid hp5; have hz4 := T4.out.size; clear hn5 hp5; have y50 : (w5).cell? ⟨w.heap.size, 0, none⟩ = some (.bool false) := (B3.out.turn T5.out (fun h => h)).cell 0; have y51 : (w5).cell? ⟨w.heap.size, 1, none⟩ = some (.slice (some ⟨b1, o1, none⟩) nk c1) := (B3.out.turn T5.out (fun h => h)).cell 1; have y52 : (w5).cell? ⟨w.heap.size, 2, none⟩ = some (.slice A2 nv c2) := (B3.out.turn T5.out (fun h => h)).cell 2; have y53 : (w5).cell? ⟨w.heap.size, 3, none⟩ = some (.slice A3 nd c3) := (B3.out.turn T5.out (fun h => h)).cell 3; have y54 : (w5).cell? ⟨b1, o1 + k, none⟩ = some (.string ky) := HKC2.out _ T5.out; clear ht5)
        | (refine step_call rfl 42 Try.f42 _ _ rfl Try.func42 (by kernel_rfl) (by kernel_rfl) _ _ (HP1.out _ (T3.out.trans (Turn.refl (fun _ => False) w3).drew)) (by go_simp) ?_; rintro v4 w4 ⟨D1, e1, D2, e2, D3, e3, rfl, hn4, hp4, ht4⟩; have T4 : Hid (Turn (fun _ => False) w3 w4) := Lib.hid (((Turn.refl (fun _ => False) w3).drew).trans ht4); have N4 := Lib.hid hn4; have P4 := Lib.hid hp4; clear hn4 hp4; have y40 : (w4).cell? ⟨w.heap.size, 0, none⟩ = some (.bool false) := (B3.out.turn T4.out (fun h => h)).cell 0; have y41 : (w4).cell? ⟨w.heap.size, 1, none⟩ = some (.slice (some ⟨b1, o1, none⟩) nk c1) := (B3.out.turn T4.out (fun h => h)).cell 1; have y42 : (w4).cell? ⟨w.heap.size, 2, none⟩ = some (.slice A2 nv c2) := (B3.out.turn T4.out (fun h => h)).cell 2; have y43 : (w4).cell? ⟨w.heap.size, 3, none⟩ = some (.slice A3 nd c3) := (B3.out.turn T4.out (fun h => h)).cell 3; have y44 : (w4).cell? ⟨b1, o1 + k, none⟩ = some (.string ky) := HKC2.out _ T4.out; clear ht4))
    all_goals go_wp2_with fail
    have hR3 := R3.out.lt
    have hS3 := S3.out.lt
    have htt := ((T3.out.trans T7.out).trans_new F1.out.2 (fun k hk e => by omega)).trans_new F2.out.2 (fun k hk e => by omega)
    have hTA : Turn (fun k => k < w4.heap.size) w5 _ := ((V7.out.mono (fun k _ h => h.elim)).trans (F1.out.2.mono (fun k _ (h : k = w.heap.size + 1) => (by omega : k < w4.heap.size)))).trans (F2.out.2.mono (fun k _ (h : k = w.heap.size + 1 + 1) => (by omega : k < w4.heap.size)))
    have hTB : Turn (fun k => k < w6.heap.size) w7 _ := (F1.out.2.mono (fun k _ (h : k = w.heap.size + 1) => (by omega : k < w6.heap.size))).trans (F2.out.2.mono (fun k _ (h : k = w.heap.size + 1 + 1) => (by omega : k < w6.heap.size)))
    have hGA := F1.out.1.turn F2.out.2 (fun h => by omega)
    have hGB := F2.out.1
    have d0 := hGA.cell 0
    have d1 := hGA.cell 1
    have d2 := hGA.cell 2
    have d3 := hGA.cell 3
    have e0 := hGB.cell 0
    have e1' := hGB.cell 1
    have e2' := hGB.cell 2
    have e3' := hGB.cell 3
    simp only [List.getElem?_cons_zero, List.getElem?_cons_succ] at d0 d1 d2 d3 e0 e1' e2' e3'
    clear hGA hGB r0 r1 r2 r3 g0 g01 g02 g03 s0 s1 s2 s3 h0 h01 h02 h03 y80 y81 y82 y83 y84 y90 y91 y92 y93 y94 kc8 kc9 hzF F1 F2 S8
    generalize ((((((((w7).setCell ⟨w.heap.size + 1, 0, none⟩ (.bool pl)).setCell ⟨w.heap.size + 1, 1, none⟩ (.slice E1 pk f1)).setCell ⟨w.heap.size + 1, 2, none⟩ (.slice E2 pv f2)).setCell ⟨w.heap.size + 1, 3, none⟩ (.slice E3 pd f3)).setCell ⟨w.heap.size + 1 + 1, 0, none⟩ (.bool ql)).setCell ⟨w.heap.size + 1 + 1, 1, none⟩ (.slice I1 qk j1)).setCell ⟨w.heap.size + 1 + 1, 2, none⟩ (.slice I2 qv j2)).setCell ⟨w.heap.size + 1 + 1, 3, none⟩ (.slice I3 qd j3) = WF at *
    refine bodyPost_ret (v := .tuple #[.agg #[.bool pl, .slice E1 pk f1, .slice E2 pv f2, .slice E3 pd f3], .string ky, .agg #[.bool ql, .slice I1 qk j1, .slice I2 qv j2, .slice I3 qd j3], .bool true]) (by simp [results, Try.results20, go_sem, d0, d1, d2, d3, e0, e1', e2', e3']) rfl ⟨k, _, _, by rw [hky], ⟨by have := HKR.out; omega, hkn, fun i h1 h2 => ?_, fun h1 => ?_⟩, ?_, ?_, htt⟩
    · have := of_decide_eq_false (HLO.out (i - 1) (by have := HKR.out; omega))
      rw [show i - 1 + 1 = i from by omega] at this
      omega
    · have := of_decide_eq_true (HHI.out (by have := HKR.out; omega))
      rw [HKR.out]; exact this
    · rw [HPA.out]
      exact ⟨E1, f1, E2, f2, E3, f3, by simp only [nv8, hpl, hpk, hpv, hpd], N5.out _ hTA, by rw [hpk, hpv, hpd]; exact P5.out⟩
    · rw [HPB.out]
      exact ⟨I1, j1, I2, j2, I3, j3, by simp only [nv8, hql, hqk, hqv, hqd], N7.out _ hTB, by rw [hqk, hqv, hqd]; exact P7.out⟩
  · obtain rfl : bt = 0 := by rw [hbet]; rfl
    clear hbet hm hbt z1 z2
    have z1 := wrap_of ((nk : Int) - 0) (by omega) (by omega)
    have z2 : (nk : Int) - 1 = (m : Int) + 1 := by omega
    have z3 := wrap_of ((m : Int) + 1) (by omega) (by omega)
    have z4 := wrap_of (m : Int) (by omega) (by omega)
    have z5 : decide ((m : Int) + 1 < 1) = false := decide_eq_false (by omega)
    go_enter Try.func20, Try.ntmps20
    go_wp2_with fail
    refine (HS.out _ T0.out).mono ?_
    rintro e w1 ⟨rfl, ht1⟩
    have T1 := Lib.hid (T0.out.trans ht1)
    have B1 := Lib.hid (B0.out.turn ht1 (fun h => h))
    have R1 := Lib.hid (R0.out.turn ht1 (fun h => h))
    have S1 := Lib.hid (S0.out.turn ht1 (fun h => h))
    clear ht1 T0 B0 R0 S0
    have y0 : w1.cell? ⟨w.heap.size, 0, none⟩ = some (.bool true) := B1.out.cell 0
    have y1 : w1.cell? ⟨w.heap.size, 1, none⟩ = some (.slice (some ⟨b1, o1, none⟩) nk c1) := B1.out.cell 1
    have y2 : w1.cell? ⟨w.heap.size, 2, none⟩ = some (.slice A2 nv c2) := B1.out.cell 2
    have y3 : w1.cell? ⟨w.heap.size, 3, none⟩ = some (.slice A3 nd c3) := B1.out.cell 3
    go_wp2_with fail
    refine (HZ.out _ T1.out).mono ?_
    rintro e w2 ⟨rfl, ht2⟩
    have T2 := Lib.hid (T1.out.trans ht2)
    have B2 := Lib.hid (B1.out.turn ht2 (fun h => h))
    have R2 := Lib.hid (R1.out.turn ht2 (fun h => h))
    have S2 := Lib.hid (S1.out.turn ht2 (fun h => h))
    clear ht2 y0 y1 y2 y3 B1 R1 S1
    have q0 : (SZ : Int) ≤ 9223372036854775807 := by omega
    have q1 : (0 : Int) ≤ (SZ : Int) := by omega
    go_wp2_with fail
    refine (HC.out _ w.heap.size w2.heap.size m (T2.out.alloc _) (B2.out.alloc _) (Blk.new w2 _ _) (by first | exact hmm | omega)).mono ?_
    rintro e w3 ⟨⟨r, rfl, hr, hlo, hhi⟩, ht3⟩
    have T3 := Lib.hid ((T2.out.alloc (.cells #[.int .i64 ((SZ / 2 : Nat) : Int)] 3)).trans ht3)
    have B3 := Lib.hid ((B2.out.alloc (.cells #[.int .i64 ((SZ / 2 : Nat) : Int)] 3)).turn ht3 (fun h => h))
    have R3 := Lib.hid ((R2.out.alloc (.cells #[.int .i64 ((SZ / 2 : Nat) : Int)] 3)).turn ht3 (fun h => h))
    have S3 := Lib.hid ((S2.out.alloc (.cells #[.int .i64 ((SZ / 2 : Nat) : Int)] 3)).turn ht3 (fun h => h))
    have HLO := Lib.hid hlo
    have HHI := Lib.hid hhi
    clear ht3 hlo hhi B2 R2 S2
    obtain ⟨k, hk⟩ : ∃ k, k = r + 1 := ⟨_, rfl⟩
    have HKR := Lib.hid hk
    have hkn : k + 0 < nk := by omega
    have u1 : (1 : Int) + (r : Int) = (k : Int) := by omega
    have u2 := wrap_of (k : Int) (by omega) (by omega)
    have u3 : (k : Int) < (nk : Int) := by omega
    have u4 : (0 : Int) ≤ (k : Int) := by omega
    have u5 := wrap_of ((k : Int) + 1) (by omega) (by omega)
    have hkk := HKY.out k (by omega)
    have HKC : Hid (∀ X, Turn (fun _ => False) w X → X.cell? ⟨b1, o1 + k, none⟩ = some (.string (key8 n.keys k))) := Lib.hid (fun X hX => HCK.out X hX k _ hkk)
    have HKC2 : Hid (∀ X, Turn (fun _ => False) w3 X → X.cell? ⟨b1, o1 + k, none⟩ = some (.string (key8 n.keys k))) := Lib.hid (fun X hX => HKC.out X (T3.out.trans hX))
    have HBK : Hid (b1 < w.heap.size) := Lib.hid hbk1
    have HP1 := Lib.hid (fun X hX => HPO.out X 0 k hX (Nat.zero_le _) (by omega))
    have HP2 := Lib.hid (fun X hX => HPO.out X (k + 0) nk hX (by omega) (Nat.le_refl _))
    have HO1 := Lib.hid (fun X => HOW.out X 0 k)
    have HO2 := Lib.hid (fun X => HOW.out X (k + 0) nk)
    generalize hky : key8 n.keys k = ky at *
    clear hk
    obtain ⟨PA, hPA⟩ : ∃ p, part8 n 0 k = p := ⟨_, rfl⟩
    obtain ⟨PB, hPB⟩ : ∃ p, part8 n (k + 0) nk = p := ⟨_, rfl⟩
    rw [hPA] at HP1 HO1
    rw [hPB] at HP2 HO2
    have HPA := Lib.hid hPA
    have HPB := Lib.hid hPB
    clear hPA hPB HPO HOW
    generalize hpl : PA.leaf = pl at *
    generalize hpk : PA.keys.length = pk at *
    generalize hpv : PA.vals.length = pv at *
    generalize hpd : PA.kids.length = pd at *
    generalize hql : PB.leaf = ql at *
    generalize hqk : PB.keys.length = qk at *
    generalize hqv : PB.vals.length = qv at *
    generalize hqd : PB.kids.length = qd at *
    have y30 : (w3.drew).cell? ⟨w.heap.size, 0, none⟩ = some (.bool true) := (B3.out.drew).cell 0
    have y31 : (w3.drew).cell? ⟨w.heap.size, 1, none⟩ = some (.slice (some ⟨b1, o1, none⟩) nk c1) := (B3.out.drew).cell 1
    have y32 : (w3.drew).cell? ⟨w.heap.size, 2, none⟩ = some (.slice A2 nv c2) := (B3.out.drew).cell 2
    have y33 : (w3.drew).cell? ⟨w.heap.size, 3, none⟩ = some (.slice A3 nd c3) := (B3.out.drew).cell 3
    have y34 : (w3.drew).cell? ⟨b1, o1 + k, none⟩ = some (.string ky) := HKC2.out _ (Turn.refl (fun _ => False) w3).drew
    go_wp2_with fail
    go_region_held3 (fun X => X.cell? ⟨w.heap.size, 0, none⟩ = some (.bool true) ∧ X.cell? ⟨w.heap.size, 1, none⟩ = some (.slice (some ⟨b1, o1, none⟩) nk c1) ∧ X.cell? ⟨w.heap.size, 2, none⟩ = some (.slice A2 nv c2) ∧ X.cell? ⟨w.heap.size, 3, none⟩ = some (.slice A3 nd c3) ∧ X.cell? ⟨b1, o1 + k, none⟩ = some (.string ky))
      (first
        | (with_reducible exact ⟨y30, y31, y32, y33, y34⟩)
        | (with_reducible exact ⟨y40, y41, y42, y43, y44⟩)
        | (with_reducible exact ⟨y50, y51, y52, y53, y54⟩)
        | (with_reducible exact ⟨y60, y61, y62, y63, y64⟩)
        | (with_reducible exact ⟨y70, y71, y72, y73, y74⟩)
        | (with_reducible exact ⟨y80, y81, y82, y83, y84⟩)
        | (with_reducible exact ⟨y90, y91, y92, y93, y94⟩))
      (first
        | (refine step_call rfl 43 Try.f43 _ _ rfl Try.func43 (by kernel_rfl) (by kernel_rfl) _ _ (HO2.out _ L1 g1 L2 g2 L3 g3 N6.out P6.out) (by go_simp) ?_; rintro v7 w7 ⟨I1, j1, I2, j2, I3, j3, rfl, hn7, hp7, ht7⟩; have T7 : Hid (Turn (fun _ => False) w3 w7) := Lib.hid ((T6.out).trans ht7); have N7 := Lib.hid hn7; have P7 := Lib.hid hp7; have V7 := Lib.hid (V6.out.trans ht7); clear hn7 hp7; have y70 : (w7).cell? ⟨w.heap.size, 0, none⟩ = some (.bool true) := (B3.out.turn T7.out (fun h => h)).cell 0; have y71 : (w7).cell? ⟨w.heap.size, 1, none⟩ = some (.slice (some ⟨b1, o1, none⟩) nk c1) := (B3.out.turn T7.out (fun h => h)).cell 1; have y72 : (w7).cell? ⟨w.heap.size, 2, none⟩ = some (.slice A2 nv c2) := (B3.out.turn T7.out (fun h => h)).cell 2; have y73 : (w7).cell? ⟨w.heap.size, 3, none⟩ = some (.slice A3 nd c3) := (B3.out.turn T7.out (fun h => h)).cell 3; have y74 : (w7).cell? ⟨b1, o1 + k, none⟩ = some (.string ky) := HKC2.out _ T7.out; have R7 := Lib.hid (R3.out.turn T7.out (fun h => h)); have S7 := Lib.hid (S3.out.turn T7.out (fun h => h)); have r0 := R7.out.cell 0; have r1 := R7.out.cell 1; have r2 := R7.out.cell 2; have r3 := R7.out.cell 3; have g0 := R7.out.free 0; have g01 := R7.out.free 1; have g02 := R7.out.free 2; have g03 := R7.out.free 3; have F1 := Lib.hid (put4 R7.out (.bool pl) (.slice E1 pk f1) (.slice E2 pv f2) (.slice E3 pd f3)); have S8 := Lib.hid (S7.out.turn F1.out.2 (fun h => by omega)); have B7 := Lib.hid (B3.out.turn T7.out (fun h => h)); have F2 := Lib.hid (put4 S8.out (.bool ql) (.slice I1 qk j1) (.slice I2 qv j2) (.slice I3 qd j3)); have s0 := S8.out.cell 0; have s1 := S8.out.cell 1; have s2 := S8.out.cell 2; have s3 := S8.out.cell 3; have h0 := S8.out.free 0; have h01 := S8.out.free 1; have h02 := S8.out.free 2; have h03 := S8.out.free 3; have hz5 := T5.out.size; have hz6 := T6.out.size; have hz7 := T7.out.size; have hz3 := T3.out.size; have hbk := HBK.out; have kc7 := HKC2.out _ T7.out; have kc8 := (World.cell?_of_block (w := w7) (w' := ((((w7).setCell ⟨w.heap.size + 1, 0, none⟩ (.bool pl)).setCell ⟨w.heap.size + 1, 1, none⟩ (.slice E1 pk f1)).setCell ⟨w.heap.size + 1, 2, none⟩ (.slice E2 pv f2)).setCell ⟨w.heap.size + 1, 3, none⟩ (.slice E3 pd f3)) (a := ⟨b1, o1 + k, none⟩) (F1.out.2.block b1 (by omega) (fun h => by omega))).trans kc7; have y80 : (((((w7).setCell ⟨w.heap.size + 1, 0, none⟩ (.bool pl)).setCell ⟨w.heap.size + 1, 1, none⟩ (.slice E1 pk f1)).setCell ⟨w.heap.size + 1, 2, none⟩ (.slice E2 pv f2)).setCell ⟨w.heap.size + 1, 3, none⟩ (.slice E3 pd f3)).cell? ⟨w.heap.size, 0, none⟩ = some (.bool true) := (B7.out.turn F1.out.2 (fun h => by omega)).cell 0; have y81 : (((((w7).setCell ⟨w.heap.size + 1, 0, none⟩ (.bool pl)).setCell ⟨w.heap.size + 1, 1, none⟩ (.slice E1 pk f1)).setCell ⟨w.heap.size + 1, 2, none⟩ (.slice E2 pv f2)).setCell ⟨w.heap.size + 1, 3, none⟩ (.slice E3 pd f3)).cell? ⟨w.heap.size, 1, none⟩ = some (.slice (some ⟨b1, o1, none⟩) nk c1) := (B7.out.turn F1.out.2 (fun h => by omega)).cell 1; have y82 : (((((w7).setCell ⟨w.heap.size + 1, 0, none⟩ (.bool pl)).setCell ⟨w.heap.size + 1, 1, none⟩ (.slice E1 pk f1)).setCell ⟨w.heap.size + 1, 2, none⟩ (.slice E2 pv f2)).setCell ⟨w.heap.size + 1, 3, none⟩ (.slice E3 pd f3)).cell? ⟨w.heap.size, 2, none⟩ = some (.slice A2 nv c2) := (B7.out.turn F1.out.2 (fun h => by omega)).cell 2; have y83 : (((((w7).setCell ⟨w.heap.size + 1, 0, none⟩ (.bool pl)).setCell ⟨w.heap.size + 1, 1, none⟩ (.slice E1 pk f1)).setCell ⟨w.heap.size + 1, 2, none⟩ (.slice E2 pv f2)).setCell ⟨w.heap.size + 1, 3, none⟩ (.slice E3 pd f3)).cell? ⟨w.heap.size, 3, none⟩ = some (.slice A3 nd c3) := (B7.out.turn F1.out.2 (fun h => by omega)).cell 3; have y84 : (((((w7).setCell ⟨w.heap.size + 1, 0, none⟩ (.bool pl)).setCell ⟨w.heap.size + 1, 1, none⟩ (.slice E1 pk f1)).setCell ⟨w.heap.size + 1, 2, none⟩ (.slice E2 pv f2)).setCell ⟨w.heap.size + 1, 3, none⟩ (.slice E3 pd f3)).cell? ⟨b1, o1 + k, none⟩ = some (.string ky) := kc8; have hzF := F1.out.2.size; have kc9 := (World.cell?_of_block (w := ((((w7).setCell ⟨w.heap.size + 1, 0, none⟩ (.bool pl)).setCell ⟨w.heap.size + 1, 1, none⟩ (.slice E1 pk f1)).setCell ⟨w.heap.size + 1, 2, none⟩ (.slice E2 pv f2)).setCell ⟨w.heap.size + 1, 3, none⟩ (.slice E3 pd f3)) (w' := ((((((((w7).setCell ⟨w.heap.size + 1, 0, none⟩ (.bool pl)).setCell ⟨w.heap.size + 1, 1, none⟩ (.slice E1 pk f1)).setCell ⟨w.heap.size + 1, 2, none⟩ (.slice E2 pv f2)).setCell ⟨w.heap.size + 1, 3, none⟩ (.slice E3 pd f3)).setCell ⟨w.heap.size + 1 + 1, 0, none⟩ (.bool ql)).setCell ⟨w.heap.size + 1 + 1, 1, none⟩ (.slice I1 qk j1)).setCell ⟨w.heap.size + 1 + 1, 2, none⟩ (.slice I2 qv j2)).setCell ⟨w.heap.size + 1 + 1, 3, none⟩ (.slice I3 qd j3)) (a := ⟨b1, o1 + k, none⟩) (F2.out.2.block b1 (by omega) (fun h => by omega))).trans kc8; have y90 : (((((((((w7).setCell ⟨w.heap.size + 1, 0, none⟩ (.bool pl)).setCell ⟨w.heap.size + 1, 1, none⟩ (.slice E1 pk f1)).setCell ⟨w.heap.size + 1, 2, none⟩ (.slice E2 pv f2)).setCell ⟨w.heap.size + 1, 3, none⟩ (.slice E3 pd f3)).setCell ⟨w.heap.size + 1 + 1, 0, none⟩ (.bool ql)).setCell ⟨w.heap.size + 1 + 1, 1, none⟩ (.slice I1 qk j1)).setCell ⟨w.heap.size + 1 + 1, 2, none⟩ (.slice I2 qv j2)).setCell ⟨w.heap.size + 1 + 1, 3, none⟩ (.slice I3 qd j3)).cell? ⟨w.heap.size, 0, none⟩ = some (.bool true) := ((B7.out.turn F1.out.2 (fun h => by omega)).turn F2.out.2 (fun h => by omega)).cell 0; have y91 : (((((((((w7).setCell ⟨w.heap.size + 1, 0, none⟩ (.bool pl)).setCell ⟨w.heap.size + 1, 1, none⟩ (.slice E1 pk f1)).setCell ⟨w.heap.size + 1, 2, none⟩ (.slice E2 pv f2)).setCell ⟨w.heap.size + 1, 3, none⟩ (.slice E3 pd f3)).setCell ⟨w.heap.size + 1 + 1, 0, none⟩ (.bool ql)).setCell ⟨w.heap.size + 1 + 1, 1, none⟩ (.slice I1 qk j1)).setCell ⟨w.heap.size + 1 + 1, 2, none⟩ (.slice I2 qv j2)).setCell ⟨w.heap.size + 1 + 1, 3, none⟩ (.slice I3 qd j3)).cell? ⟨w.heap.size, 1, none⟩ = some (.slice (some ⟨b1, o1, none⟩) nk c1) := ((B7.out.turn F1.out.2 (fun h => by omega)).turn F2.out.2 (fun h => by omega)).cell 1; have y92 : (((((((((w7).setCell ⟨w.heap.size + 1, 0, none⟩ (.bool pl)).setCell ⟨w.heap.size + 1, 1, none⟩ (.slice E1 pk f1)).setCell ⟨w.heap.size + 1, 2, none⟩ (.slice E2 pv f2)).setCell ⟨w.heap.size + 1, 3, none⟩ (.slice E3 pd f3)).setCell ⟨w.heap.size + 1 + 1, 0, none⟩ (.bool ql)).setCell ⟨w.heap.size + 1 + 1, 1, none⟩ (.slice I1 qk j1)).setCell ⟨w.heap.size + 1 + 1, 2, none⟩ (.slice I2 qv j2)).setCell ⟨w.heap.size + 1 + 1, 3, none⟩ (.slice I3 qd j3)).cell? ⟨w.heap.size, 2, none⟩ = some (.slice A2 nv c2) := ((B7.out.turn F1.out.2 (fun h => by omega)).turn F2.out.2 (fun h => by omega)).cell 2; have y93 : (((((((((w7).setCell ⟨w.heap.size + 1, 0, none⟩ (.bool pl)).setCell ⟨w.heap.size + 1, 1, none⟩ (.slice E1 pk f1)).setCell ⟨w.heap.size + 1, 2, none⟩ (.slice E2 pv f2)).setCell ⟨w.heap.size + 1, 3, none⟩ (.slice E3 pd f3)).setCell ⟨w.heap.size + 1 + 1, 0, none⟩ (.bool ql)).setCell ⟨w.heap.size + 1 + 1, 1, none⟩ (.slice I1 qk j1)).setCell ⟨w.heap.size + 1 + 1, 2, none⟩ (.slice I2 qv j2)).setCell ⟨w.heap.size + 1 + 1, 3, none⟩ (.slice I3 qd j3)).cell? ⟨w.heap.size, 3, none⟩ = some (.slice A3 nd c3) := ((B7.out.turn F1.out.2 (fun h => by omega)).turn F2.out.2 (fun h => by omega)).cell 3; have y94 : (((((((((w7).setCell ⟨w.heap.size + 1, 0, none⟩ (.bool pl)).setCell ⟨w.heap.size + 1, 1, none⟩ (.slice E1 pk f1)).setCell ⟨w.heap.size + 1, 2, none⟩ (.slice E2 pv f2)).setCell ⟨w.heap.size + 1, 3, none⟩ (.slice E3 pd f3)).setCell ⟨w.heap.size + 1 + 1, 0, none⟩ (.bool ql)).setCell ⟨w.heap.size + 1 + 1, 1, none⟩ (.slice I1 qk j1)).setCell ⟨w.heap.size + 1 + 1, 2, none⟩ (.slice I2 qv j2)).setCell ⟨w.heap.size + 1 + 1, 3, none⟩ (.slice I3 qd j3)).cell? ⟨b1, o1 + k, none⟩ = some (.string ky) := kc9; clear ht7)
        | (refine step_call rfl 42 Try.f42 _ _ rfl Try.func42 (by kernel_rfl) (by kernel_rfl) _ _ (HP2.out _ (T3.out.trans T5.out)) (by go_simp) ?_; rintro v6 w6 ⟨L1, g1, L2, g2, L3, g3, rfl, hn6, hp6, ht6⟩; have T6 : Hid (Turn (fun _ => False) w3 w6) := Lib.hid ((T5.out).trans ht6); have N6 := Lib.hid hn6; have P6 := Lib.hid hp6; have V6 := Lib.hid ht6; clear hn6 hp6; have y60 : (w6).cell? ⟨w.heap.size, 0, none⟩ = some (.bool true) := (B3.out.turn T6.out (fun h => h)).cell 0; have y61 : (w6).cell? ⟨w.heap.size, 1, none⟩ = some (.slice (some ⟨b1, o1, none⟩) nk c1) := (B3.out.turn T6.out (fun h => h)).cell 1; have y62 : (w6).cell? ⟨w.heap.size, 2, none⟩ = some (.slice A2 nv c2) := (B3.out.turn T6.out (fun h => h)).cell 2; have y63 : (w6).cell? ⟨w.heap.size, 3, none⟩ = some (.slice A3 nd c3) := (B3.out.turn T6.out (fun h => h)).cell 3; have y64 : (w6).cell? ⟨b1, o1 + k, none⟩ = some (.string ky) := HKC2.out _ T6.out; clear ht6)
        | (refine step_call rfl 43 Try.f43 _ _ rfl Try.func43 (by kernel_rfl) (by kernel_rfl) _ _ (HO1.out _ D1 e1 D2 e2 D3 e3 N4.out P4.out) (by go_simp) ?_; rintro v5 w5 ⟨E1, f1, E2, f2, E3, f3, rfl, hn5, hp5, ht5⟩; have T5 : Hid (Turn (fun _ => False) w3 w5) := Lib.hid ((T4.out).trans ht5); have N5 := Lib.hid hn5; have P5 := Lib.hid hp5; have hz4 := T4.out.size; clear hn5 hp5; have y50 : (w5).cell? ⟨w.heap.size, 0, none⟩ = some (.bool true) := (B3.out.turn T5.out (fun h => h)).cell 0; have y51 : (w5).cell? ⟨w.heap.size, 1, none⟩ = some (.slice (some ⟨b1, o1, none⟩) nk c1) := (B3.out.turn T5.out (fun h => h)).cell 1; have y52 : (w5).cell? ⟨w.heap.size, 2, none⟩ = some (.slice A2 nv c2) := (B3.out.turn T5.out (fun h => h)).cell 2; have y53 : (w5).cell? ⟨w.heap.size, 3, none⟩ = some (.slice A3 nd c3) := (B3.out.turn T5.out (fun h => h)).cell 3; have y54 : (w5).cell? ⟨b1, o1 + k, none⟩ = some (.string ky) := HKC2.out _ T5.out; clear ht5)
        | (refine step_call rfl 42 Try.f42 _ _ rfl Try.func42 (by kernel_rfl) (by kernel_rfl) _ _ (HP1.out _ (T3.out.trans (Turn.refl (fun _ => False) w3).drew)) (by go_simp) ?_; rintro v4 w4 ⟨D1, e1, D2, e2, D3, e3, rfl, hn4, hp4, ht4⟩; have T4 : Hid (Turn (fun _ => False) w3 w4) := Lib.hid (((Turn.refl (fun _ => False) w3).drew).trans ht4); have N4 := Lib.hid hn4; have P4 := Lib.hid hp4; clear hn4 hp4; have y40 : (w4).cell? ⟨w.heap.size, 0, none⟩ = some (.bool true) := (B3.out.turn T4.out (fun h => h)).cell 0; have y41 : (w4).cell? ⟨w.heap.size, 1, none⟩ = some (.slice (some ⟨b1, o1, none⟩) nk c1) := (B3.out.turn T4.out (fun h => h)).cell 1; have y42 : (w4).cell? ⟨w.heap.size, 2, none⟩ = some (.slice A2 nv c2) := (B3.out.turn T4.out (fun h => h)).cell 2; have y43 : (w4).cell? ⟨w.heap.size, 3, none⟩ = some (.slice A3 nd c3) := (B3.out.turn T4.out (fun h => h)).cell 3; have y44 : (w4).cell? ⟨b1, o1 + k, none⟩ = some (.string ky) := HKC2.out _ T4.out; clear ht4))
    all_goals go_wp2_with fail
    have hR3 := R3.out.lt
    have hS3 := S3.out.lt
    have htt := ((T3.out.trans T7.out).trans_new F1.out.2 (fun k hk e => by omega)).trans_new F2.out.2 (fun k hk e => by omega)
    have hTA : Turn (fun k => k < w4.heap.size) w5 _ := ((V7.out.mono (fun k _ h => h.elim)).trans (F1.out.2.mono (fun k _ (h : k = w.heap.size + 1) => (by omega : k < w4.heap.size)))).trans (F2.out.2.mono (fun k _ (h : k = w.heap.size + 1 + 1) => (by omega : k < w4.heap.size)))
    have hTB : Turn (fun k => k < w6.heap.size) w7 _ := (F1.out.2.mono (fun k _ (h : k = w.heap.size + 1) => (by omega : k < w6.heap.size))).trans (F2.out.2.mono (fun k _ (h : k = w.heap.size + 1 + 1) => (by omega : k < w6.heap.size)))
    have hGA := F1.out.1.turn F2.out.2 (fun h => by omega)
    have hGB := F2.out.1
    have d0 := hGA.cell 0
    have d1 := hGA.cell 1
    have d2 := hGA.cell 2
    have d3 := hGA.cell 3
    have e0 := hGB.cell 0
    have e1' := hGB.cell 1
    have e2' := hGB.cell 2
    have e3' := hGB.cell 3
    simp only [List.getElem?_cons_zero, List.getElem?_cons_succ] at d0 d1 d2 d3 e0 e1' e2' e3'
    clear hGA hGB r0 r1 r2 r3 g0 g01 g02 g03 s0 s1 s2 s3 h0 h01 h02 h03 y80 y81 y82 y83 y84 y90 y91 y92 y93 y94 kc8 kc9 hzF F1 F2 S8
    generalize ((((((((w7).setCell ⟨w.heap.size + 1, 0, none⟩ (.bool pl)).setCell ⟨w.heap.size + 1, 1, none⟩ (.slice E1 pk f1)).setCell ⟨w.heap.size + 1, 2, none⟩ (.slice E2 pv f2)).setCell ⟨w.heap.size + 1, 3, none⟩ (.slice E3 pd f3)).setCell ⟨w.heap.size + 1 + 1, 0, none⟩ (.bool ql)).setCell ⟨w.heap.size + 1 + 1, 1, none⟩ (.slice I1 qk j1)).setCell ⟨w.heap.size + 1 + 1, 2, none⟩ (.slice I2 qv j2)).setCell ⟨w.heap.size + 1 + 1, 3, none⟩ (.slice I3 qd j3) = WF at *
    refine bodyPost_ret (v := .tuple #[.agg #[.bool pl, .slice E1 pk f1, .slice E2 pv f2, .slice E3 pd f3], .string ky, .agg #[.bool ql, .slice I1 qk j1, .slice I2 qv j2, .slice I3 qd j3], .bool true]) (by simp [results, Try.results20, go_sem, d0, d1, d2, d3, e0, e1', e2', e3']) rfl ⟨k, _, _, by rw [hky], ⟨by have := HKR.out; omega, hkn, fun i h1 h2 => ?_, fun h1 => ?_⟩, ?_, ?_, htt⟩
    · have := of_decide_eq_false (HLO.out (i - 1) (by have := HKR.out; omega))
      rw [show i - 1 + 1 = i from by omega] at this
      omega
    · have := of_decide_eq_true (HHI.out (by have := HKR.out; omega))
      rw [HKR.out]; exact this
    · rw [HPA.out]
      exact ⟨E1, f1, E2, f2, E3, f3, by simp only [nv8, hpl, hpk, hpv, hpd], N5.out _ hTA, by rw [hpk, hpv, hpd]; exact P5.out⟩
    · rw [HPB.out]
      exact ⟨I1, j1, I2, j2, I3, j3, by simp only [nv8, hql, hqk, hqv, hqd], N7.out _ hTB, by rw [hqk, hqv, hqd]; exact P7.out⟩
end Go.Proofs.Ytpnnbfojdccfhaa
