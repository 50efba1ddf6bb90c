/- The walk of ambrylaw08.PagePut: another key. -/
import Derived.Test.YtjjjacmpccimkaaPpA
namespace Go.Proofs.Ytjjjacmpccimkaa
open Go.RowKit
set_option linter.unusedVariables false
set_option maxRecDepth 100000

set_option maxHeartbeats 16000000 in
theorem pagePut_there (n : Nd) (key val other : ByteArray) (w : World) (A1 : Option Addr) (c1 : Nat) (A2 : Option Addr) (c2 : Nat) (A3 : Option Addr) (c3 : Nat) (hfw : few8 n = true) (hno : No w A1 c1 A2 c2 A3 c3 n) (hc1 : Cp A1 n.keys.length c1) (hc2 : Cp A2 n.vals.length c2) (hf : Few8 n) (hp : pok8 n key val = true) (hot : other ≠ key) (hfo : (find8 n other).2 = true) :
    Calls Try.prog 10 #[nv8 A1 c1 A2 c2 A3 c3 n, .string key, .string val, .string other] w fun e w' => e = .returned (.bool true) ∧ Below w.heap.size w w' := by
  have hp2 := hp
  unfold pok8 at hp2
  simp only [Bool.and_eq_true, decide_eq_true_eq] at hp2
  obtain ⟨hst, hlf, hkz, hvz⟩ := hp2
  have hs := st8_of hst
  have h500 : n.keys.length ≤ 500 := by unfold few8 at hfw; simp at hfw; omega
  have hvl := ((stands_leaf2 hlf).1 hs).2.2.2.1
  obtain ⟨a1, a2, _, _⟩ := around (key := key) hs hlf
  have SM := put_stands (key := key) (val := val) hs hlf hkz hvz
  have hmk := put_key (key := key) (val := val) hs hlf
  have hmv := put_val (key := key) (val := val) hs hlf
  have hdr := put_drop (key := key) (val := val) hs hlf
  have hdd := put_dropped (key := key) (val := val) hs hlf
  obtain ⟨ho1, ho2⟩ := put_other (key := key) (val := val) hs hlf hkz hvz hot
  rw [hfo] at ho1 ho2
  have hml : (put8 n (find8 n key).1 (gone8 (find8 n key).2) key val).leaf = true := rfl
  have hmlen : (put8 n (find8 n key).1 (gone8 (find8 n key).2) key val).keys.length ≤ 2000 := by
    show (chg8 _ _ _ _).length ≤ 2000
    rw [len_chg a2]; simp; omega
  have HFW := Lib.hid (fun W => few_any n A1 c1 A2 c2 A3 c3 W)
  rw [hfw] at HFW
  have HLV := Lib.hid (fun W => lives8 W)
  have HPU := Lib.hid (fun W (ht : Turn (fun _ => False) w W) => put_yes n key val A1 c1 A2 c2 A3 c3 W (hno.turn ht) hc1 hc2 hf hp)
  have hfk : ∃ b, (find8 n key).2 = b := ⟨_, rfl⟩
  obtain ⟨FB, hFB⟩ := hfk
  have HDN1 := Lib.hid (fun (hq : (find8 n key).2 = true) W (ht : Turn (fun _ => False) w W) => drop_yes n key A1 c1 A2 c2 A3 c3 W (hno.turn ht) hc1 hc2 hf hq)
  have HDN0 := Lib.hid (fun (hq : (find8 n key).2 = false) W (ht : Turn (fun _ => False) w W) => drop_no n key A1 c1 A2 c2 A3 c3 W (hno.turn ht) hf hq)
  rw [hFB] at HDN1 HDN0 HPU SM hmk hmv hdr hdd a2 hml hmlen ho1 ho2
  obtain ⟨P, hP⟩ : ∃ p, (find8 n key).1 = p := ⟨_, rfl⟩
  rw [hP] at HDN1 HPU SM hmk hmv hdr hdd a1 a2 hml hmlen ho1 ho2
  have hdl : (drop8 (put8 n P (gone8 FB) key val) P).keys.length = n.keys.length - gone8 FB := by rw [hdr, len_chg a2]; simp
  have hcl : FB = true → (drop8 n P).keys.length = n.keys.length - gone8 FB := fun e => by subst e; exact (len_chg (M := []) (show P + 1 ≤ n.keys.length from a2)).trans (by simp [gone8])
  obtain ⟨MN, hMN⟩ : ∃ m, put8 n P (gone8 FB) key val = m := ⟨_, rfl⟩
  rw [hMN] at HPU SM hmk hmv hdd hml hmlen hdl ho1 ho2
  have FM := few8_of SM hml hmlen
  have hfm := find_at SM hml hmk
  have hmvl := ((stands_leaf2 hml).1 SM).2.2.2.1
  have hPk : P < MN.keys.length := by rcases Nat.lt_or_ge P MN.keys.length with h | h; exact h; rw [List.getElem?_eq_none h] at hmk; cases hmk
  have HFM : Hid (∀ W B1 d1 B2 d2 B3 d3, No W B1 d1 B2 d2 B3 d3 MN → Calls Try.prog 22 #[nv8 B1 d1 B2 d2 B3 d3 MN, .string key] W fun e w' => e = .returned (.tuple #[.int .i64 (P : Nat), .bool true]) ∧ Turn (fun _ => False) W w') := Lib.hid (fun W B1 d1 B2 d2 B3 d3 h => by have := find_any MN key B1 d1 B2 d2 B3 d3 W h FM; rw [hfm] at this; exact this)
  have HDM := Lib.hid (fun W B1 d1 B2 d2 B3 d3 (h : No W B1 d1 B2 d2 B3 d3 MN) (k1 : Cp B1 MN.keys.length d1) (k2 : Cp B2 MN.vals.length d2) => drop_yes MN key B1 d1 B2 d2 B3 d3 W h k1 k2 FM (by rw [hfm]))
  rw [show (find8 MN key).1 = P from by rw [hfm]] at HDM
  obtain ⟨DN, hDN⟩ : ∃ m, drop8 MN P = m := ⟨_, rfl⟩
  have hdlf : DN.leaf = true := by rw [← hDN]; rfl
  have FD : Few8 DN := by rw [← hDN]; exact few_drop FM P
  simp only [hDN] at HDM hdd hdl
  have HFD := Lib.hid (fun W B1 d1 B2 d2 B3 d3 (h : No W B1 d1 B2 d2 B3 d3 DN) => find_any DN key B1 d1 B2 d2 B3 d3 W h FD)
  rw [hdd] at HFD
  generalize (find8 DN key).1 = PD at *
  have HFO := Lib.hid (fun W B1 d1 B2 d2 B3 d3 (h : No W B1 d1 B2 d2 B3 d3 MN) => find_any MN other B1 d1 B2 d2 B3 d3 W h FM)
  have HFN := Lib.hid (fun W (ht : Turn (fun _ => False) w W) => find_any n other A1 c1 A2 c2 A3 c3 W (hno.turn ht) hf)
  rw [ho1] at HFO
  rw [hfo] at HFN
  have hJ := find_pos hfo
  have hKm := find_pos ho1
  have hJl : (find8 n other).1 < n.vals.length := by rw [hvl]; rcases Nat.lt_or_ge (find8 n other).1 n.keys.length with h | h; exact h; rw [List.getElem?_eq_none h] at hJ; cases hJ
  have hKl : (find8 MN other).1 < MN.vals.length := by rw [hmvl]; rcases Nat.lt_or_ge (find8 MN other).1 MN.keys.length with h | h; exact h; rw [List.getElem?_eq_none h] at hKm; cases hKm
  have hvv := ho2 rfl
  have hx1 := key8_some hJl
  have hx2 := hvv.trans hx1
  have HX1 := Lib.hid hx1
  have HX2 := Lib.hid hx2
  generalize key8 n.vals (find8 n other).1 = xv at *
  clear hvv hx1 hx2 hJ hKm
  generalize (find8 n other).1 = J at *
  generalize (find8 MN other).1 = KK at *
  have HMK := Lib.hid hmk
  have HMV := Lib.hid hmv
  have HDL := Lib.hid hdl
  have HCL := Lib.hid hcl
  have HNO := Lib.hid hno
  have T0 := Lib.hid ((Turn.refl (fun _ => False) w).alloc (.cells #[.bool n.leaf, .slice A1 n.keys.length c1, .slice A2 n.vals.length c2, .slice A3 n.kids.length c3] 25))
  have B0 := Lib.hid (Blk.new w 25 [.bool n.leaf, .slice A1 n.keys.length c1, .slice A2 n.vals.length c2, .slice A3 n.kids.length c3])
  clear hno hc1 hc2 hf hp hst hkz hvz hs hvl a1 a2 SM hdr hdd hfw hmlen FM hfm hFB hP hMN hDN FD hmk hmv hdl hcl ho1 ho2 hfo
  have HN0 : Hid (∀ B1 d1 B2 d2 B3 d3 W, NoO W (nv8 B1 d1 B2 d2 B3 d3 MN) MN → True) := Lib.hid (fun _ _ _ _ _ _ _ _ => trivial)
  clear HN0
  simp only [nv8] at *
  rw [hml] at HFM HDM HFO
  rw [hlf] at B0 T0 HFW HPU HDN1 HDN0 HFN ⊢
  generalize hnk : n.keys.length = nk at *
  generalize hnv : n.vals.length = nv at *
  generalize hnd : n.kids.length = nd at *
  generalize hmk : MN.keys.length = mk at *
  generalize hmv : MN.vals.length = mv at *
  generalize hmd : MN.kids.length = md at *
  generalize hdk : DN.keys.length = dk at *
  generalize hdv : DN.vals.length = dv at *
  generalize hdd3 : DN.kids.length = dd at *
  rw [hdlf] at HFD
  have hPv : P < mv := by omega
  have i1 : decide ((P : Int) < 0) = false := decide_eq_false (by omega)
  have i2 : decide ((mk : Int) ≤ (P : Int)) = false := decide_eq_false (by omega)
  have i3 : decide ((mv : Int) ≤ (P : Int)) = false := decide_eq_false (by omega)
  have i4 : (P : Int) < (mk : Int) := by omega
  have i5 : (P : Int) < (mv : Int) := by omega
  have i6 : (0 : Int) ≤ (P : Int) := by omega
  have HMVL := Lib.hid hmvl
  clear hmvl
  have sk := str_same key
  have sv := str_same val
  go_enter Try.func10, Try.ntmps10
  go_wp2_with fail
  refine (HFW.out _).mono ?_
  rintro e w1 ⟨rfl, ht1⟩
  have T1 := Lib.hid (T0.out.trans ht1)
  have N1' := Lib.hid (B0.out.turn ht1 (fun h => h))
  clear ht1 T0 B0
  have y0 : w1.cell? ⟨w.heap.size, 0, none⟩ = some (.bool true) := N1'.out.cell 0
  have y1 : w1.cell? ⟨w.heap.size, 1, none⟩ = some (.slice A1 nk c1) := N1'.out.cell 1
  have y2 : w1.cell? ⟨w.heap.size, 2, none⟩ = some (.slice A2 nv c2) := N1'.out.cell 2
  have y3 : w1.cell? ⟨w.heap.size, 3, none⟩ = some (.slice A3 nd c3) := N1'.out.cell 3
  go_wp2_with fail
  refine (HPU.out _ T1.out).mono ?_
  rintro e w2 ⟨vM, rfl, hnoM, ht2⟩
  obtain ⟨B1, d1, B2, d2, B3, d3, rfl, hnm, k1, k2, _⟩ := hnoM
  have T2 := Lib.hid (T1.out.trans ht2)
  have N2 := Lib.hid (N1'.out.turn ht2 (fun h => h))
  have NM := Lib.hid hnm
  rw [hmk] at k1
  rw [hmv] at k2
  have K1 := Lib.hid k1
  have K2 := Lib.hid k2
  clear ht2 y0 y1 y2 y3 hnm k1 k2
  simp only [nv8]
  rw [hml, hmk, hmv, hmd]
  have M2 := Lib.hid (Blk.new w2 25 [.bool true, .slice B1 mk d1, .slice B2 mv d2, .slice B3 md d3])
  go_wp2_with fail
  refine (HFM.out _ B1 d1 B2 d2 B3 d3 (NM.out.turn ((Turn.refl _ w2).alloc _))).mono ?_
  rintro e w3 ⟨rfl, ht3⟩
  have NM3 := Lib.hid ((NM.out.turn ((Turn.refl _ w2).alloc (.cells #[.bool true, .slice B1 mk d1, .slice B2 mv d2, .slice B3 md d3] 25))).turn ht3)
  have T3 := Lib.hid ((T2.out.alloc (.cells #[.bool true, .slice B1 mk d1, .slice B2 mv d2, .slice B3 md d3] 25)).trans ht3)
  have N3 := Lib.hid ((N2.out.alloc (.cells #[.bool true, .slice B1 mk d1, .slice B2 mv d2, .slice B3 md d3] 25)).turn ht3 (fun h => h))
  have M3 := Lib.hid (M2.out.turn ht3 (fun h => h))
  clear ht3
  obtain ⟨b1, o1, hB1, _, hcc1⟩ := NM3.out.keys (by omega)
  obtain ⟨b2, o2, hB2, _, hcc2⟩ := NM3.out.vals (by omega)
  subst hB1 hB2
  have q1 : w3.cell? ⟨b1, o1 + P, none⟩ = some (.string key) := hcc1 w3 (Turn.refl _ w3) P key HMK.out
  have q2 : w3.cell? ⟨b2, o2 + P, none⟩ = some (.string val) := hcc2 w3 (Turn.refl _ w3) P val HMV.out
  have m1 : w3.cell? ⟨w2.heap.size, 1, none⟩ = some (.slice (some ⟨b1, o1, none⟩) mk d1) := M3.out.cell 1
  have m2 : w3.cell? ⟨w2.heap.size, 2, none⟩ = some (.slice (some ⟨b2, o2, none⟩) mv d2) := M3.out.cell 2
  clear hcc1 hcc2
  have hne : (key.toList == other.toList) = false := by
    cases hq : (key.toList == other.toList) with
    | false => rfl
    | true => have h5 := eq_of_beq hq; rw [tol, tol] at h5; exact absurd (ba_ext h5).symm hot
  have y0 : w3.cell? ⟨w.heap.size, 0, none⟩ = some (.bool true) := N3.out.cell 0
  have y1 : w3.cell? ⟨w.heap.size, 1, none⟩ = some (.slice A1 nk c1) := N3.out.cell 1
  have y2 : w3.cell? ⟨w.heap.size, 2, none⟩ = some (.slice A2 nv c2) := N3.out.cell 2
  have y3 : w3.cell? ⟨w.heap.size, 3, none⟩ = some (.slice A3 nd c3) := N3.out.cell 3
  go_wp2_with fail
  refine (HFN.out _ T3.out).mono ?_
  rintro e w4 ⟨rfl, ht4⟩
  have T4 := Lib.hid (T3.out.trans ht4)
  have N4 := Lib.hid (N3.out.turn ht4 (fun h => h))
  have M4 := Lib.hid (M3.out.turn ht4 (fun h => h))
  have NM4 := Lib.hid (NM3.out.turn ht4)
  clear ht4 y0 y1 y2 y3 m1 m2 q1 q2
  have m0 : w4.cell? ⟨w2.heap.size, 0, none⟩ = some (.bool true) := M4.out.cell 0
  have m1 : w4.cell? ⟨w2.heap.size, 1, none⟩ = some (.slice (some ⟨b1, o1, none⟩) mk d1) := M4.out.cell 1
  have m2 : w4.cell? ⟨w2.heap.size, 2, none⟩ = some (.slice (some ⟨b2, o2, none⟩) mv d2) := M4.out.cell 2
  have m3 : w4.cell? ⟨w2.heap.size, 3, none⟩ = some (.slice B3 md d3) := M4.out.cell 3
  go_wp2_with fail
  refine (HFO.out _ _ _ _ _ _ _ NM4.out).mono ?_
  rintro e w5 ⟨rfl, ht5⟩
  have T5 := Lib.hid (T4.out.trans ht5)
  have N5 := Lib.hid (N4.out.turn ht5 (fun h => h))
  have M5 := Lib.hid (M4.out.turn ht5 (fun h => h))
  have NM5 := Lib.hid (NM4.out.turn ht5)
  clear ht5 m0 m1 m2 m3
  obtain ⟨b4, o4, hA2, _, hcc4⟩ := HNO.out.vals (by omega)
  subst hA2
  obtain ⟨b6, o6, hb6, _, hcc6⟩ := NM5.out.vals (by omega)
  injection hb6 with hb6
  injection hb6 with hb6a hb6b
  subst hb6a hb6b
  have q1 : w5.cell? ⟨b4, o4 + J, none⟩ = some (.string xv) := hcc4 w5 T5.out J xv HX1.out
  have q2 : w5.cell? ⟨b2, o2 + KK, none⟩ = some (.string xv) := hcc6 w5 (Turn.refl _ w5) KK xv HX2.out
  clear hcc4 hcc6
  have m2 : w5.cell? ⟨w2.heap.size, 2, none⟩ = some (.slice (some ⟨b2, o2, none⟩) mv d2) := M5.out.cell 2
  have y2 : w5.cell? ⟨w.heap.size, 2, none⟩ = some (.slice (some ⟨b4, o4, none⟩) nv c2) := N5.out.cell 2
  have j1 : decide ((J : Int) < 0) = false := decide_eq_false (by omega)
  have j2 : decide ((nv : Int) ≤ (J : Int)) = false := decide_eq_false (by omega)
  have j3 : decide ((KK : Int) < 0) = false := decide_eq_false (by omega)
  have j4 : decide ((mv : Int) ≤ (KK : Int)) = false := decide_eq_false (by omega)
  have j5 : (J : Int) < (nv : Int) := by omega
  have j6 : (KK : Int) < (mv : Int) := by omega
  have j7 : (0 : Int) ≤ (J : Int) := by omega
  have j8 : (0 : Int) ≤ (KK : Int) := by omega
  have sx := str_same xv
  go_wp2_with fail
  go_quiet (fail)
  have TX : Hid (Turn (fun _ => False) w (w5.drewN nq)) := Lib.hid (T5.out.drewN _)
  have BNX : Hid (Blk (w5.drewN nq) w.heap.size 25 [.bool true, .slice A1 nk c1, .slice (some ⟨b4, o4, none⟩) nv c2, .slice A3 nd c3]) := Lib.hid (N5.out.drewN _)
  have BMX : Hid (Blk (w5.drewN nq) w2.heap.size 25 [.bool true, .slice (some ⟨b1, o1, none⟩) mk d1, .slice (some ⟨b2, o2, none⟩) mv d2, .slice B3 md d3]) := Lib.hid (M5.out.drewN _)
  have NMX : Hid (No (w5.drewN nq) (some ⟨b1, o1, none⟩) d1 (some ⟨b2, o2, none⟩) d2 B3 d3 MN) := Lib.hid (NM5.out.turn ((Turn.refl _ w5).drewN _))
  try clear m2 y2 q1 q2
  have m0 : (w5.drewN nq).cell? ⟨w2.heap.size, 0, none⟩ = some (.bool true) := BMX.out.cell 0
  have m1 : (w5.drewN nq).cell? ⟨w2.heap.size, 1, none⟩ = some (.slice (some ⟨b1, o1, none⟩) mk d1) := BMX.out.cell 1
  have m2 : (w5.drewN nq).cell? ⟨w2.heap.size, 2, none⟩ = some (.slice (some ⟨b2, o2, none⟩) mv d2) := BMX.out.cell 2
  have m3 : (w5.drewN nq).cell? ⟨w2.heap.size, 3, none⟩ = some (.slice B3 md d3) := BMX.out.cell 3
  go_wp2_with fail
  refine (HDM.out _ (some ⟨b1, o1, none⟩) d1 (some ⟨b2, o2, none⟩) d2 B3 d3 NMX.out K1.out K2.out).mono ?_
  rintro e w6 ⟨vD, rfl, hnoD, ht6⟩
  obtain ⟨E1, f1, E2, f2, E3, f3, rfl, hnd6, _⟩ := hnoD
  have T6 := Lib.hid (TX.out.trans ht6)
  have N6 := Lib.hid (BNX.out.turn ht6 (fun h => h))
  have ND6 := Lib.hid hnd6
  clear ht6 m0 m1 m2 m3 hnd6
  simp only [nv8]
  rw [hdlf, hdk, hdv, hdd3]
  have D6 := Lib.hid (Blk.new w6 25 [.bool true, .slice E1 dk f1, .slice E2 dv f2, .slice E3 dd f3])
  go_wp2_with fail
  refine (HFD.out _ E1 f1 E2 f2 E3 f3 (ND6.out.turn ((Turn.refl _ w6).alloc _))).mono ?_
  rintro e w7 ⟨rfl, ht7⟩
  have T7 := Lib.hid ((T6.out.alloc (.cells #[.bool true, .slice E1 dk f1, .slice E2 dv f2, .slice E3 dd f3] 25)).trans ht7)
  have N7 := Lib.hid ((N6.out.alloc (.cells #[.bool true, .slice E1 dk f1, .slice E2 dv f2, .slice E3 dd f3] 25)).turn ht7 (fun h => h))
  have D7 := Lib.hid (D6.out.turn ht7 (fun h => h))
  clear ht7
  have y0 : w7.cell? ⟨w.heap.size, 0, none⟩ = some (.bool true) := N7.out.cell 0
  have y1 : w7.cell? ⟨w.heap.size, 1, none⟩ = some (.slice A1 nk c1) := N7.out.cell 1
  have y2 : w7.cell? ⟨w.heap.size, 2, none⟩ = some (.slice (some ⟨b4, o4, none⟩) nv c2) := N7.out.cell 2
  have y3 : w7.cell? ⟨w.heap.size, 3, none⟩ = some (.slice A3 nd c3) := N7.out.cell 3
  go_wp2_with fail
  cases FB
  · refine (HDN0.out (by first | rfl | trivial) _ T7.out).mono ?_
    rintro e w8 ⟨rfl, ht8⟩
    have T8 := Lib.hid (T7.out.trans ht8)
    have D8 := Lib.hid (D7.out.turn ht8 (fun h => h))
    have N8 := Lib.hid (N7.out.turn ht8 (fun h => h))
    clear ht8 y0 y1 y2 y3
    have y0 : w8.cell? ⟨w.heap.size, 0, none⟩ = some (.bool true) := N8.out.cell 0
    have y1 : w8.cell? ⟨w.heap.size, 1, none⟩ = some (.slice A1 nk c1) := N8.out.cell 1
    have y2 : w8.cell? ⟨w.heap.size, 2, none⟩ = some (.slice (some ⟨b4, o4, none⟩) nv c2) := N8.out.cell 2
    have y3 : w8.cell? ⟨w.heap.size, 3, none⟩ = some (.slice A3 nd c3) := N8.out.cell 3
    have z0 : (w8.alloc (.cells #[.bool false, .slice none 0 0, .slice none 0 0, .slice none 0 0] 25)).cell? ⟨w.heap.size, 0, none⟩ = some (.bool true) := (N8.out.alloc _).cell 0
    have z1 : (w8.alloc (.cells #[.bool false, .slice none 0 0, .slice none 0 0, .slice none 0 0] 25)).cell? ⟨w.heap.size, 1, none⟩ = some (.slice A1 nk c1) := (N8.out.alloc _).cell 1
    have z2 : (w8.alloc (.cells #[.bool false, .slice none 0 0, .slice none 0 0, .slice none 0 0] 25)).cell? ⟨w.heap.size, 2, none⟩ = some (.slice (some ⟨b4, o4, none⟩) nv c2) := (N8.out.alloc _).cell 2
    have z3 : (w8.alloc (.cells #[.bool false, .slice none 0 0, .slice none 0 0, .slice none 0 0] 25)).cell? ⟨w.heap.size, 3, none⟩ = some (.slice A3 nd c3) := (N8.out.alloc _).cell 3
    have x1 : (w8.alloc (.cells #[.bool true, .slice A1 nk c1, .slice (some ⟨b4, o4, none⟩) nv c2, .slice A3 nd c3] 25)).cell? ⟨w6.heap.size, 1, none⟩ = some (.slice E1 dk f1) := (D8.out.alloc _).cell 1
    have eqd : ((dk : Int) == (nk : Int)) = true := by have h7 := HDL.out; simp [gone8] at h7; simp; omega
    go_wp2_with fail
    refine (HLV.out _).mono ?_
    rintro e w9 ⟨rfl, ht9⟩
    have T9 := Lib.hid ((T8.out.alloc _).trans ht9)
    go_wp2_with fail
    go_ret
    exact ⟨rfl, turn_below8 T9.out⟩
  · refine (HDN1.out (by first | rfl | trivial) _ T7.out).mono ?_
    rintro e w8 ⟨vC, rfl, hnoC, ht8⟩
    obtain ⟨G1, h1, G2, h2, G3, h3, rfl, hnc, _⟩ := hnoC
    have T8 := Lib.hid (T7.out.trans ht8)
    have D8 := Lib.hid (D7.out.turn ht8 (fun h => h))
    have HCN : Hid ((drop8 n P).keys.length = dk) := Lib.hid (by rw [HCL.out rfl, HDL.out])
    have hck : (drop8 n P).keys.length = dk := HCN.out
    clear ht8 hnc
    simp only [nv8]
    rw [hck]
    clear hck
    generalize (drop8 n P).leaf = cl at *
    generalize (drop8 n P).vals.length = cv at *
    generalize (drop8 n P).kids.length = cd at *
    have x1 : (w8.alloc (.cells #[.bool cl, .slice G1 dk h1, .slice G2 cv h2, .slice G3 cd h3] 25)).cell? ⟨w6.heap.size, 1, none⟩ = some (.slice E1 dk f1) := (D8.out.alloc _).cell 1
    clear y0 y1 y2 y3
    have eqd : ((dk : Int) == (dk : Int)) = true := by simp
    go_wp2_with fail
    refine (HLV.out _).mono ?_
    rintro e w9 ⟨rfl, ht9⟩
    have T9 := Lib.hid ((T8.out.alloc _).trans ht9)
    go_wp2_with fail
    go_ret
    exact ⟨rfl, turn_below8 T9.out⟩
end Go.Proofs.Ytjjjacmpccimkaa
