/- The walk of ambrylaw08.PageHalves: Split says yes. -/
import Derived.Test.YtpnnbfojdccfhaaPhB
import Derived.Test.YtpnnbfojdccfhaaPgZb
namespace Go.Proofs.Ytpnnbfojdccfhaa
open Go.RowKit
set_option linter.unusedVariables false
set_option maxRecDepth 100000

set_option maxHeartbeats 16000000 in
theorem pageHalves_big (n : Nd) (key val : ByteArray) (w : World) (A1 : Option Addr) (c1 : Nat) (A2 : Option Addr) (c2 : Nat) (A3 : Option Addr) (c3 : Nat) (hfw : few8 n = true) (hlf : n.leaf = true) (hno : No w A1 c1 A2 c2 A3 c3 n) (hc1 : Cp A1 n.keys.length c1) (hc2 : Cp A2 n.vals.length c2) (hf : Few8 n) (hc : check8 n = 0) (hp : pok8 n key val = true) (hM : 1 < (put8 n (find8 n key).1 (gone8 (find8 n key).2) key val).keys.length) (hbig : 1024 < size8 (put8 n (find8 n key).1 (gone8 (find8 n key).2) key val)) :
    Calls Try.prog 7 #[nv8 A1 c1 A2 c2 A3 c3 n, .string key, .string val] w fun e w' => e = .returned (.bool true) ∧ Below w.heap.size w w' := by
  have HFW := Lib.hid (fun W => few_any n A1 c1 A2 c2 A3 c3 W)
  have T0 := Lib.hid ((Turn.refl (fun _ => False) w).alloc (.cells #[.bool n.leaf, .slice A1 n.keys.length c1, .slice A2 n.vals.length c2, .slice A3 n.kids.length c3] 26))
  have B0 := Lib.hid (Blk.new w 26 [.bool n.leaf, .slice A1 n.keys.length c1, .slice A2 n.vals.length c2, .slice A3 n.kids.length c3])
  have HLV := Lib.hid (fun W => lives8 W)
  have hs : Stands8 n := by
    by_cases h : st8 n = true
    · exact st8_of h
    · unfold check8 at hc; rw [if_neg h] at hc; cases hc
  have hsz : size8 n ≤ 1024 := by
    unfold check8 at hc
    rw [st8_yes hs, if_pos rfl] at hc
    by_cases h : size8 n ≤ 1024
    · exact h
    · rw [if_neg h] at hc; cases hc
  have HCK := Lib.hid (fun W (ht : Turn (fun _ => False) w W) => check_any n A1 c1 A2 c2 A3 c3 W (hno.turn ht) hf)
  rw [hc] at HCK
  have hp2 := hp
  unfold pok8 at hp2
  simp only [Bool.and_eq_true, decide_eq_true_eq] at hp2
  obtain ⟨_, _, hkz, hvz⟩ := hp2
  have HPU := Lib.hid (fun W (ht : Turn (fun _ => False) w W) => put_yes n key val A1 c1 A2 c2 A3 c3 W (hno.turn ht) hc1 hc2 hf hp)
  obtain ⟨MN, hMN⟩ : ∃ m, put8 n (find8 n key).1 (gone8 (find8 n key).2) key val = m := ⟨_, rfl⟩
  obtain ⟨SM, hml, FM, hmz, hm1, hm2⟩ := ph_put hfw hs hlf hkz hvz hsz hMN
  rw [hMN] at HPU hM hbig
  have HSP := Lib.hid (fun W B1 d1 B2 d2 B3 d3 (h : No W B1 d1 B2 d2 B3 d3 MN) (k1 : Cp B1 MN.keys.length d1) (k2 : Cp B2 MN.vals.length d2) (k3 : Cp B3 MN.kids.length d3) => split_yes MN B1 d1 B2 d2 B3 d3 W h k1 k2 k3 FM SM (by rw [hml]; exact hM))
  simp only [hml, bet8, if_true, Nat.add_zero] at HSP
  have HZM := Lib.hid (fun W B1 d1 B2 d2 B3 d3 (h : No W B1 d1 B2 d2 B3 d3 MN) => size_any MN B1 d1 B2 d2 B3 d3 W h FM)
  have HPP := Lib.hid (fun (k : Nat) h1 hk hlo hhi PA PB hA hB => ph_parts (k := k) SM hml FM hmz h1 hk hlo hhi (PA := PA) (PB := PB) hA hB)
  have HNM := Lib.hid (fun W B1 d1 B2 d2 B3 d3 C1 e1 C2 e2 C3 e3 (h : No W B1 d1 B2 d2 B3 d3 MN) (g : No W C1 e1 C2 e2 C3 e3 MN) => refSame_any MN B1 d1 B2 d2 B3 d3 C1 e1 C2 e2 C3 e3 W h g (by have := FM.nk; omega) (by have := FM.nv; omega) (by have := FM.nd; omega))
  have hmkids : MN.kids = [] := ((stands_leaf2 hml).1 SM).2.2.2.2
  have FK := Lib.hid FM.nk
  have FV := Lib.hid FM.nv
  rw [hfw] at HFW
  clear hno hf hp hs hsz hc hc1 hc2 hkz hvz SM FM hmz hMN
  obtain ⟨SZ, hSZ⟩ : ∃ z, size8 MN = z := ⟨_, rfl⟩
  have hbz : (1024 : Int) < (SZ : Int) := by rw [hSZ] at hbig; omega
  simp only [nv8] at *
  rw [hlf] at *
  simp only [hSZ] at HZM
  rw [hml] at HZM HSP HNM
  clear hbig
  have HKI : Hid (MN.kids = []) := Lib.hid hmkids
  clear hmkids
  generalize n.keys.length = nk at *
  generalize n.vals.length = nv at *
  generalize n.kids.length = nd at *
  generalize hmk : MN.keys.length = mk at *
  generalize hmv : MN.vals.length = mv at *
  generalize hmd : MN.kids.length = md at *
  go_enter Try.func7, Try.ntmps7
  go_wp2_with fail
  refine (HFW.out _).mono ?_
  rintro e w1 ⟨rfl, ht1⟩
  have T1 := Lib.hid (T0.out.trans ht1)
  have B1 := Lib.hid (B0.out.turn ht1 (fun h => h))
  clear ht1 T0 B0
  have y0 : (w1).cell? ⟨w.heap.size, 0, none⟩ = some (.bool true) := B1.out.cell 0
  have y1 : (w1).cell? ⟨w.heap.size, 1, none⟩ = some (.slice A1 nk c1) := B1.out.cell 1
  have y2 : (w1).cell? ⟨w.heap.size, 2, none⟩ = some (.slice A2 nv c2) := B1.out.cell 2
  have y3 : (w1).cell? ⟨w.heap.size, 3, none⟩ = some (.slice A3 nd c3) := B1.out.cell 3
  go_wp2_with fail
  refine (HCK.out _ T1.out).mono ?_
  rintro e w2 ⟨rfl, ht2⟩
  have T2 := Lib.hid (T1.out.trans ht2)
  have B2 := Lib.hid (B1.out.turn ht2 (fun h => h))
  clear ht2 T1 y0 y1 y2 y3
  have y0 : (w2).cell? ⟨w.heap.size, 0, none⟩ = some (.bool true) := B2.out.cell 0
  have y1 : (w2).cell? ⟨w.heap.size, 1, none⟩ = some (.slice A1 nk c1) := B2.out.cell 1
  have y2 : (w2).cell? ⟨w.heap.size, 2, none⟩ = some (.slice A2 nv c2) := B2.out.cell 2
  have y3 : (w2).cell? ⟨w.heap.size, 3, none⟩ = some (.slice A3 nd c3) := B2.out.cell 3
  go_wp2_with fail
  refine (HPU.out _ T2.out).mono ?_
  rintro e w3 ⟨vM, rfl, hnoM, ht3⟩
  obtain ⟨B1, d1, B2, d2, B3, d3, rfl, hnm, k1, k2, k3⟩ := hnoM
  have T3 := Lib.hid ((T2.out.trans ht3).alloc (.cells #[.bool true, .slice B1 mk d1, .slice B2 mv d2, .slice B3 md d3] 26))
  clear ht3 y0 y1 y2 y3
  simp only [nv8]
  rw [hml, hmk, hmv, hmd]
  rw [hmk] at k1
  rw [hmv] at k2
  rw [hmd] at k3
  have M3 := Lib.hid (Blk.new w3 26 [.bool true, .slice B1 mk d1, .slice B2 mv d2, .slice B3 md d3])
  have N3 := Lib.hid (hnm.turn ((Turn.refl _ w3).alloc (.cells #[.bool true, .slice B1 mk d1, .slice B2 mv d2, .slice B3 md d3] 26)))
  clear hnm
  have HMK := Lib.hid hmk
  have HMV := Lib.hid hmv
  clear hmk hmv
  go_wp2_with fail
  refine (HSP.out _ B1 d1 B2 d2 B3 d3 N3.out k1 k2 k3).mono ?_
  rintro e w4 ⟨k, vA, vB, rfl, ⟨hk1, hk2, hlo, hhi⟩, hna, hnb, ht4⟩
  obtain ⟨PA, hPA⟩ : ∃ p, part8 MN 0 k = p := ⟨_, rfl⟩
  obtain ⟨PB, hPB⟩ : ∃ p, part8 MN k mk = p := ⟨_, rfl⟩
  obtain ⟨⟨ca, cb, la, lb, fa, fb⟩, ⟨pa, pb, qa1, qb1, qa2, qb2⟩, hkk, hjk, hjv⟩ := HPP.out k hk1 hk2 hlo hhi PA PB hPA hPB
  rw [hPA] at hna
  rw [hPB] at hnb
  clear hlo hhi
  obtain ⟨E1, f1, E2, f2, E3, f3, rfl, hea, ka1, ka2, _⟩ := hna
  obtain ⟨G1, g1, G2, g2, G3, g3, rfl, heb, kb1, kb2, _⟩ := hnb
  have HCA := Lib.hid (fun W (h : No W E1 f1 E2 f2 E3 f3 PA) => check_any PA E1 f1 E2 f2 E3 f3 W h fa)
  rw [ca] at HCA
  obtain ⟨b1, o1, rfl, _, hcc1⟩ := heb.keys pb
  have HCB := Lib.hid (fun W (h : No W (some ⟨b1, o1, none⟩) g1 G2 g2 G3 g3 PB) => check_any PB (some ⟨b1, o1, none⟩) g1 G2 g2 G3 g3 W h fb)
  rw [cb] at HCB
  have q0 : w4.cell? ⟨b1, o1, none⟩ = some (.string (key8 MN.keys k)) := hcc1 w4 (Turn.refl _ w4) 0 _ hkk
  have hb1lt : b1 < w4.heap.size := by rename_i h; exact h
  have KKA := Lib.hid (And.intro ka1 ka2)
  have KKB := Lib.hid (And.intro kb1 kb2)
  have HJK := Lib.hid hjk
  have HJV := Lib.hid hjv
  have HEA := Lib.hid hea
  have HEB := Lib.hid heb
  clear hea heb ka1 ka2 kb1 kb2 hjk hjv hkk fa fb ca cb hPA hPB hcc1
  generalize key8 MN.keys k = KK at *
  simp only [nv8] at *
  rw [la] at HCA ⊢
  rw [lb] at HCB ⊢
  have LA := Lib.hid la
  have LB := Lib.hid lb
  clear la lb
  have sk := str_same KK
  generalize hka : PA.keys.length = ka at *
  generalize hkb : PB.keys.length = kb at *
  generalize hva : PA.vals.length = va at *
  generalize hvb : PB.vals.length = vb at *
  generalize PA.kids.length = da at *
  generalize PB.kids.length = db at *
  have HKA := Lib.hid hka
  have HKB := Lib.hid hkb
  have HVA := Lib.hid hva
  have HVB := Lib.hid hvb
  clear hka hkb hva hvb
  have hne1 : ((ka : Int) == 0) = false := by simp; omega
  have hne2 : ((kb : Int) == 0) = false := by simp; omega
  have hi1 : (0 : Int) < (kb : Int) := by omega
  have NB := Lib.hid (((Turn.refl (fun _ => False) w4).alloc (.cells #[(.bool true), (.slice E1 ka f1), (.slice E2 va f2), (.slice E3 da f3)] 26)).alloc (.cells #[(.bool true), (.slice (some ⟨b1, o1, none⟩) kb g1), (.slice G2 vb g2), (.slice G3 db g3)] 26))
  have T5 := Lib.hid ((T3.out.trans ht4).trans NB.out)
  have M5 := Lib.hid ((M3.out.turn ht4 (fun h => h)).turn NB.out (fun h => h))
  have N5 := Lib.hid ((N3.out.turn ht4).turn NB.out)
  have EA5 := Lib.hid (HEA.out.turn NB.out)
  have EB5 := Lib.hid (HEB.out.turn NB.out)
  have BX := Lib.hid (box_two w4 [(.bool true), (.slice E1 ka f1), (.slice E2 va f2), (.slice E3 da f3)] [(.bool true), (.slice (some ⟨b1, o1, none⟩) kb g1), (.slice G2 vb g2), (.slice G3 db g3)])
  clear ht4 T3 M3 N3
  have m0 : (((w4.alloc (.cells #[(.bool true), (.slice E1 ka f1), (.slice E2 va f2), (.slice E3 da f3)] 26)).alloc (.cells #[(.bool true), (.slice (some ⟨b1, o1, none⟩) kb g1), (.slice G2 vb g2), (.slice G3 db g3)] 26))).cell? ⟨w3.heap.size, 0, none⟩ = some (.bool true) := M5.out.cell 0
  have m1 : (((w4.alloc (.cells #[(.bool true), (.slice E1 ka f1), (.slice E2 va f2), (.slice E3 da f3)] 26)).alloc (.cells #[(.bool true), (.slice (some ⟨b1, o1, none⟩) kb g1), (.slice G2 vb g2), (.slice G3 db g3)] 26))).cell? ⟨w3.heap.size, 1, none⟩ = some (.slice B1 mk d1) := M5.out.cell 1
  have m2 : (((w4.alloc (.cells #[(.bool true), (.slice E1 ka f1), (.slice E2 va f2), (.slice E3 da f3)] 26)).alloc (.cells #[(.bool true), (.slice (some ⟨b1, o1, none⟩) kb g1), (.slice G2 vb g2), (.slice G3 db g3)] 26))).cell? ⟨w3.heap.size, 2, none⟩ = some (.slice B2 mv d2) := M5.out.cell 2
  have m3 : (((w4.alloc (.cells #[(.bool true), (.slice E1 ka f1), (.slice E2 va f2), (.slice E3 da f3)] 26)).alloc (.cells #[(.bool true), (.slice (some ⟨b1, o1, none⟩) kb g1), (.slice G2 vb g2), (.slice G3 db g3)] 26))).cell? ⟨w3.heap.size, 3, none⟩ = some (.slice B3 md d3) := M5.out.cell 3
  have q5 : ((w4.alloc (.cells #[(.bool true), (.slice E1 ka f1), (.slice E2 va f2), (.slice E3 da f3)] 26)).alloc (.cells #[(.bool true), (.slice (some ⟨b1, o1, none⟩) kb g1), (.slice G2 vb g2), (.slice G3 db g3)] 26)).cell? ⟨b1, o1, none⟩ = some (.string KK) := (World.cell?_of_block (w := w4) (a := ⟨b1, o1, none⟩) (NB.out.block b1 hb1lt (fun h => h))).trans q0
  clear q0
  have x0 : (((w4.alloc (.cells #[(.bool true), (.slice E1 ka f1), (.slice E2 va f2), (.slice E3 da f3)] 26)).alloc (.cells #[(.bool true), (.slice (some ⟨b1, o1, none⟩) kb g1), (.slice G2 vb g2), (.slice G3 db g3)] 26))).cell? ⟨w4.heap.size, 0, none⟩ = some (.bool true) := BX.out.1.cell 0
  have x1 : (((w4.alloc (.cells #[(.bool true), (.slice E1 ka f1), (.slice E2 va f2), (.slice E3 da f3)] 26)).alloc (.cells #[(.bool true), (.slice (some ⟨b1, o1, none⟩) kb g1), (.slice G2 vb g2), (.slice G3 db g3)] 26))).cell? ⟨w4.heap.size, 1, none⟩ = some (.slice E1 ka f1) := BX.out.1.cell 1
  have x2 : (((w4.alloc (.cells #[(.bool true), (.slice E1 ka f1), (.slice E2 va f2), (.slice E3 da f3)] 26)).alloc (.cells #[(.bool true), (.slice (some ⟨b1, o1, none⟩) kb g1), (.slice G2 vb g2), (.slice G3 db g3)] 26))).cell? ⟨w4.heap.size, 2, none⟩ = some (.slice E2 va f2) := BX.out.1.cell 2
  have x3 : (((w4.alloc (.cells #[(.bool true), (.slice E1 ka f1), (.slice E2 va f2), (.slice E3 da f3)] 26)).alloc (.cells #[(.bool true), (.slice (some ⟨b1, o1, none⟩) kb g1), (.slice G2 vb g2), (.slice G3 db g3)] 26))).cell? ⟨w4.heap.size, 3, none⟩ = some (.slice E3 da f3) := BX.out.1.cell 3
  have z0 : (((w4.alloc (.cells #[(.bool true), (.slice E1 ka f1), (.slice E2 va f2), (.slice E3 da f3)] 26)).alloc (.cells #[(.bool true), (.slice (some ⟨b1, o1, none⟩) kb g1), (.slice G2 vb g2), (.slice G3 db g3)] 26))).cell? ⟨(w4.heap.size + 1), 0, none⟩ = some (.bool true) := BX.out.2.cell 0
  have z1 : (((w4.alloc (.cells #[(.bool true), (.slice E1 ka f1), (.slice E2 va f2), (.slice E3 da f3)] 26)).alloc (.cells #[(.bool true), (.slice (some ⟨b1, o1, none⟩) kb g1), (.slice G2 vb g2), (.slice G3 db g3)] 26))).cell? ⟨(w4.heap.size + 1), 1, none⟩ = some (.slice (some ⟨b1, o1, none⟩) kb g1) := BX.out.2.cell 1
  have z2 : (((w4.alloc (.cells #[(.bool true), (.slice E1 ka f1), (.slice E2 va f2), (.slice E3 da f3)] 26)).alloc (.cells #[(.bool true), (.slice (some ⟨b1, o1, none⟩) kb g1), (.slice G2 vb g2), (.slice G3 db g3)] 26))).cell? ⟨(w4.heap.size + 1), 2, none⟩ = some (.slice G2 vb g2) := BX.out.2.cell 2
  have z3 : (((w4.alloc (.cells #[(.bool true), (.slice E1 ka f1), (.slice E2 va f2), (.slice E3 da f3)] 26)).alloc (.cells #[(.bool true), (.slice (some ⟨b1, o1, none⟩) kb g1), (.slice G2 vb g2), (.slice G3 db g3)] 26))).cell? ⟨(w4.heap.size + 1), 3, none⟩ = some (.slice G3 db g3) := BX.out.2.cell 3
  go_wp2_with fail
  refine (HZM.out _ B1 d1 B2 d2 B3 d3 N5.out).mono ?_
  rintro e w6 ⟨rfl, ht6⟩
  have T6 := Lib.hid (T5.out.trans ht6)
  have M6 := Lib.hid (M5.out.turn ht6 (fun h => h))
  have N6 := Lib.hid (N5.out.turn ht6)
  have EA6 := Lib.hid (EA5.out.turn ht6)
  have EB6 := Lib.hid (EB5.out.turn ht6)
  have BA6 := Lib.hid (BX.out.1.turn ht6 (fun h => h))
  have BB6 := Lib.hid (BX.out.2.turn ht6 (fun h => h))
  clear ht6 T5 M5 N5 EA5 EB5 BX m0 m1 m2 m3 x0 x1 x2 x3 z0 z1 z2 z3 q5 NB
  have x0 : (w6).cell? ⟨w4.heap.size, 0, none⟩ = some (.bool true) := BA6.out.cell 0
  have x1 : (w6).cell? ⟨w4.heap.size, 1, none⟩ = some (.slice E1 ka f1) := BA6.out.cell 1
  have x2 : (w6).cell? ⟨w4.heap.size, 2, none⟩ = some (.slice E2 va f2) := BA6.out.cell 2
  have x3 : (w6).cell? ⟨w4.heap.size, 3, none⟩ = some (.slice E3 da f3) := BA6.out.cell 3
  have z0 : (w6).cell? ⟨(w4.heap.size + 1), 0, none⟩ = some (.bool true) := BB6.out.cell 0
  have z1 : (w6).cell? ⟨(w4.heap.size + 1), 1, none⟩ = some (.slice (some ⟨b1, o1, none⟩) kb g1) := BB6.out.cell 1
  have z2 : (w6).cell? ⟨(w4.heap.size + 1), 2, none⟩ = some (.slice G2 vb g2) := BB6.out.cell 2
  have z3 : (w6).cell? ⟨(w4.heap.size + 1), 3, none⟩ = some (.slice G3 db g3) := BB6.out.cell 3
  go_wp2_with fail
  refine (HCA.out _ EA6.out).mono ?_
  rintro e w7 ⟨rfl, ht7⟩
  have T7 := Lib.hid (T6.out.trans ht7)
  have M7 := Lib.hid (M6.out.turn ht7 (fun h => h))
  have N7 := Lib.hid (N6.out.turn ht7)
  have EA7 := Lib.hid (EA6.out.turn ht7)
  have EB7 := Lib.hid (EB6.out.turn ht7)
  have BA7 := Lib.hid (BA6.out.turn ht7 (fun h => h))
  have BB7 := Lib.hid (BB6.out.turn ht7 (fun h => h))
  clear ht7 T6 M6 N6 EA6 EB6 BA6 BB6 x0 x1 x2 x3 z0 z1 z2 z3
  have x0 : (w7).cell? ⟨w4.heap.size, 0, none⟩ = some (.bool true) := BA7.out.cell 0
  have x1 : (w7).cell? ⟨w4.heap.size, 1, none⟩ = some (.slice E1 ka f1) := BA7.out.cell 1
  have x2 : (w7).cell? ⟨w4.heap.size, 2, none⟩ = some (.slice E2 va f2) := BA7.out.cell 2
  have x3 : (w7).cell? ⟨w4.heap.size, 3, none⟩ = some (.slice E3 da f3) := BA7.out.cell 3
  have z0 : (w7).cell? ⟨(w4.heap.size + 1), 0, none⟩ = some (.bool true) := BB7.out.cell 0
  have z1 : (w7).cell? ⟨(w4.heap.size + 1), 1, none⟩ = some (.slice (some ⟨b1, o1, none⟩) kb g1) := BB7.out.cell 1
  have z2 : (w7).cell? ⟨(w4.heap.size + 1), 2, none⟩ = some (.slice G2 vb g2) := BB7.out.cell 2
  have z3 : (w7).cell? ⟨(w4.heap.size + 1), 3, none⟩ = some (.slice G3 db g3) := BB7.out.cell 3
  go_wp2_with fail
  refine (HCB.out _ EB7.out).mono ?_
  rintro e w8 ⟨rfl, ht8⟩
  have T8 := Lib.hid (T7.out.trans ht8)
  have M8 := Lib.hid (M7.out.turn ht8 (fun h => h))
  have N8 := Lib.hid (N7.out.turn ht8)
  have EA8 := Lib.hid (EA7.out.turn ht8)
  have EB8 := Lib.hid (EB7.out.turn ht8)
  have BA8 := Lib.hid (BA7.out.turn ht8 (fun h => h))
  have BB8 := Lib.hid (BB7.out.turn ht8 (fun h => h))
  clear ht8 T7 M7 N7 EA7 EB7 BA7 BB7 x0 x1 x2 x3 z0 z1 z2 z3
  have HN1 : Hid (([] ++ PA.keys).length = ka) := Lib.hid (by rw [List.nil_append]; exact HKA.out)
  have HN2 : Hid (([] ++ PA.keys ++ PB.keys).length = mk) := Lib.hid (by rw [List.nil_append, HJK.out]; exact HMK.out)
  have HN3 : Hid (([] ++ PA.vals).length = va) := Lib.hid (by rw [List.nil_append]; exact HVA.out)
  have HN4 : Hid (([] ++ PA.vals ++ PB.vals).length = mv) := Lib.hid (by rw [List.nil_append, HJV.out]; exact HMV.out)
  have HG1 : Hid (([] : List ByteArray).length + PA.keys.length ≤ 100000) := Lib.hid (by rw [HKA.out]; show 0 + ka ≤ 100000; omega)
  have HG2 : Hid (([] ++ PA.keys).length + PB.keys.length ≤ 100000) := Lib.hid (by rw [HN1.out, HKB.out]; omega)
  have HG3 : Hid (([] : List ByteArray).length + PA.vals.length ≤ 100000) := Lib.hid (by rw [HVA.out]; show 0 + va ≤ 100000; omega)
  have HG4 : Hid (([] ++ PA.vals).length + PB.vals.length ≤ 100000) := Lib.hid (by rw [HN3.out, HVB.out]; omega)
  have HMD : Hid (md = 0) := Lib.hid (by rw [← hmd, HKI.out]; rfl)
  clear hmd hm1 hm2 hM hk1 hk2 pa pb qa1 qb1 qa2 qb2
  go_wp2_with fail
  go_cut [13] (fun a13 wx => ∃ (Y gA gB cA cB : Nat), a13 = .pointer (some ⟨Y, 0, none⟩) ∧ Blk wx Y 26 [.bool true, .slice (some ⟨gA, 0, none⟩) mk cA, .slice (some ⟨gB, 0, none⟩) mv cB, .slice none 0 0] ∧ Ro wx 9 (.slice (some ⟨gA, 0, none⟩) mk cA) (([] ++ PA.keys ++ PB.keys).map Value.string) gA ∧ Ro wx 9 (.slice (some ⟨gB, 0, none⟩) mv cB) (([] ++ PA.vals ++ PB.vals).map Value.string) gB ∧ Turn (fun _ => False) w8 wx)
  case first =>
    refine wp_region_noPanic ?_
    refine wp_region_held_drew (S := fun X => Turn (fun _ => False) w8 X) (by kernel_rfl) ((Turn.refl (fun _ => False) w8).drew) (fun hHeld => ?_)
    refine wpAnyH_named (fun X0 hX0 => ?_)
    clear hHeld
    have T0 : Hid (Turn (fun _ => False) w8 X0) := Lib.hid (by rw [hX0]; exact (Turn.refl (fun _ => False) w8).drew)
    have hH0 := T0.out
    clear hX0
    refine wpAnyH_take (i := 1) (v := ?_) rfl (by kernel_rfl) (by kernel_rfl) (by kernel_rfl) (fun _ _ _ h => h) (Or.inl ⟨by rfl, ?_⟩) (by assumption) ?_
    rotate_left 1
    · intro w' hSw
      go_simp
      all_goals first | with_reducible rfl | (rw [if_neg (by omega)]; done) | (rw [if_pos (by omega)]; done) | (rw [if_neg (by omega)]; with_reducible rfl) | (rw [if_pos (by omega)]; with_reducible rfl)
    try simp only [List.getElem_toArray, List.getElem_cons_zero, List.getElem_cons_succ, Act.put, List.setIfInBounds_toArray, List.set_cons_zero, List.set_cons_succ]
    refine wpAnyH_take (i := 2) (v := ?_) rfl (by kernel_rfl) (by kernel_rfl) (by kernel_rfl) (fun _ _ _ h => h) (Or.inl ⟨by rfl, ?_⟩) (by assumption) ?_
    rotate_left 1
    · intro w' hSw
      have x1 : w'.cell? ⟨w4.heap.size, 1, none⟩ = some (.slice E1 ka f1) := (BA8.out.turn hSw (fun h => h)).cell 1
      go_simp
      all_goals first | with_reducible rfl | (rw [if_neg (by omega)]; done) | (rw [if_pos (by omega)]; done) | (rw [if_neg (by omega)]; with_reducible rfl) | (rw [if_pos (by omega)]; with_reducible rfl)
    try simp only [List.getElem_toArray, List.getElem_cons_zero, List.getElem_cons_succ, Act.put, List.setIfInBounds_toArray, List.set_cons_zero, List.set_cons_succ]
    refine wpAnyH_take (i := 4) (v := ?_) rfl (by kernel_rfl) (by kernel_rfl) (by kernel_rfl) (fun _ _ _ h => h) (Or.inl ⟨by rfl, ?_⟩) (by assumption) ?_
    rotate_left 1
    · intro w' hSw
      go_simp
      all_goals first | with_reducible rfl | (rw [if_neg (by omega)]; done) | (rw [if_pos (by omega)]; done) | (rw [if_neg (by omega)]; with_reducible rfl) | (rw [if_pos (by omega)]; with_reducible rfl)
    try simp only [List.getElem_toArray, List.getElem_cons_zero, List.getElem_cons_succ, Act.put, List.setIfInBounds_toArray, List.set_cons_zero, List.set_cons_succ]
    refine wpAnyH_take (i := 5) (v := ?_) rfl (by kernel_rfl) (by kernel_rfl) (by kernel_rfl) (fun _ _ _ h => h) (Or.inl ⟨by rfl, ?_⟩) (by assumption) ?_
    rotate_left 1
    · intro w' hSw
      have z1 : w'.cell? ⟨w4.heap.size + 1, 1, none⟩ = some (.slice (some ⟨b1, o1, none⟩) kb g1) := (BB8.out.turn hSw (fun h => h)).cell 1
      go_simp
      all_goals first | with_reducible rfl | (rw [if_neg (by omega)]; done) | (rw [if_pos (by omega)]; done) | (rw [if_neg (by omega)]; with_reducible rfl) | (rw [if_pos (by omega)]; with_reducible rfl)
    try simp only [List.getElem_toArray, List.getElem_cons_zero, List.getElem_cons_succ, Act.put, List.setIfInBounds_toArray, List.set_cons_zero, List.set_cons_succ]
    refine wpAnyH_take (i := 8) (v := ?_) rfl (by kernel_rfl) (by kernel_rfl) (by kernel_rfl) (fun _ _ _ h => h) (Or.inl ⟨by rfl, ?_⟩) (by assumption) ?_
    rotate_left 1
    · intro w' hSw
      go_simp
      all_goals first | with_reducible rfl | (rw [if_neg (by omega)]; done) | (rw [if_pos (by omega)]; done) | (rw [if_neg (by omega)]; with_reducible rfl) | (rw [if_pos (by omega)]; with_reducible rfl)
    try simp only [List.getElem_toArray, List.getElem_cons_zero, List.getElem_cons_succ, Act.put, List.setIfInBounds_toArray, List.set_cons_zero, List.set_cons_succ]
    refine wpAnyH_take (i := 9) (v := ?_) rfl (by kernel_rfl) (by kernel_rfl) (by kernel_rfl) (fun _ _ _ h => h) (Or.inl ⟨by rfl, ?_⟩) (by assumption) ?_
    rotate_left 1
    · intro w' hSw
      have x2 : w'.cell? ⟨w4.heap.size, 2, none⟩ = some (.slice E2 va f2) := (BA8.out.turn hSw (fun h => h)).cell 2
      go_simp
      all_goals first | with_reducible rfl | (rw [if_neg (by omega)]; done) | (rw [if_pos (by omega)]; done) | (rw [if_neg (by omega)]; with_reducible rfl) | (rw [if_pos (by omega)]; with_reducible rfl)
    try simp only [List.getElem_toArray, List.getElem_cons_zero, List.getElem_cons_succ, Act.put, List.setIfInBounds_toArray, List.set_cons_zero, List.set_cons_succ]
    refine wpAnyH_take (i := 11) (v := ?_) rfl (by kernel_rfl) (by kernel_rfl) (by kernel_rfl) (fun _ _ _ h => h) (Or.inl ⟨by rfl, ?_⟩) (by assumption) ?_
    rotate_left 1
    · intro w' hSw
      go_simp
      all_goals first | with_reducible rfl | (rw [if_neg (by omega)]; done) | (rw [if_pos (by omega)]; done) | (rw [if_neg (by omega)]; with_reducible rfl) | (rw [if_pos (by omega)]; with_reducible rfl)
    try simp only [List.getElem_toArray, List.getElem_cons_zero, List.getElem_cons_succ, Act.put, List.setIfInBounds_toArray, List.set_cons_zero, List.set_cons_succ]
    refine wpAnyH_take (i := 12) (v := ?_) rfl (by kernel_rfl) (by kernel_rfl) (by kernel_rfl) (fun _ _ _ h => h) (Or.inl ⟨by rfl, ?_⟩) (by assumption) ?_
    rotate_left 1
    · intro w' hSw
      have z2 : w'.cell? ⟨w4.heap.size + 1, 2, none⟩ = some (.slice G2 vb g2) := (BB8.out.turn hSw (fun h => h)).cell 2
      go_simp
      all_goals first | with_reducible rfl | (rw [if_neg (by omega)]; done) | (rw [if_pos (by omega)]; done) | (rw [if_neg (by omega)]; with_reducible rfl) | (rw [if_pos (by omega)]; with_reducible rfl)
    try simp only [List.getElem_toArray, List.getElem_cons_zero, List.getElem_cons_succ, Act.put, List.setIfInBounds_toArray, List.set_cons_zero, List.set_cons_succ]
    refine wpAnyH_ready (rs := [0, 7, 15]) (by kernel_rfl) (by simp) ?_
    refine AllReadyH.cons rfl (fun K hK => ?_) (AllReadyH.cons rfl (fun K hK => ?_) (AllReadyH.cons rfl (fun K hK => ?_) AllReadyH.nil))
    · go_simp
      refine hK.out _ _ (T0.out.alloc _) (fun hHeld => ?_)
      clear hK K
      try simp only [List.getElem_toArray, List.getElem_cons_zero, List.getElem_cons_succ, Act.put, List.setIfInBounds_toArray, List.set_cons_zero, List.set_cons_succ]
      refine wpAnyH_named (fun X1 e => ?_)
      clear hHeld
      have T1 := Lib.hid (T0.out.al e)
      have hH1 := T1.out
      have hz1 := size_al e
      have hy1 := T0.out.size
      have R1_100 := Lib.hid (Ro.empS e)
      clear T0 hH0 e
      refine wpAnyH_ready (rs := [3, 7, 15]) (by kernel_rfl) (by simp) ?_
      refine AllReadyH.cons rfl (fun K hK => ?_) (AllReadyH.cons rfl (fun K hK => ?_) (AllReadyH.cons rfl (fun K hK => ?_) AllReadyH.nil))
      · refine step_app_strsR rfl _ _ rfl (.slice (some ⟨X0.heap.size, 0, none⟩) 0 0) [] PA.keys X0.heap.size E1 ka f1 ka (HKA.out) (HN1.out) rfl rfl R1_100.out (EA8.out.keys.turn T1.out) KKA.out.1 HG1.out ?_
        intro g_2 c_2 X2 hg hr hc ht
        have hw : w8.heap.size ≤ X0.heap.size := by omega
        have T2 := Lib.hid (T1.out.trans_new (S := fun _ => False) ht (fun k hk e => by omega))
        have hH2 := T2.out
        have hz2 := ht.size
        have hp := R1_100.out.lt
        have hy2 := T1.out.size
        have hv2 : w8.heap.size ≤ g_2 := by omega
        have R2_103 := Lib.hid hr
        have P2_103 := Lib.hid hc
        clear T1 hH1 R1_100 hr hc ht hg hp hw
        refine hK.out _ _ hH2 (fun hHeld => ?_)
        clear hK K hHeld
        try simp only [List.getElem_toArray, List.getElem_cons_zero, List.getElem_cons_succ, Act.put, List.setIfInBounds_toArray, List.set_cons_zero, List.set_cons_succ]
        refine wpAnyH_ready (rs := [6, 7, 15]) (by kernel_rfl) (by simp) ?_
        refine AllReadyH.cons rfl (fun K hK => ?_) (AllReadyH.cons rfl (fun K hK => ?_) (AllReadyH.cons rfl (fun K hK => ?_) AllReadyH.nil))
        · refine step_app_strsR rfl _ _ rfl (.slice (some ⟨g_2, 0, none⟩) ka c_2) ([] ++ PA.keys) PB.keys g_2 (some ⟨b1, o1, none⟩) kb g1 mk (HKB.out) (HN2.out) rfl rfl R2_103.out (EB8.out.keys.turn T2.out) KKB.out.1 HG2.out ?_
          intro g_3 c_3 X3 hg hr hc ht
          have hw : w8.heap.size ≤ g_2 := by omega
          have T3 := Lib.hid (T2.out.trans_new (S := fun _ => False) ht (fun k hk e => by omega))
          have hH3 := T3.out
          have hz3 := ht.size
          have hp := R2_103.out.lt
          have hy3 := T2.out.size
          have hv3 : w8.heap.size ≤ g_3 := by omega
          have R3_106 := Lib.hid hr
          have P3_106 := Lib.hid hc
          clear T2 hH2 R2_103 hr hc ht hg hp hw
          refine hK.out _ _ hH3 (fun hHeld => ?_)
          clear hK K hHeld
          try simp only [List.getElem_toArray, List.getElem_cons_zero, List.getElem_cons_succ, Act.put, List.setIfInBounds_toArray, List.set_cons_zero, List.set_cons_succ]
          refine wpAnyH_ready (rs := [7, 15]) (by kernel_rfl) (by simp) ?_
          refine AllReadyH.cons rfl (fun K hK => ?_) (AllReadyH.cons rfl (fun K hK => ?_) AllReadyH.nil)
          · go_simp
            refine hK.out _ _ (T3.out.alloc _) (fun hHeld => ?_)
            clear hK K
            try simp only [List.getElem_toArray, List.getElem_cons_zero, List.getElem_cons_succ, Act.put, List.setIfInBounds_toArray, List.set_cons_zero, List.set_cons_succ]
            refine wpAnyH_named (fun X4 e => ?_)
            clear hHeld
            have T4 := Lib.hid (T3.out.al e)
            have hH4 := T4.out
            have hz4 := size_al e
            have hy4 := T3.out.size
            have R4_106 := Lib.hid (R3_106.out.al e)
            have hl4_106 := R3_106.out.lt
            have R4_107 := Lib.hid (Ro.empS e)
            clear T3 hH3 R3_106 e
            refine wpAnyH_ready (rs := [10, 15]) (by kernel_rfl) (by simp) ?_
            refine AllReadyH.cons rfl (fun K hK => ?_) (AllReadyH.cons rfl (fun K hK => ?_) AllReadyH.nil)
            · refine step_app_strsR rfl _ _ rfl (.slice (some ⟨X3.heap.size, 0, none⟩) 0 0) [] PA.vals X3.heap.size E2 va f2 va (HVA.out) (HN3.out) rfl rfl R4_107.out (EA8.out.vals.turn T4.out) KKA.out.2 HG3.out ?_
              intro g_5 c_5 X5 hg hr hc ht
              have hw : w8.heap.size ≤ X3.heap.size := by omega
              have T5 := Lib.hid (T4.out.trans_new (S := fun _ => False) ht (fun k hk e => by omega))
              have hH5 := T5.out
              have hz5 := ht.size
              have hp := R4_107.out.lt
              have hy5 := T4.out.size
              have hv5 : w8.heap.size ≤ g_5 := by omega
              have hl5_106 := R4_106.out.lt
              have R5_106 := Lib.hid (R4_106.out.turn ht (by omega))
              have hq5_106 : ¬ g_3 = g_5 := by omega
              have R5_110 := Lib.hid hr
              have P5_110 := Lib.hid hc
              clear T4 hH4 R4_106 R4_107 hr hc ht hg hp hw
              refine hK.out _ _ hH5 (fun hHeld => ?_)
              clear hK K hHeld
              try simp only [List.getElem_toArray, List.getElem_cons_zero, List.getElem_cons_succ, Act.put, List.setIfInBounds_toArray, List.set_cons_zero, List.set_cons_succ]
              refine wpAnyH_ready (rs := [13, 15]) (by kernel_rfl) (by simp) ?_
              refine AllReadyH.cons rfl (fun K hK => ?_) (AllReadyH.cons rfl (fun K hK => ?_) AllReadyH.nil)
              · refine step_app_strsR rfl _ _ rfl (.slice (some ⟨g_5, 0, none⟩) va c_5) ([] ++ PA.vals) PB.vals g_5 G2 vb g2 mv (HVB.out) (HN4.out) rfl rfl R5_110.out (EB8.out.vals.turn T5.out) KKB.out.2 HG4.out ?_
                intro g_6 c_6 X6 hg hr hc ht
                have hw : w8.heap.size ≤ g_5 := by omega
                have T6 := Lib.hid (T5.out.trans_new (S := fun _ => False) ht (fun k hk e => by omega))
                have hH6 := T6.out
                have hz6 := ht.size
                have hp := R5_110.out.lt
                have hy6 := T5.out.size
                have hv6 : w8.heap.size ≤ g_6 := by omega
                have hl6_106 := R5_106.out.lt
                have R6_106 := Lib.hid (R5_106.out.turn ht (by omega))
                have hq6_106 : ¬ g_3 = g_6 := by omega
                have R6_113 := Lib.hid hr
                have P6_113 := Lib.hid hc
                clear T5 hH5 R5_106 R5_110 hr hc ht hg hp hw
                refine hK.out _ _ hH6 (fun hHeld => ?_)
                clear hK K hHeld
                try simp only [List.getElem_toArray, List.getElem_cons_zero, List.getElem_cons_succ, Act.put, List.setIfInBounds_toArray, List.set_cons_zero, List.set_cons_succ]
                refine wpAnyH_take (i := 14) (v := ?_) rfl (by kernel_rfl) (by kernel_rfl) (by kernel_rfl) (fun _ _ _ h => h) (Or.inl ⟨by rfl, ?_⟩) (by assumption) ?_
                rotate_left 1
                · intro w' hSw
                  go_simp
                  all_goals first | with_reducible rfl | (rw [if_neg (by omega)]; done) | (rw [if_pos (by omega)]; done) | (rw [if_neg (by omega)]; with_reducible rfl) | (rw [if_pos (by omega)]; with_reducible rfl)
                try simp only [List.getElem_toArray, List.getElem_cons_zero, List.getElem_cons_succ, Act.put, List.setIfInBounds_toArray, List.set_cons_zero, List.set_cons_succ]
                refine wpAnyH_ready (rs := [15]) (by kernel_rfl) (by simp) ?_
                refine AllReadyH.cons rfl (fun K hK => ?_) AllReadyH.nil
                go_simp
                refine hK.out _ _ (T6.out.alloc _) (fun hHeld => ?_)
                clear hK K
                try simp only [List.getElem_toArray, List.getElem_cons_zero, List.getElem_cons_succ, Act.put, List.setIfInBounds_toArray, List.set_cons_zero, List.set_cons_succ]
                refine wpAnyH_named (fun X7 e => ?_)
                clear hHeld
                have T7 := Lib.hid (T6.out.al e)
                have hH7 := T7.out
                have hz7 := size_al e
                have hy7 := T6.out.size
                have R7_106 := Lib.hid (R6_106.out.al e)
                have R7_113 := Lib.hid (R6_113.out.al e)
                have hl7_106 := R6_106.out.lt
                have hl7_113 := R6_113.out.lt
                have B7_13 := Lib.hid (Blk.nw (cs := [.bool false, .slice none 0 0, .slice none 0 0, .slice none 0 0]) e)
                clear T6 hH6 R6_106 R6_113 e
                refine wpAnyH_ready (rs := [16]) (by kernel_rfl) (by simp) ?_
                refine AllReadyH.cons rfl (fun K hK => ?_) AllReadyH.nil
                have r0 := B7_13.out.cell 0
                have f0 := B7_13.out.free 0
                have r1 := B7_13.out.cell 1
                have f1 := B7_13.out.free 1
                have r2 := B7_13.out.cell 2
                have f2 := B7_13.out.free 2
                have r3 := B7_13.out.cell 3
                have f3 := B7_13.out.free 3
                simp only [List.getElem?_cons_zero, List.getElem?_cons_succ] at r0 r1 r2 r3
                obtain ⟨hb, hs⟩ := put4 B7_13.out (.bool true) (.slice (some ⟨g_3, 0, none⟩) mk c_3) (.slice (some ⟨g_6, 0, none⟩) mv c_6) (.slice none 0 0)
                have hx := T7.out.size
                have hS := T7.out.trans_new (S := fun _ => False) hs (fun k hk e => by omega)
                go_simp
                refine hK.out _ _ hS (fun hHeld => ?_)
                clear hK K
                try simp only [List.getElem_toArray, List.getElem_cons_zero, List.getElem_cons_succ, Act.put, List.setIfInBounds_toArray, List.set_cons_zero, List.set_cons_succ]
                refine wpAnyH_named (fun X8 e => ?_)
                clear hHeld
                have T8 := Lib.hid (e ▸ hS)
                have hH8 := T8.out
                have B8_13 := Lib.hid (e ▸ hb)
                rw [← e] at hs
                have R8_106 := Lib.hid (R7_106.out.turn hs (by omega))
                have R8_113 := Lib.hid (R7_113.out.turn hs (by omega))
                clear T7 hH7 R7_106 R7_113 B7_13 r0 f0 r1 f1 r2 f2 r3 f3 hS hb hs e
                refine wpAnyH_done (by kernel_rfl) ?_ _
                refine NoPanic.normal ?_
                go_wp2_with fail
                go_meet
                exact ⟨X6.heap.size, g_3, g_6, c_3, c_6, rfl, B8_13.out, R8_106.out, R8_113.out, T8.out⟩
              · go_simp
                refine hK.out _ _ (T5.out.alloc _) (fun hHeld => ?_)
                clear hK K
                try simp only [List.getElem_toArray, List.getElem_cons_zero, List.getElem_cons_succ, Act.put, List.setIfInBounds_toArray, List.set_cons_zero, List.set_cons_succ]
                refine wpAnyH_named (fun X6 e => ?_)
                clear hHeld
                have T6 := Lib.hid (T5.out.al e)
                have hH6 := T6.out
                have hz6 := size_al e
                have hy6 := T5.out.size
                have R6_106 := Lib.hid (R5_106.out.al e)
                have R6_110 := Lib.hid (R5_110.out.al e)
                have hl6_106 := R5_106.out.lt
                have hl6_110 := R5_110.out.lt
                have B6_13 := Lib.hid (Blk.nw (cs := [.bool false, .slice none 0 0, .slice none 0 0, .slice none 0 0]) e)
                clear T5 hH5 R5_106 R5_110 e
                refine wpAnyH_ready (rs := [13]) (by kernel_rfl) (by simp) ?_
                refine AllReadyH.cons rfl (fun K hK => ?_) AllReadyH.nil
                refine step_app_strsR rfl _ _ rfl (.slice (some ⟨g_5, 0, none⟩) va c_5) ([] ++ PA.vals) PB.vals g_5 G2 vb g2 mv (HVB.out) (HN4.out) rfl rfl R6_110.out (EB8.out.vals.turn T6.out) KKB.out.2 HG4.out ?_
                intro g_7 c_7 X7 hg hr hc ht
                have hw : w8.heap.size ≤ g_5 := by omega
                have T7 := Lib.hid (T6.out.trans_new (S := fun _ => False) ht (fun k hk e => by omega))
                have hH7 := T7.out
                have hz7 := ht.size
                have hp := R6_110.out.lt
                have hy7 := T6.out.size
                have hv7 : w8.heap.size ≤ g_7 := by omega
                have hl7_106 := R6_106.out.lt
                have hm7_13 := B6_13.out.lt
                have R7_106 := Lib.hid (R6_106.out.turn ht (by omega))
                have B7_13 := Lib.hid (B6_13.out.turn ht (by omega))
                have hq7_106 : ¬ g_3 = g_7 := by omega
                have hr7_13 : ¬ X5.heap.size = g_7 := by omega
                have R7_113 := Lib.hid hr
                have P7_113 := Lib.hid hc
                clear T6 hH6 R6_106 R6_110 B6_13 hr hc ht hg hp hw
                refine hK.out _ _ hH7 (fun hHeld => ?_)
                clear hK K hHeld
                try simp only [List.getElem_toArray, List.getElem_cons_zero, List.getElem_cons_succ, Act.put, List.setIfInBounds_toArray, List.set_cons_zero, List.set_cons_succ]
                refine wpAnyH_take (i := 14) (v := ?_) rfl (by kernel_rfl) (by kernel_rfl) (by kernel_rfl) (fun _ _ _ h => h) (Or.inl ⟨by rfl, ?_⟩) (by assumption) ?_
                rotate_left 1
                · intro w' hSw
                  go_simp
                  all_goals first | with_reducible rfl | (rw [if_neg (by omega)]; done) | (rw [if_pos (by omega)]; done) | (rw [if_neg (by omega)]; with_reducible rfl) | (rw [if_pos (by omega)]; with_reducible rfl)
                try simp only [List.getElem_toArray, List.getElem_cons_zero, List.getElem_cons_succ, Act.put, List.setIfInBounds_toArray, List.set_cons_zero, List.set_cons_succ]
                refine wpAnyH_ready (rs := [16]) (by kernel_rfl) (by simp) ?_
                refine AllReadyH.cons rfl (fun K hK => ?_) AllReadyH.nil
                have r0 := B7_13.out.cell 0
                have f0 := B7_13.out.free 0
                have r1 := B7_13.out.cell 1
                have f1 := B7_13.out.free 1
                have r2 := B7_13.out.cell 2
                have f2 := B7_13.out.free 2
                have r3 := B7_13.out.cell 3
                have f3 := B7_13.out.free 3
                simp only [List.getElem?_cons_zero, List.getElem?_cons_succ] at r0 r1 r2 r3
                obtain ⟨hb, hs⟩ := put4 B7_13.out (.bool true) (.slice (some ⟨g_3, 0, none⟩) mk c_3) (.slice (some ⟨g_7, 0, none⟩) mv c_7) (.slice none 0 0)
                have hx := T7.out.size
                have hS := T7.out.trans_new (S := fun _ => False) hs (fun k hk e => by omega)
                go_simp
                refine hK.out _ _ hS (fun hHeld => ?_)
                clear hK K
                try simp only [List.getElem_toArray, List.getElem_cons_zero, List.getElem_cons_succ, Act.put, List.setIfInBounds_toArray, List.set_cons_zero, List.set_cons_succ]
                refine wpAnyH_named (fun X8 e => ?_)
                clear hHeld
                have T8 := Lib.hid (e ▸ hS)
                have hH8 := T8.out
                have B8_13 := Lib.hid (e ▸ hb)
                rw [← e] at hs
                have R8_106 := Lib.hid (R7_106.out.turn hs (by omega))
                have R8_113 := Lib.hid (R7_113.out.turn hs (by omega))
                clear T7 hH7 R7_106 R7_113 B7_13 r0 f0 r1 f1 r2 f2 r3 f3 hS hb hs e
                refine wpAnyH_done (by kernel_rfl) ?_ _
                refine NoPanic.normal ?_
                go_wp2_with fail
                go_meet
                exact ⟨X5.heap.size, g_3, g_7, c_3, c_7, rfl, B8_13.out, R8_106.out, R8_113.out, T8.out⟩
            · go_simp
              refine hK.out _ _ (T4.out.alloc _) (fun hHeld => ?_)
              clear hK K
              try simp only [List.getElem_toArray, List.getElem_cons_zero, List.getElem_cons_succ, Act.put, List.setIfInBounds_toArray, List.set_cons_zero, List.set_cons_succ]
              refine wpAnyH_named (fun X5 e => ?_)
              clear hHeld
              have T5 := Lib.hid (T4.out.al e)
              have hH5 := T5.out
              have hz5 := size_al e
              have hy5 := T4.out.size
              have R5_106 := Lib.hid (R4_106.out.al e)
              have R5_107 := Lib.hid (R4_107.out.al e)
              have hl5_106 := R4_106.out.lt
              have hl5_107 := R4_107.out.lt
              have B5_13 := Lib.hid (Blk.nw (cs := [.bool false, .slice none 0 0, .slice none 0 0, .slice none 0 0]) e)
              clear T4 hH4 R4_106 R4_107 e
              refine wpAnyH_ready (rs := [10]) (by kernel_rfl) (by simp) ?_
              refine AllReadyH.cons rfl (fun K hK => ?_) AllReadyH.nil
              refine step_app_strsR rfl _ _ rfl (.slice (some ⟨X3.heap.size, 0, none⟩) 0 0) [] PA.vals X3.heap.size E2 va f2 va (HVA.out) (HN3.out) rfl rfl R5_107.out (EA8.out.vals.turn T5.out) KKA.out.2 HG3.out ?_
              intro g_6 c_6 X6 hg hr hc ht
              have hw : w8.heap.size ≤ X3.heap.size := by omega
              have T6 := Lib.hid (T5.out.trans_new (S := fun _ => False) ht (fun k hk e => by omega))
              have hH6 := T6.out
              have hz6 := ht.size
              have hp := R5_107.out.lt
              have hy6 := T5.out.size
              have hv6 : w8.heap.size ≤ g_6 := by omega
              have hl6_106 := R5_106.out.lt
              have hm6_13 := B5_13.out.lt
              have R6_106 := Lib.hid (R5_106.out.turn ht (by omega))
              have B6_13 := Lib.hid (B5_13.out.turn ht (by omega))
              have hq6_106 : ¬ g_3 = g_6 := by omega
              have hr6_13 : ¬ X4.heap.size = g_6 := by omega
              have R6_110 := Lib.hid hr
              have P6_110 := Lib.hid hc
              clear T5 hH5 R5_106 R5_107 B5_13 hr hc ht hg hp hw
              refine hK.out _ _ hH6 (fun hHeld => ?_)
              clear hK K hHeld
              try simp only [List.getElem_toArray, List.getElem_cons_zero, List.getElem_cons_succ, Act.put, List.setIfInBounds_toArray, List.set_cons_zero, List.set_cons_succ]
              refine wpAnyH_ready (rs := [13]) (by kernel_rfl) (by simp) ?_
              refine AllReadyH.cons rfl (fun K hK => ?_) AllReadyH.nil
              refine step_app_strsR rfl _ _ rfl (.slice (some ⟨g_6, 0, none⟩) va c_6) ([] ++ PA.vals) PB.vals g_6 G2 vb g2 mv (HVB.out) (HN4.out) rfl rfl R6_110.out (EB8.out.vals.turn T6.out) KKB.out.2 HG4.out ?_
              intro g_7 c_7 X7 hg hr hc ht
              have hw : w8.heap.size ≤ g_6 := by omega
              have T7 := Lib.hid (T6.out.trans_new (S := fun _ => False) ht (fun k hk e => by omega))
              have hH7 := T7.out
              have hz7 := ht.size
              have hp := R6_110.out.lt
              have hy7 := T6.out.size
              have hv7 : w8.heap.size ≤ g_7 := by omega
              have hl7_106 := R6_106.out.lt
              have hm7_13 := B6_13.out.lt
              have R7_106 := Lib.hid (R6_106.out.turn ht (by omega))
              have B7_13 := Lib.hid (B6_13.out.turn ht (by omega))
              have hq7_106 : ¬ g_3 = g_7 := by omega
              have hr7_13 : ¬ X4.heap.size = g_7 := by omega
              have R7_113 := Lib.hid hr
              have P7_113 := Lib.hid hc
              clear T6 hH6 R6_106 R6_110 B6_13 hr hc ht hg hp hw
              refine hK.out _ _ hH7 (fun hHeld => ?_)
              clear hK K hHeld
              try simp only [List.getElem_toArray, List.getElem_cons_zero, List.getElem_cons_succ, Act.put, List.setIfInBounds_toArray, List.set_cons_zero, List.set_cons_succ]
              refine wpAnyH_take (i := 14) (v := ?_) rfl (by kernel_rfl) (by kernel_rfl) (by kernel_rfl) (fun _ _ _ h => h) (Or.inl ⟨by rfl, ?_⟩) (by assumption) ?_
              rotate_left 1
              · intro w' hSw
                go_simp
                all_goals first | with_reducible rfl | (rw [if_neg (by omega)]; done) | (rw [if_pos (by omega)]; done) | (rw [if_neg (by omega)]; with_reducible rfl) | (rw [if_pos (by omega)]; with_reducible rfl)
              try simp only [List.getElem_toArray, List.getElem_cons_zero, List.getElem_cons_succ, Act.put, List.setIfInBounds_toArray, List.set_cons_zero, List.set_cons_succ]
              refine wpAnyH_ready (rs := [16]) (by kernel_rfl) (by simp) ?_
              refine AllReadyH.cons rfl (fun K hK => ?_) AllReadyH.nil
              have r0 := B7_13.out.cell 0
              have f0 := B7_13.out.free 0
              have r1 := B7_13.out.cell 1
              have f1 := B7_13.out.free 1
              have r2 := B7_13.out.cell 2
              have f2 := B7_13.out.free 2
              have r3 := B7_13.out.cell 3
              have f3 := B7_13.out.free 3
              simp only [List.getElem?_cons_zero, List.getElem?_cons_succ] at r0 r1 r2 r3
              obtain ⟨hb, hs⟩ := put4 B7_13.out (.bool true) (.slice (some ⟨g_3, 0, none⟩) mk c_3) (.slice (some ⟨g_7, 0, none⟩) mv c_7) (.slice none 0 0)
              have hx := T7.out.size
              have hS := T7.out.trans_new (S := fun _ => False) hs (fun k hk e => by omega)
              go_simp
              refine hK.out _ _ hS (fun hHeld => ?_)
              clear hK K
              try simp only [List.getElem_toArray, List.getElem_cons_zero, List.getElem_cons_succ, Act.put, List.setIfInBounds_toArray, List.set_cons_zero, List.set_cons_succ]
              refine wpAnyH_named (fun X8 e => ?_)
              clear hHeld
              have T8 := Lib.hid (e ▸ hS)
              have hH8 := T8.out
              have B8_13 := Lib.hid (e ▸ hb)
              rw [← e] at hs
              have R8_106 := Lib.hid (R7_106.out.turn hs (by omega))
              have R8_113 := Lib.hid (R7_113.out.turn hs (by omega))
              clear T7 hH7 R7_106 R7_113 B7_13 r0 f0 r1 f1 r2 f2 r3 f3 hS hb hs e
              refine wpAnyH_done (by kernel_rfl) ?_ _
              refine NoPanic.normal ?_
              go_wp2_with fail
              go_meet
              exact ⟨X4.heap.size, g_3, g_7, c_3, c_7, rfl, B8_13.out, R8_106.out, R8_113.out, T8.out⟩
          · go_simp
            refine hK.out _ _ (T3.out.alloc _) (fun hHeld => ?_)
            clear hK K
            try simp only [List.getElem_toArray, List.getElem_cons_zero, List.getElem_cons_succ, Act.put, List.setIfInBounds_toArray, List.set_cons_zero, List.set_cons_succ]
            refine wpAnyH_named (fun X4 e => ?_)
            clear hHeld
            have T4 := Lib.hid (T3.out.al e)
            have hH4 := T4.out
            have hz4 := size_al e
            have hy4 := T3.out.size
            have R4_106 := Lib.hid (R3_106.out.al e)
            have hl4_106 := R3_106.out.lt
            have B4_13 := Lib.hid (Blk.nw (cs := [.bool false, .slice none 0 0, .slice none 0 0, .slice none 0 0]) e)
            clear T3 hH3 R3_106 e
            refine wpAnyH_ready (rs := [7]) (by kernel_rfl) (by simp) ?_
            refine AllReadyH.cons rfl (fun K hK => ?_) AllReadyH.nil
            go_simp
            refine hK.out _ _ (T4.out.alloc _) (fun hHeld => ?_)
            clear hK K
            try simp only [List.getElem_toArray, List.getElem_cons_zero, List.getElem_cons_succ, Act.put, List.setIfInBounds_toArray, List.set_cons_zero, List.set_cons_succ]
            refine wpAnyH_named (fun X5 e => ?_)
            clear hHeld
            have T5 := Lib.hid (T4.out.al e)
            have hH5 := T5.out
            have hz5 := size_al e
            have hy5 := T4.out.size
            have R5_106 := Lib.hid (R4_106.out.al e)
            have B5_13 := Lib.hid (B4_13.out.al e)
            have hl5_106 := R4_106.out.lt
            have hm5_13 := B4_13.out.lt
            have R5_107 := Lib.hid (Ro.empS e)
            clear T4 hH4 R4_106 B4_13 e
            refine wpAnyH_ready (rs := [10]) (by kernel_rfl) (by simp) ?_
            refine AllReadyH.cons rfl (fun K hK => ?_) AllReadyH.nil
            refine step_app_strsR rfl _ _ rfl (.slice (some ⟨X4.heap.size, 0, none⟩) 0 0) [] PA.vals X4.heap.size E2 va f2 va (HVA.out) (HN3.out) rfl rfl R5_107.out (EA8.out.vals.turn T5.out) KKA.out.2 HG3.out ?_
            intro g_6 c_6 X6 hg hr hc ht
            have hw : w8.heap.size ≤ X4.heap.size := by omega
            have T6 := Lib.hid (T5.out.trans_new (S := fun _ => False) ht (fun k hk e => by omega))
            have hH6 := T6.out
            have hz6 := ht.size
            have hp := R5_107.out.lt
            have hy6 := T5.out.size
            have hv6 : w8.heap.size ≤ g_6 := by omega
            have hl6_106 := R5_106.out.lt
            have hm6_13 := B5_13.out.lt
            have R6_106 := Lib.hid (R5_106.out.turn ht (by omega))
            have B6_13 := Lib.hid (B5_13.out.turn ht (by omega))
            have hq6_106 : ¬ g_3 = g_6 := by omega
            have hr6_13 : ¬ X3.heap.size = g_6 := by omega
            have R6_110 := Lib.hid hr
            have P6_110 := Lib.hid hc
            clear T5 hH5 R5_106 R5_107 B5_13 hr hc ht hg hp hw
            refine hK.out _ _ hH6 (fun hHeld => ?_)
            clear hK K hHeld
            try simp only [List.getElem_toArray, List.getElem_cons_zero, List.getElem_cons_succ, Act.put, List.setIfInBounds_toArray, List.set_cons_zero, List.set_cons_succ]
            refine wpAnyH_ready (rs := [13]) (by kernel_rfl) (by simp) ?_
            refine AllReadyH.cons rfl (fun K hK => ?_) AllReadyH.nil
            refine step_app_strsR rfl _ _ rfl (.slice (some ⟨g_6, 0, none⟩) va c_6) ([] ++ PA.vals) PB.vals g_6 G2 vb g2 mv (HVB.out) (HN4.out) rfl rfl R6_110.out (EB8.out.vals.turn T6.out) KKB.out.2 HG4.out ?_
            intro g_7 c_7 X7 hg hr hc ht
            have hw : w8.heap.size ≤ g_6 := by omega
            have T7 := Lib.hid (T6.out.trans_new (S := fun _ => False) ht (fun k hk e => by omega))
            have hH7 := T7.out
            have hz7 := ht.size
            have hp := R6_110.out.lt
            have hy7 := T6.out.size
            have hv7 : w8.heap.size ≤ g_7 := by omega
            have hl7_106 := R6_106.out.lt
            have hm7_13 := B6_13.out.lt
            have R7_106 := Lib.hid (R6_106.out.turn ht (by omega))
            have B7_13 := Lib.hid (B6_13.out.turn ht (by omega))
            have hq7_106 : ¬ g_3 = g_7 := by omega
            have hr7_13 : ¬ X3.heap.size = g_7 := by omega
            have R7_113 := Lib.hid hr
            have P7_113 := Lib.hid hc
            clear T6 hH6 R6_106 R6_110 B6_13 hr hc ht hg hp hw
            refine hK.out _ _ hH7 (fun hHeld => ?_)
            clear hK K hHeld
            try simp only [List.getElem_toArray, List.getElem_cons_zero, List.getElem_cons_succ, Act.put, List.setIfInBounds_toArray, List.set_cons_zero, List.set_cons_succ]
            refine wpAnyH_take (i := 14) (v := ?_) rfl (by kernel_rfl) (by kernel_rfl) (by kernel_rfl) (fun _ _ _ h => h) (Or.inl ⟨by rfl, ?_⟩) (by assumption) ?_
            rotate_left 1
            · intro w' hSw
              go_simp
              all_goals first | with_reducible rfl | (rw [if_neg (by omega)]; done) | (rw [if_pos (by omega)]; done) | (rw [if_neg (by omega)]; with_reducible rfl) | (rw [if_pos (by omega)]; with_reducible rfl)
            try simp only [List.getElem_toArray, List.getElem_cons_zero, List.getElem_cons_succ, Act.put, List.setIfInBounds_toArray, List.set_cons_zero, List.set_cons_succ]
            refine wpAnyH_ready (rs := [16]) (by kernel_rfl) (by simp) ?_
            refine AllReadyH.cons rfl (fun K hK => ?_) AllReadyH.nil
            have r0 := B7_13.out.cell 0
            have f0 := B7_13.out.free 0
            have r1 := B7_13.out.cell 1
            have f1 := B7_13.out.free 1
            have r2 := B7_13.out.cell 2
            have f2 := B7_13.out.free 2
            have r3 := B7_13.out.cell 3
            have f3 := B7_13.out.free 3
            simp only [List.getElem?_cons_zero, List.getElem?_cons_succ] at r0 r1 r2 r3
            obtain ⟨hb, hs⟩ := put4 B7_13.out (.bool true) (.slice (some ⟨g_3, 0, none⟩) mk c_3) (.slice (some ⟨g_7, 0, none⟩) mv c_7) (.slice none 0 0)
            have hx := T7.out.size
            have hS := T7.out.trans_new (S := fun _ => False) hs (fun k hk e => by omega)
            go_simp
            refine hK.out _ _ hS (fun hHeld => ?_)
            clear hK K
            try simp only [List.getElem_toArray, List.getElem_cons_zero, List.getElem_cons_succ, Act.put, List.setIfInBounds_toArray, List.set_cons_zero, List.set_cons_succ]
            refine wpAnyH_named (fun X8 e => ?_)
            clear hHeld
            have T8 := Lib.hid (e ▸ hS)
            have hH8 := T8.out
            have B8_13 := Lib.hid (e ▸ hb)
            rw [← e] at hs
            have R8_106 := Lib.hid (R7_106.out.turn hs (by omega))
            have R8_113 := Lib.hid (R7_113.out.turn hs (by omega))
            clear T7 hH7 R7_106 R7_113 B7_13 r0 f0 r1 f1 r2 f2 r3 f3 hS hb hs e
            refine wpAnyH_done (by kernel_rfl) ?_ _
            refine NoPanic.normal ?_
            go_wp2_with fail
            go_meet
            exact ⟨X3.heap.size, g_3, g_7, c_3, c_7, rfl, B8_13.out, R8_106.out, R8_113.out, T8.out⟩
        · go_simp
          refine hK.out _ _ (T2.out.alloc _) (fun hHeld => ?_)
          clear hK K
          try simp only [List.getElem_toArray, List.getElem_cons_zero, List.getElem_cons_succ, Act.put, List.setIfInBounds_toArray, List.set_cons_zero, List.set_cons_succ]
          refine wpAnyH_named (fun X3 e => ?_)
          clear hHeld
          have T3 := Lib.hid (T2.out.al e)
          have hH3 := T3.out
          have hz3 := size_al e
          have hy3 := T2.out.size
          have R3_103 := Lib.hid (R2_103.out.al e)
          have hl3_103 := R2_103.out.lt
          have R3_107 := Lib.hid (Ro.empS e)
          clear T2 hH2 R2_103 e
          refine wpAnyH_ready (rs := [6, 15]) (by kernel_rfl) (by simp) ?_
          refine AllReadyH.cons rfl (fun K hK => ?_) (AllReadyH.cons rfl (fun K hK => ?_) AllReadyH.nil)
          · refine step_app_strsR rfl _ _ rfl (.slice (some ⟨g_2, 0, none⟩) ka c_2) ([] ++ PA.keys) PB.keys g_2 (some ⟨b1, o1, none⟩) kb g1 mk (HKB.out) (HN2.out) rfl rfl R3_103.out (EB8.out.keys.turn T3.out) KKB.out.1 HG2.out ?_
            intro g_4 c_4 X4 hg hr hc ht
            have hw : w8.heap.size ≤ g_2 := by omega
            have T4 := Lib.hid (T3.out.trans_new (S := fun _ => False) ht (fun k hk e => by omega))
            have hH4 := T4.out
            have hz4 := ht.size
            have hp := R3_103.out.lt
            have hy4 := T3.out.size
            have hv4 : w8.heap.size ≤ g_4 := by omega
            have hl4_107 := R3_107.out.lt
            have R4_107 := Lib.hid (R3_107.out.turn ht (by omega))
            have hq4_107 : ¬ X2.heap.size = g_4 := by omega
            have R4_106 := Lib.hid hr
            have P4_106 := Lib.hid hc
            clear T3 hH3 R3_103 R3_107 hr hc ht hg hp hw
            refine hK.out _ _ hH4 (fun hHeld => ?_)
            clear hK K hHeld
            try simp only [List.getElem_toArray, List.getElem_cons_zero, List.getElem_cons_succ, Act.put, List.setIfInBounds_toArray, List.set_cons_zero, List.set_cons_succ]
            refine wpAnyH_ready (rs := [10, 15]) (by kernel_rfl) (by simp) ?_
            refine AllReadyH.cons rfl (fun K hK => ?_) (AllReadyH.cons rfl (fun K hK => ?_) AllReadyH.nil)
            · refine step_app_strsR rfl _ _ rfl (.slice (some ⟨X2.heap.size, 0, none⟩) 0 0) [] PA.vals X2.heap.size E2 va f2 va (HVA.out) (HN3.out) rfl rfl R4_107.out (EA8.out.vals.turn T4.out) KKA.out.2 HG3.out ?_
              intro g_5 c_5 X5 hg hr hc ht
              have hw : w8.heap.size ≤ X2.heap.size := by omega
              have T5 := Lib.hid (T4.out.trans_new (S := fun _ => False) ht (fun k hk e => by omega))
              have hH5 := T5.out
              have hz5 := ht.size
              have hp := R4_107.out.lt
              have hy5 := T4.out.size
              have hv5 : w8.heap.size ≤ g_5 := by omega
              have hl5_106 := R4_106.out.lt
              have R5_106 := Lib.hid (R4_106.out.turn ht (by omega))
              have hq5_106 : ¬ g_4 = g_5 := by omega
              have R5_110 := Lib.hid hr
              have P5_110 := Lib.hid hc
              clear T4 hH4 R4_107 R4_106 hr hc ht hg hp hw
              refine hK.out _ _ hH5 (fun hHeld => ?_)
              clear hK K hHeld
              try simp only [List.getElem_toArray, List.getElem_cons_zero, List.getElem_cons_succ, Act.put, List.setIfInBounds_toArray, List.set_cons_zero, List.set_cons_succ]
              refine wpAnyH_ready (rs := [13, 15]) (by kernel_rfl) (by simp) ?_
              refine AllReadyH.cons rfl (fun K hK => ?_) (AllReadyH.cons rfl (fun K hK => ?_) AllReadyH.nil)
              · refine step_app_strsR rfl _ _ rfl (.slice (some ⟨g_5, 0, none⟩) va c_5) ([] ++ PA.vals) PB.vals g_5 G2 vb g2 mv (HVB.out) (HN4.out) rfl rfl R5_110.out (EB8.out.vals.turn T5.out) KKB.out.2 HG4.out ?_
                intro g_6 c_6 X6 hg hr hc ht
                have hw : w8.heap.size ≤ g_5 := by omega
                have T6 := Lib.hid (T5.out.trans_new (S := fun _ => False) ht (fun k hk e => by omega))
                have hH6 := T6.out
                have hz6 := ht.size
                have hp := R5_110.out.lt
                have hy6 := T5.out.size
                have hv6 : w8.heap.size ≤ g_6 := by omega
                have hl6_106 := R5_106.out.lt
                have R6_106 := Lib.hid (R5_106.out.turn ht (by omega))
                have hq6_106 : ¬ g_4 = g_6 := by omega
                have R6_113 := Lib.hid hr
                have P6_113 := Lib.hid hc
                clear T5 hH5 R5_106 R5_110 hr hc ht hg hp hw
                refine hK.out _ _ hH6 (fun hHeld => ?_)
                clear hK K hHeld
                try simp only [List.getElem_toArray, List.getElem_cons_zero, List.getElem_cons_succ, Act.put, List.setIfInBounds_toArray, List.set_cons_zero, List.set_cons_succ]
                refine wpAnyH_take (i := 14) (v := ?_) rfl (by kernel_rfl) (by kernel_rfl) (by kernel_rfl) (fun _ _ _ h => h) (Or.inl ⟨by rfl, ?_⟩) (by assumption) ?_
                rotate_left 1
                · intro w' hSw
                  go_simp
                  all_goals first | with_reducible rfl | (rw [if_neg (by omega)]; done) | (rw [if_pos (by omega)]; done) | (rw [if_neg (by omega)]; with_reducible rfl) | (rw [if_pos (by omega)]; with_reducible rfl)
                try simp only [List.getElem_toArray, List.getElem_cons_zero, List.getElem_cons_succ, Act.put, List.setIfInBounds_toArray, List.set_cons_zero, List.set_cons_succ]
                refine wpAnyH_ready (rs := [15]) (by kernel_rfl) (by simp) ?_
                refine AllReadyH.cons rfl (fun K hK => ?_) AllReadyH.nil
                go_simp
                refine hK.out _ _ (T6.out.alloc _) (fun hHeld => ?_)
                clear hK K
                try simp only [List.getElem_toArray, List.getElem_cons_zero, List.getElem_cons_succ, Act.put, List.setIfInBounds_toArray, List.set_cons_zero, List.set_cons_succ]
                refine wpAnyH_named (fun X7 e => ?_)
                clear hHeld
                have T7 := Lib.hid (T6.out.al e)
                have hH7 := T7.out
                have hz7 := size_al e
                have hy7 := T6.out.size
                have R7_106 := Lib.hid (R6_106.out.al e)
                have R7_113 := Lib.hid (R6_113.out.al e)
                have hl7_106 := R6_106.out.lt
                have hl7_113 := R6_113.out.lt
                have B7_13 := Lib.hid (Blk.nw (cs := [.bool false, .slice none 0 0, .slice none 0 0, .slice none 0 0]) e)
                clear T6 hH6 R6_106 R6_113 e
                refine wpAnyH_ready (rs := [16]) (by kernel_rfl) (by simp) ?_
                refine AllReadyH.cons rfl (fun K hK => ?_) AllReadyH.nil
                have r0 := B7_13.out.cell 0
                have f0 := B7_13.out.free 0
                have r1 := B7_13.out.cell 1
                have f1 := B7_13.out.free 1
                have r2 := B7_13.out.cell 2
                have f2 := B7_13.out.free 2
                have r3 := B7_13.out.cell 3
                have f3 := B7_13.out.free 3
                simp only [List.getElem?_cons_zero, List.getElem?_cons_succ] at r0 r1 r2 r3
                obtain ⟨hb, hs⟩ := put4 B7_13.out (.bool true) (.slice (some ⟨g_4, 0, none⟩) mk c_4) (.slice (some ⟨g_6, 0, none⟩) mv c_6) (.slice none 0 0)
                have hx := T7.out.size
                have hS := T7.out.trans_new (S := fun _ => False) hs (fun k hk e => by omega)
                go_simp
                refine hK.out _ _ hS (fun hHeld => ?_)
                clear hK K
                try simp only [List.getElem_toArray, List.getElem_cons_zero, List.getElem_cons_succ, Act.put, List.setIfInBounds_toArray, List.set_cons_zero, List.set_cons_succ]
                refine wpAnyH_named (fun X8 e => ?_)
                clear hHeld
                have T8 := Lib.hid (e ▸ hS)
                have hH8 := T8.out
                have B8_13 := Lib.hid (e ▸ hb)
                rw [← e] at hs
                have R8_106 := Lib.hid (R7_106.out.turn hs (by omega))
                have R8_113 := Lib.hid (R7_113.out.turn hs (by omega))
                clear T7 hH7 R7_106 R7_113 B7_13 r0 f0 r1 f1 r2 f2 r3 f3 hS hb hs e
                refine wpAnyH_done (by kernel_rfl) ?_ _
                refine NoPanic.normal ?_
                go_wp2_with fail
                go_meet
                exact ⟨X6.heap.size, g_4, g_6, c_4, c_6, rfl, B8_13.out, R8_106.out, R8_113.out, T8.out⟩
              · go_simp
                refine hK.out _ _ (T5.out.alloc _) (fun hHeld => ?_)
                clear hK K
                try simp only [List.getElem_toArray, List.getElem_cons_zero, List.getElem_cons_succ, Act.put, List.setIfInBounds_toArray, List.set_cons_zero, List.set_cons_succ]
                refine wpAnyH_named (fun X6 e => ?_)
                clear hHeld
                have T6 := Lib.hid (T5.out.al e)
                have hH6 := T6.out
                have hz6 := size_al e
                have hy6 := T5.out.size
                have R6_106 := Lib.hid (R5_106.out.al e)
                have R6_110 := Lib.hid (R5_110.out.al e)
                have hl6_106 := R5_106.out.lt
                have hl6_110 := R5_110.out.lt
                have B6_13 := Lib.hid (Blk.nw (cs := [.bool false, .slice none 0 0, .slice none 0 0, .slice none 0 0]) e)
                clear T5 hH5 R5_106 R5_110 e
                refine wpAnyH_ready (rs := [13]) (by kernel_rfl) (by simp) ?_
                refine AllReadyH.cons rfl (fun K hK => ?_) AllReadyH.nil
                refine step_app_strsR rfl _ _ rfl (.slice (some ⟨g_5, 0, none⟩) va c_5) ([] ++ PA.vals) PB.vals g_5 G2 vb g2 mv (HVB.out) (HN4.out) rfl rfl R6_110.out (EB8.out.vals.turn T6.out) KKB.out.2 HG4.out ?_
                intro g_7 c_7 X7 hg hr hc ht
                have hw : w8.heap.size ≤ g_5 := by omega
                have T7 := Lib.hid (T6.out.trans_new (S := fun _ => False) ht (fun k hk e => by omega))
                have hH7 := T7.out
                have hz7 := ht.size
                have hp := R6_110.out.lt
                have hy7 := T6.out.size
                have hv7 : w8.heap.size ≤ g_7 := by omega
                have hl7_106 := R6_106.out.lt
                have hm7_13 := B6_13.out.lt
                have R7_106 := Lib.hid (R6_106.out.turn ht (by omega))
                have B7_13 := Lib.hid (B6_13.out.turn ht (by omega))
                have hq7_106 : ¬ g_4 = g_7 := by omega
                have hr7_13 : ¬ X5.heap.size = g_7 := by omega
                have R7_113 := Lib.hid hr
                have P7_113 := Lib.hid hc
                clear T6 hH6 R6_106 R6_110 B6_13 hr hc ht hg hp hw
                refine hK.out _ _ hH7 (fun hHeld => ?_)
                clear hK K hHeld
                try simp only [List.getElem_toArray, List.getElem_cons_zero, List.getElem_cons_succ, Act.put, List.setIfInBounds_toArray, List.set_cons_zero, List.set_cons_succ]
                refine wpAnyH_take (i := 14) (v := ?_) rfl (by kernel_rfl) (by kernel_rfl) (by kernel_rfl) (fun _ _ _ h => h) (Or.inl ⟨by rfl, ?_⟩) (by assumption) ?_
                rotate_left 1
                · intro w' hSw
                  go_simp
                  all_goals first | with_reducible rfl | (rw [if_neg (by omega)]; done) | (rw [if_pos (by omega)]; done) | (rw [if_neg (by omega)]; with_reducible rfl) | (rw [if_pos (by omega)]; with_reducible rfl)
                try simp only [List.getElem_toArray, List.getElem_cons_zero, List.getElem_cons_succ, Act.put, List.setIfInBounds_toArray, List.set_cons_zero, List.set_cons_succ]
                refine wpAnyH_ready (rs := [16]) (by kernel_rfl) (by simp) ?_
                refine AllReadyH.cons rfl (fun K hK => ?_) AllReadyH.nil
                have r0 := B7_13.out.cell 0
                have f0 := B7_13.out.free 0
                have r1 := B7_13.out.cell 1
                have f1 := B7_13.out.free 1
                have r2 := B7_13.out.cell 2
                have f2 := B7_13.out.free 2
                have r3 := B7_13.out.cell 3
                have f3 := B7_13.out.free 3
                simp only [List.getElem?_cons_zero, List.getElem?_cons_succ] at r0 r1 r2 r3
                obtain ⟨hb, hs⟩ := put4 B7_13.out (.bool true) (.slice (some ⟨g_4, 0, none⟩) mk c_4) (.slice (some ⟨g_7, 0, none⟩) mv c_7) (.slice none 0 0)
                have hx := T7.out.size
                have hS := T7.out.trans_new (S := fun _ => False) hs (fun k hk e => by omega)
                go_simp
                refine hK.out _ _ hS (fun hHeld => ?_)
                clear hK K
                try simp only [List.getElem_toArray, List.getElem_cons_zero, List.getElem_cons_succ, Act.put, List.setIfInBounds_toArray, List.set_cons_zero, List.set_cons_succ]
                refine wpAnyH_named (fun X8 e => ?_)
                clear hHeld
                have T8 := Lib.hid (e ▸ hS)
                have hH8 := T8.out
                have B8_13 := Lib.hid (e ▸ hb)
                rw [← e] at hs
                have R8_106 := Lib.hid (R7_106.out.turn hs (by omega))
                have R8_113 := Lib.hid (R7_113.out.turn hs (by omega))
                clear T7 hH7 R7_106 R7_113 B7_13 r0 f0 r1 f1 r2 f2 r3 f3 hS hb hs e
                refine wpAnyH_done (by kernel_rfl) ?_ _
                refine NoPanic.normal ?_
                go_wp2_with fail
                go_meet
                exact ⟨X5.heap.size, g_4, g_7, c_4, c_7, rfl, B8_13.out, R8_106.out, R8_113.out, T8.out⟩
            · go_simp
              refine hK.out _ _ (T4.out.alloc _) (fun hHeld => ?_)
              clear hK K
              try simp only [List.getElem_toArray, List.getElem_cons_zero, List.getElem_cons_succ, Act.put, List.setIfInBounds_toArray, List.set_cons_zero, List.set_cons_succ]
              refine wpAnyH_named (fun X5 e => ?_)
              clear hHeld
              have T5 := Lib.hid (T4.out.al e)
              have hH5 := T5.out
              have hz5 := size_al e
              have hy5 := T4.out.size
              have R5_107 := Lib.hid (R4_107.out.al e)
              have R5_106 := Lib.hid (R4_106.out.al e)
              have hl5_107 := R4_107.out.lt
              have hl5_106 := R4_106.out.lt
              have B5_13 := Lib.hid (Blk.nw (cs := [.bool false, .slice none 0 0, .slice none 0 0, .slice none 0 0]) e)
              clear T4 hH4 R4_107 R4_106 e
              refine wpAnyH_ready (rs := [10]) (by kernel_rfl) (by simp) ?_
              refine AllReadyH.cons rfl (fun K hK => ?_) AllReadyH.nil
              refine step_app_strsR rfl _ _ rfl (.slice (some ⟨X2.heap.size, 0, none⟩) 0 0) [] PA.vals X2.heap.size E2 va f2 va (HVA.out) (HN3.out) rfl rfl R5_107.out (EA8.out.vals.turn T5.out) KKA.out.2 HG3.out ?_
              intro g_6 c_6 X6 hg hr hc ht
              have hw : w8.heap.size ≤ X2.heap.size := by omega
              have T6 := Lib.hid (T5.out.trans_new (S := fun _ => False) ht (fun k hk e => by omega))
              have hH6 := T6.out
              have hz6 := ht.size
              have hp := R5_107.out.lt
              have hy6 := T5.out.size
              have hv6 : w8.heap.size ≤ g_6 := by omega
              have hl6_106 := R5_106.out.lt
              have hm6_13 := B5_13.out.lt
              have R6_106 := Lib.hid (R5_106.out.turn ht (by omega))
              have B6_13 := Lib.hid (B5_13.out.turn ht (by omega))
              have hq6_106 : ¬ g_4 = g_6 := by omega
              have hr6_13 : ¬ X4.heap.size = g_6 := by omega
              have R6_110 := Lib.hid hr
              have P6_110 := Lib.hid hc
              clear T5 hH5 R5_107 R5_106 B5_13 hr hc ht hg hp hw
              refine hK.out _ _ hH6 (fun hHeld => ?_)
              clear hK K hHeld
              try simp only [List.getElem_toArray, List.getElem_cons_zero, List.getElem_cons_succ, Act.put, List.setIfInBounds_toArray, List.set_cons_zero, List.set_cons_succ]
              refine wpAnyH_ready (rs := [13]) (by kernel_rfl) (by simp) ?_
              refine AllReadyH.cons rfl (fun K hK => ?_) AllReadyH.nil
              refine step_app_strsR rfl _ _ rfl (.slice (some ⟨g_6, 0, none⟩) va c_6) ([] ++ PA.vals) PB.vals g_6 G2 vb g2 mv (HVB.out) (HN4.out) rfl rfl R6_110.out (EB8.out.vals.turn T6.out) KKB.out.2 HG4.out ?_
              intro g_7 c_7 X7 hg hr hc ht
              have hw : w8.heap.size ≤ g_6 := by omega
              have T7 := Lib.hid (T6.out.trans_new (S := fun _ => False) ht (fun k hk e => by omega))
              have hH7 := T7.out
              have hz7 := ht.size
              have hp := R6_110.out.lt
              have hy7 := T6.out.size
              have hv7 : w8.heap.size ≤ g_7 := by omega
              have hl7_106 := R6_106.out.lt
              have hm7_13 := B6_13.out.lt
              have R7_106 := Lib.hid (R6_106.out.turn ht (by omega))
              have B7_13 := Lib.hid (B6_13.out.turn ht (by omega))
              have hq7_106 : ¬ g_4 = g_7 := by omega
              have hr7_13 : ¬ X4.heap.size = g_7 := by omega
              have R7_113 := Lib.hid hr
              have P7_113 := Lib.hid hc
              clear T6 hH6 R6_106 R6_110 B6_13 hr hc ht hg hp hw
              refine hK.out _ _ hH7 (fun hHeld => ?_)
              clear hK K hHeld
              try simp only [List.getElem_toArray, List.getElem_cons_zero, List.getElem_cons_succ, Act.put, List.setIfInBounds_toArray, List.set_cons_zero, List.set_cons_succ]
              refine wpAnyH_take (i := 14) (v := ?_) rfl (by kernel_rfl) (by kernel_rfl) (by kernel_rfl) (fun _ _ _ h => h) (Or.inl ⟨by rfl, ?_⟩) (by assumption) ?_
              rotate_left 1
              · intro w' hSw
                go_simp
                all_goals first | with_reducible rfl | (rw [if_neg (by omega)]; done) | (rw [if_pos (by omega)]; done) | (rw [if_neg (by omega)]; with_reducible rfl) | (rw [if_pos (by omega)]; with_reducible rfl)
              try simp only [List.getElem_toArray, List.getElem_cons_zero, List.getElem_cons_succ, Act.put, List.setIfInBounds_toArray, List.set_cons_zero, List.set_cons_succ]
              refine wpAnyH_ready (rs := [16]) (by kernel_rfl) (by simp) ?_
              refine AllReadyH.cons rfl (fun K hK => ?_) AllReadyH.nil
              have r0 := B7_13.out.cell 0
              have f0 := B7_13.out.free 0
              have r1 := B7_13.out.cell 1
              have f1 := B7_13.out.free 1
              have r2 := B7_13.out.cell 2
              have f2 := B7_13.out.free 2
              have r3 := B7_13.out.cell 3
              have f3 := B7_13.out.free 3
              simp only [List.getElem?_cons_zero, List.getElem?_cons_succ] at r0 r1 r2 r3
              obtain ⟨hb, hs⟩ := put4 B7_13.out (.bool true) (.slice (some ⟨g_4, 0, none⟩) mk c_4) (.slice (some ⟨g_7, 0, none⟩) mv c_7) (.slice none 0 0)
              have hx := T7.out.size
              have hS := T7.out.trans_new (S := fun _ => False) hs (fun k hk e => by omega)
              go_simp
              refine hK.out _ _ hS (fun hHeld => ?_)
              clear hK K
              try simp only [List.getElem_toArray, List.getElem_cons_zero, List.getElem_cons_succ, Act.put, List.setIfInBounds_toArray, List.set_cons_zero, List.set_cons_succ]
              refine wpAnyH_named (fun X8 e => ?_)
              clear hHeld
              have T8 := Lib.hid (e ▸ hS)
              have hH8 := T8.out
              have B8_13 := Lib.hid (e ▸ hb)
              rw [← e] at hs
              have R8_106 := Lib.hid (R7_106.out.turn hs (by omega))
              have R8_113 := Lib.hid (R7_113.out.turn hs (by omega))
              clear T7 hH7 R7_106 R7_113 B7_13 r0 f0 r1 f1 r2 f2 r3 f3 hS hb hs e
              refine wpAnyH_done (by kernel_rfl) ?_ _
              refine NoPanic.normal ?_
              go_wp2_with fail
              go_meet
              exact ⟨X4.heap.size, g_4, g_7, c_4, c_7, rfl, B8_13.out, R8_106.out, R8_113.out, T8.out⟩
          · go_simp
            refine hK.out _ _ (T3.out.alloc _) (fun hHeld => ?_)
            clear hK K
            try simp only [List.getElem_toArray, List.getElem_cons_zero, List.getElem_cons_succ, Act.put, List.setIfInBounds_toArray, List.set_cons_zero, List.set_cons_succ]
            refine wpAnyH_named (fun X4 e => ?_)
            clear hHeld
            have T4 := Lib.hid (T3.out.al e)
            have hH4 := T4.out
            have hz4 := size_al e
            have hy4 := T3.out.size
            have R4_103 := Lib.hid (R3_103.out.al e)
            have R4_107 := Lib.hid (R3_107.out.al e)
            have hl4_103 := R3_103.out.lt
            have hl4_107 := R3_107.out.lt
            have B4_13 := Lib.hid (Blk.nw (cs := [.bool false, .slice none 0 0, .slice none 0 0, .slice none 0 0]) e)
            clear T3 hH3 R3_103 R3_107 e
            refine wpAnyH_ready (rs := [6]) (by kernel_rfl) (by simp) ?_
            refine AllReadyH.cons rfl (fun K hK => ?_) AllReadyH.nil
            refine step_app_strsR rfl _ _ rfl (.slice (some ⟨g_2, 0, none⟩) ka c_2) ([] ++ PA.keys) PB.keys g_2 (some ⟨b1, o1, none⟩) kb g1 mk (HKB.out) (HN2.out) rfl rfl R4_103.out (EB8.out.keys.turn T4.out) KKB.out.1 HG2.out ?_
            intro g_5 c_5 X5 hg hr hc ht
            have hw : w8.heap.size ≤ g_2 := by omega
            have T5 := Lib.hid (T4.out.trans_new (S := fun _ => False) ht (fun k hk e => by omega))
            have hH5 := T5.out
            have hz5 := ht.size
            have hp := R4_103.out.lt
            have hy5 := T4.out.size
            have hv5 : w8.heap.size ≤ g_5 := by omega
            have hl5_107 := R4_107.out.lt
            have hm5_13 := B4_13.out.lt
            have R5_107 := Lib.hid (R4_107.out.turn ht (by omega))
            have B5_13 := Lib.hid (B4_13.out.turn ht (by omega))
            have hq5_107 : ¬ X2.heap.size = g_5 := by omega
            have hr5_13 : ¬ X3.heap.size = g_5 := by omega
            have R5_106 := Lib.hid hr
            have P5_106 := Lib.hid hc
            clear T4 hH4 R4_103 R4_107 B4_13 hr hc ht hg hp hw
            refine hK.out _ _ hH5 (fun hHeld => ?_)
            clear hK K hHeld
            try simp only [List.getElem_toArray, List.getElem_cons_zero, List.getElem_cons_succ, Act.put, List.setIfInBounds_toArray, List.set_cons_zero, List.set_cons_succ]
            refine wpAnyH_ready (rs := [10]) (by kernel_rfl) (by simp) ?_
            refine AllReadyH.cons rfl (fun K hK => ?_) AllReadyH.nil
            refine step_app_strsR rfl _ _ rfl (.slice (some ⟨X2.heap.size, 0, none⟩) 0 0) [] PA.vals X2.heap.size E2 va f2 va (HVA.out) (HN3.out) rfl rfl R5_107.out (EA8.out.vals.turn T5.out) KKA.out.2 HG3.out ?_
            intro g_6 c_6 X6 hg hr hc ht
            have hw : w8.heap.size ≤ X2.heap.size := by omega
            have T6 := Lib.hid (T5.out.trans_new (S := fun _ => False) ht (fun k hk e => by omega))
            have hH6 := T6.out
            have hz6 := ht.size
            have hp := R5_107.out.lt
            have hy6 := T5.out.size
            have hv6 : w8.heap.size ≤ g_6 := by omega
            have hl6_106 := R5_106.out.lt
            have hm6_13 := B5_13.out.lt
            have R6_106 := Lib.hid (R5_106.out.turn ht (by omega))
            have B6_13 := Lib.hid (B5_13.out.turn ht (by omega))
            have hq6_106 : ¬ g_5 = g_6 := by omega
            have hr6_13 : ¬ X3.heap.size = g_6 := by omega
            have R6_110 := Lib.hid hr
            have P6_110 := Lib.hid hc
            clear T5 hH5 R5_107 R5_106 B5_13 hr hc ht hg hp hw
            refine hK.out _ _ hH6 (fun hHeld => ?_)
            clear hK K hHeld
            try simp only [List.getElem_toArray, List.getElem_cons_zero, List.getElem_cons_succ, Act.put, List.setIfInBounds_toArray, List.set_cons_zero, List.set_cons_succ]
            refine wpAnyH_ready (rs := [13]) (by kernel_rfl) (by simp) ?_
            refine AllReadyH.cons rfl (fun K hK => ?_) AllReadyH.nil
            refine step_app_strsR rfl _ _ rfl (.slice (some ⟨g_6, 0, none⟩) va c_6) ([] ++ PA.vals) PB.vals g_6 G2 vb g2 mv (HVB.out) (HN4.out) rfl rfl R6_110.out (EB8.out.vals.turn T6.out) KKB.out.2 HG4.out ?_
            intro g_7 c_7 X7 hg hr hc ht
            have hw : w8.heap.size ≤ g_6 := by omega
            have T7 := Lib.hid (T6.out.trans_new (S := fun _ => False) ht (fun k hk e => by omega))
            have hH7 := T7.out
            have hz7 := ht.size
            have hp := R6_110.out.lt
            have hy7 := T6.out.size
            have hv7 : w8.heap.size ≤ g_7 := by omega
            have hl7_106 := R6_106.out.lt
            have hm7_13 := B6_13.out.lt
            have R7_106 := Lib.hid (R6_106.out.turn ht (by omega))
            have B7_13 := Lib.hid (B6_13.out.turn ht (by omega))
            have hq7_106 : ¬ g_5 = g_7 := by omega
            have hr7_13 : ¬ X3.heap.size = g_7 := by omega
            have R7_113 := Lib.hid hr
            have P7_113 := Lib.hid hc
            clear T6 hH6 R6_106 R6_110 B6_13 hr hc ht hg hp hw
            refine hK.out _ _ hH7 (fun hHeld => ?_)
            clear hK K hHeld
            try simp only [List.getElem_toArray, List.getElem_cons_zero, List.getElem_cons_succ, Act.put, List.setIfInBounds_toArray, List.set_cons_zero, List.set_cons_succ]
            refine wpAnyH_take (i := 14) (v := ?_) rfl (by kernel_rfl) (by kernel_rfl) (by kernel_rfl) (fun _ _ _ h => h) (Or.inl ⟨by rfl, ?_⟩) (by assumption) ?_
            rotate_left 1
            · intro w' hSw
              go_simp
              all_goals first | with_reducible rfl | (rw [if_neg (by omega)]; done) | (rw [if_pos (by omega)]; done) | (rw [if_neg (by omega)]; with_reducible rfl) | (rw [if_pos (by omega)]; with_reducible rfl)
            try simp only [List.getElem_toArray, List.getElem_cons_zero, List.getElem_cons_succ, Act.put, List.setIfInBounds_toArray, List.set_cons_zero, List.set_cons_succ]
            refine wpAnyH_ready (rs := [16]) (by kernel_rfl) (by simp) ?_
            refine AllReadyH.cons rfl (fun K hK => ?_) AllReadyH.nil
            have r0 := B7_13.out.cell 0
            have f0 := B7_13.out.free 0
            have r1 := B7_13.out.cell 1
            have f1 := B7_13.out.free 1
            have r2 := B7_13.out.cell 2
            have f2 := B7_13.out.free 2
            have r3 := B7_13.out.cell 3
            have f3 := B7_13.out.free 3
            simp only [List.getElem?_cons_zero, List.getElem?_cons_succ] at r0 r1 r2 r3
            obtain ⟨hb, hs⟩ := put4 B7_13.out (.bool true) (.slice (some ⟨g_5, 0, none⟩) mk c_5) (.slice (some ⟨g_7, 0, none⟩) mv c_7) (.slice none 0 0)
            have hx := T7.out.size
            have hS := T7.out.trans_new (S := fun _ => False) hs (fun k hk e => by omega)
            go_simp
            refine hK.out _ _ hS (fun hHeld => ?_)
            clear hK K
            try simp only [List.getElem_toArray, List.getElem_cons_zero, List.getElem_cons_succ, Act.put, List.setIfInBounds_toArray, List.set_cons_zero, List.set_cons_succ]
            refine wpAnyH_named (fun X8 e => ?_)
            clear hHeld
            have T8 := Lib.hid (e ▸ hS)
            have hH8 := T8.out
            have B8_13 := Lib.hid (e ▸ hb)
            rw [← e] at hs
            have R8_106 := Lib.hid (R7_106.out.turn hs (by omega))
            have R8_113 := Lib.hid (R7_113.out.turn hs (by omega))
            clear T7 hH7 R7_106 R7_113 B7_13 r0 f0 r1 f1 r2 f2 r3 f3 hS hb hs e
            refine wpAnyH_done (by kernel_rfl) ?_ _
            refine NoPanic.normal ?_
            go_wp2_with fail
            go_meet
            exact ⟨X3.heap.size, g_5, g_7, c_5, c_7, rfl, B8_13.out, R8_106.out, R8_113.out, T8.out⟩
        · go_simp
          refine hK.out _ _ (T2.out.alloc _) (fun hHeld => ?_)
          clear hK K
          try simp only [List.getElem_toArray, List.getElem_cons_zero, List.getElem_cons_succ, Act.put, List.setIfInBounds_toArray, List.set_cons_zero, List.set_cons_succ]
          refine wpAnyH_named (fun X3 e => ?_)
          clear hHeld
          have T3 := Lib.hid (T2.out.al e)
          have hH3 := T3.out
          have hz3 := size_al e
          have hy3 := T2.out.size
          have R3_103 := Lib.hid (R2_103.out.al e)
          have hl3_103 := R2_103.out.lt
          have B3_13 := Lib.hid (Blk.nw (cs := [.bool false, .slice none 0 0, .slice none 0 0, .slice none 0 0]) e)
          clear T2 hH2 R2_103 e
          refine wpAnyH_ready (rs := [6, 7]) (by kernel_rfl) (by simp) ?_
          refine AllReadyH.cons rfl (fun K hK => ?_) (AllReadyH.cons rfl (fun K hK => ?_) AllReadyH.nil)
          · refine step_app_strsR rfl _ _ rfl (.slice (some ⟨g_2, 0, none⟩) ka c_2) ([] ++ PA.keys) PB.keys g_2 (some ⟨b1, o1, none⟩) kb g1 mk (HKB.out) (HN2.out) rfl rfl R3_103.out (EB8.out.keys.turn T3.out) KKB.out.1 HG2.out ?_
            intro g_4 c_4 X4 hg hr hc ht
            have hw : w8.heap.size ≤ g_2 := by omega
            have T4 := Lib.hid (T3.out.trans_new (S := fun _ => False) ht (fun k hk e => by omega))
            have hH4 := T4.out
            have hz4 := ht.size
            have hp := R3_103.out.lt
            have hy4 := T3.out.size
            have hv4 : w8.heap.size ≤ g_4 := by omega
            have hm4_13 := B3_13.out.lt
            have B4_13 := Lib.hid (B3_13.out.turn ht (by omega))
            have hr4_13 : ¬ X2.heap.size = g_4 := by omega
            have R4_106 := Lib.hid hr
            have P4_106 := Lib.hid hc
            clear T3 hH3 R3_103 B3_13 hr hc ht hg hp hw
            refine hK.out _ _ hH4 (fun hHeld => ?_)
            clear hK K hHeld
            try simp only [List.getElem_toArray, List.getElem_cons_zero, List.getElem_cons_succ, Act.put, List.setIfInBounds_toArray, List.set_cons_zero, List.set_cons_succ]
            refine wpAnyH_ready (rs := [7]) (by kernel_rfl) (by simp) ?_
            refine AllReadyH.cons rfl (fun K hK => ?_) AllReadyH.nil
            go_simp
            refine hK.out _ _ (T4.out.alloc _) (fun hHeld => ?_)
            clear hK K
            try simp only [List.getElem_toArray, List.getElem_cons_zero, List.getElem_cons_succ, Act.put, List.setIfInBounds_toArray, List.set_cons_zero, List.set_cons_succ]
            refine wpAnyH_named (fun X5 e => ?_)
            clear hHeld
            have T5 := Lib.hid (T4.out.al e)
            have hH5 := T5.out
            have hz5 := size_al e
            have hy5 := T4.out.size
            have R5_106 := Lib.hid (R4_106.out.al e)
            have B5_13 := Lib.hid (B4_13.out.al e)
            have hl5_106 := R4_106.out.lt
            have hm5_13 := B4_13.out.lt
            have R5_107 := Lib.hid (Ro.empS e)
            clear T4 hH4 R4_106 B4_13 e
            refine wpAnyH_ready (rs := [10]) (by kernel_rfl) (by simp) ?_
            refine AllReadyH.cons rfl (fun K hK => ?_) AllReadyH.nil
            refine step_app_strsR rfl _ _ rfl (.slice (some ⟨X4.heap.size, 0, none⟩) 0 0) [] PA.vals X4.heap.size E2 va f2 va (HVA.out) (HN3.out) rfl rfl R5_107.out (EA8.out.vals.turn T5.out) KKA.out.2 HG3.out ?_
            intro g_6 c_6 X6 hg hr hc ht
            have hw : w8.heap.size ≤ X4.heap.size := by omega
            have T6 := Lib.hid (T5.out.trans_new (S := fun _ => False) ht (fun k hk e => by omega))
            have hH6 := T6.out
            have hz6 := ht.size
            have hp := R5_107.out.lt
            have hy6 := T5.out.size
            have hv6 : w8.heap.size ≤ g_6 := by omega
            have hl6_106 := R5_106.out.lt
            have hm6_13 := B5_13.out.lt
            have R6_106 := Lib.hid (R5_106.out.turn ht (by omega))
            have B6_13 := Lib.hid (B5_13.out.turn ht (by omega))
            have hq6_106 : ¬ g_4 = g_6 := by omega
            have hr6_13 : ¬ X2.heap.size = g_6 := by omega
            have R6_110 := Lib.hid hr
            have P6_110 := Lib.hid hc
            clear T5 hH5 R5_106 R5_107 B5_13 hr hc ht hg hp hw
            refine hK.out _ _ hH6 (fun hHeld => ?_)
            clear hK K hHeld
            try simp only [List.getElem_toArray, List.getElem_cons_zero, List.getElem_cons_succ, Act.put, List.setIfInBounds_toArray, List.set_cons_zero, List.set_cons_succ]
            refine wpAnyH_ready (rs := [13]) (by kernel_rfl) (by simp) ?_
            refine AllReadyH.cons rfl (fun K hK => ?_) AllReadyH.nil
            refine step_app_strsR rfl _ _ rfl (.slice (some ⟨g_6, 0, none⟩) va c_6) ([] ++ PA.vals) PB.vals g_6 G2 vb g2 mv (HVB.out) (HN4.out) rfl rfl R6_110.out (EB8.out.vals.turn T6.out) KKB.out.2 HG4.out ?_
            intro g_7 c_7 X7 hg hr hc ht
            have hw : w8.heap.size ≤ g_6 := by omega
            have T7 := Lib.hid (T6.out.trans_new (S := fun _ => False) ht (fun k hk e => by omega))
            have hH7 := T7.out
            have hz7 := ht.size
            have hp := R6_110.out.lt
            have hy7 := T6.out.size
            have hv7 : w8.heap.size ≤ g_7 := by omega
            have hl7_106 := R6_106.out.lt
            have hm7_13 := B6_13.out.lt
            have R7_106 := Lib.hid (R6_106.out.turn ht (by omega))
            have B7_13 := Lib.hid (B6_13.out.turn ht (by omega))
            have hq7_106 : ¬ g_4 = g_7 := by omega
            have hr7_13 : ¬ X2.heap.size = g_7 := by omega
            have R7_113 := Lib.hid hr
            have P7_113 := Lib.hid hc
            clear T6 hH6 R6_106 R6_110 B6_13 hr hc ht hg hp hw
            refine hK.out _ _ hH7 (fun hHeld => ?_)
            clear hK K hHeld
            try simp only [List.getElem_toArray, List.getElem_cons_zero, List.getElem_cons_succ, Act.put, List.setIfInBounds_toArray, List.set_cons_zero, List.set_cons_succ]
            refine wpAnyH_take (i := 14) (v := ?_) rfl (by kernel_rfl) (by kernel_rfl) (by kernel_rfl) (fun _ _ _ h => h) (Or.inl ⟨by rfl, ?_⟩) (by assumption) ?_
            rotate_left 1
            · intro w' hSw
              go_simp
              all_goals first | with_reducible rfl | (rw [if_neg (by omega)]; done) | (rw [if_pos (by omega)]; done) | (rw [if_neg (by omega)]; with_reducible rfl) | (rw [if_pos (by omega)]; with_reducible rfl)
            try simp only [List.getElem_toArray, List.getElem_cons_zero, List.getElem_cons_succ, Act.put, List.setIfInBounds_toArray, List.set_cons_zero, List.set_cons_succ]
            refine wpAnyH_ready (rs := [16]) (by kernel_rfl) (by simp) ?_
            refine AllReadyH.cons rfl (fun K hK => ?_) AllReadyH.nil
            have r0 := B7_13.out.cell 0
            have f0 := B7_13.out.free 0
            have r1 := B7_13.out.cell 1
            have f1 := B7_13.out.free 1
            have r2 := B7_13.out.cell 2
            have f2 := B7_13.out.free 2
            have r3 := B7_13.out.cell 3
            have f3 := B7_13.out.free 3
            simp only [List.getElem?_cons_zero, List.getElem?_cons_succ] at r0 r1 r2 r3
            obtain ⟨hb, hs⟩ := put4 B7_13.out (.bool true) (.slice (some ⟨g_4, 0, none⟩) mk c_4) (.slice (some ⟨g_7, 0, none⟩) mv c_7) (.slice none 0 0)
            have hx := T7.out.size
            have hS := T7.out.trans_new (S := fun _ => False) hs (fun k hk e => by omega)
            go_simp
            refine hK.out _ _ hS (fun hHeld => ?_)
            clear hK K
            try simp only [List.getElem_toArray, List.getElem_cons_zero, List.getElem_cons_succ, Act.put, List.setIfInBounds_toArray, List.set_cons_zero, List.set_cons_succ]
            refine wpAnyH_named (fun X8 e => ?_)
            clear hHeld
            have T8 := Lib.hid (e ▸ hS)
            have hH8 := T8.out
            have B8_13 := Lib.hid (e ▸ hb)
            rw [← e] at hs
            have R8_106 := Lib.hid (R7_106.out.turn hs (by omega))
            have R8_113 := Lib.hid (R7_113.out.turn hs (by omega))
            clear T7 hH7 R7_106 R7_113 B7_13 r0 f0 r1 f1 r2 f2 r3 f3 hS hb hs e
            refine wpAnyH_done (by kernel_rfl) ?_ _
            refine NoPanic.normal ?_
            go_wp2_with fail
            go_meet
            exact ⟨X2.heap.size, g_4, g_7, c_4, c_7, rfl, B8_13.out, R8_106.out, R8_113.out, T8.out⟩
          · go_simp
            refine hK.out _ _ (T3.out.alloc _) (fun hHeld => ?_)
            clear hK K
            try simp only [List.getElem_toArray, List.getElem_cons_zero, List.getElem_cons_succ, Act.put, List.setIfInBounds_toArray, List.set_cons_zero, List.set_cons_succ]
            refine wpAnyH_named (fun X4 e => ?_)
            clear hHeld
            have T4 := Lib.hid (T3.out.al e)
            have hH4 := T4.out
            have hz4 := size_al e
            have hy4 := T3.out.size
            have R4_103 := Lib.hid (R3_103.out.al e)
            have B4_13 := Lib.hid (B3_13.out.al e)
            have hl4_103 := R3_103.out.lt
            have hm4_13 := B3_13.out.lt
            have R4_107 := Lib.hid (Ro.empS e)
            clear T3 hH3 R3_103 B3_13 e
            refine wpAnyH_ready (rs := [6]) (by kernel_rfl) (by simp) ?_
            refine AllReadyH.cons rfl (fun K hK => ?_) AllReadyH.nil
            refine step_app_strsR rfl _ _ rfl (.slice (some ⟨g_2, 0, none⟩) ka c_2) ([] ++ PA.keys) PB.keys g_2 (some ⟨b1, o1, none⟩) kb g1 mk (HKB.out) (HN2.out) rfl rfl R4_103.out (EB8.out.keys.turn T4.out) KKB.out.1 HG2.out ?_
            intro g_5 c_5 X5 hg hr hc ht
            have hw : w8.heap.size ≤ g_2 := by omega
            have T5 := Lib.hid (T4.out.trans_new (S := fun _ => False) ht (fun k hk e => by omega))
            have hH5 := T5.out
            have hz5 := ht.size
            have hp := R4_103.out.lt
            have hy5 := T4.out.size
            have hv5 : w8.heap.size ≤ g_5 := by omega
            have hl5_107 := R4_107.out.lt
            have hm5_13 := B4_13.out.lt
            have R5_107 := Lib.hid (R4_107.out.turn ht (by omega))
            have B5_13 := Lib.hid (B4_13.out.turn ht (by omega))
            have hq5_107 : ¬ X3.heap.size = g_5 := by omega
            have hr5_13 : ¬ X2.heap.size = g_5 := by omega
            have R5_106 := Lib.hid hr
            have P5_106 := Lib.hid hc
            clear T4 hH4 R4_103 R4_107 B4_13 hr hc ht hg hp hw
            refine hK.out _ _ hH5 (fun hHeld => ?_)
            clear hK K hHeld
            try simp only [List.getElem_toArray, List.getElem_cons_zero, List.getElem_cons_succ, Act.put, List.setIfInBounds_toArray, List.set_cons_zero, List.set_cons_succ]
            refine wpAnyH_ready (rs := [10]) (by kernel_rfl) (by simp) ?_
            refine AllReadyH.cons rfl (fun K hK => ?_) AllReadyH.nil
            refine step_app_strsR rfl _ _ rfl (.slice (some ⟨X3.heap.size, 0, none⟩) 0 0) [] PA.vals X3.heap.size E2 va f2 va (HVA.out) (HN3.out) rfl rfl R5_107.out (EA8.out.vals.turn T5.out) KKA.out.2 HG3.out ?_
            intro g_6 c_6 X6 hg hr hc ht
            have hw : w8.heap.size ≤ X3.heap.size := by omega
            have T6 := Lib.hid (T5.out.trans_new (S := fun _ => False) ht (fun k hk e => by omega))
            have hH6 := T6.out
            have hz6 := ht.size
            have hp := R5_107.out.lt
            have hy6 := T5.out.size
            have hv6 : w8.heap.size ≤ g_6 := by omega
            have hl6_106 := R5_106.out.lt
            have hm6_13 := B5_13.out.lt
            have R6_106 := Lib.hid (R5_106.out.turn ht (by omega))
            have B6_13 := Lib.hid (B5_13.out.turn ht (by omega))
            have hq6_106 : ¬ g_5 = g_6 := by omega
            have hr6_13 : ¬ X2.heap.size = g_6 := by omega
            have R6_110 := Lib.hid hr
            have P6_110 := Lib.hid hc
            clear T5 hH5 R5_107 R5_106 B5_13 hr hc ht hg hp hw
            refine hK.out _ _ hH6 (fun hHeld => ?_)
            clear hK K hHeld
            try simp only [List.getElem_toArray, List.getElem_cons_zero, List.getElem_cons_succ, Act.put, List.setIfInBounds_toArray, List.set_cons_zero, List.set_cons_succ]
            refine wpAnyH_ready (rs := [13]) (by kernel_rfl) (by simp) ?_
            refine AllReadyH.cons rfl (fun K hK => ?_) AllReadyH.nil
            refine step_app_strsR rfl _ _ rfl (.slice (some ⟨g_6, 0, none⟩) va c_6) ([] ++ PA.vals) PB.vals g_6 G2 vb g2 mv (HVB.out) (HN4.out) rfl rfl R6_110.out (EB8.out.vals.turn T6.out) KKB.out.2 HG4.out ?_
            intro g_7 c_7 X7 hg hr hc ht
            have hw : w8.heap.size ≤ g_6 := by omega
            have T7 := Lib.hid (T6.out.trans_new (S := fun _ => False) ht (fun k hk e => by omega))
            have hH7 := T7.out
            have hz7 := ht.size
            have hp := R6_110.out.lt
            have hy7 := T6.out.size
            have hv7 : w8.heap.size ≤ g_7 := by omega
            have hl7_106 := R6_106.out.lt
            have hm7_13 := B6_13.out.lt
            have R7_106 := Lib.hid (R6_106.out.turn ht (by omega))
            have B7_13 := Lib.hid (B6_13.out.turn ht (by omega))
            have hq7_106 : ¬ g_5 = g_7 := by omega
            have hr7_13 : ¬ X2.heap.size = g_7 := by omega
            have R7_113 := Lib.hid hr
            have P7_113 := Lib.hid hc
            clear T6 hH6 R6_106 R6_110 B6_13 hr hc ht hg hp hw
            refine hK.out _ _ hH7 (fun hHeld => ?_)
            clear hK K hHeld
            try simp only [List.getElem_toArray, List.getElem_cons_zero, List.getElem_cons_succ, Act.put, List.setIfInBounds_toArray, List.set_cons_zero, List.set_cons_succ]
            refine wpAnyH_take (i := 14) (v := ?_) rfl (by kernel_rfl) (by kernel_rfl) (by kernel_rfl) (fun _ _ _ h => h) (Or.inl ⟨by rfl, ?_⟩) (by assumption) ?_
            rotate_left 1
            · intro w' hSw
              go_simp
              all_goals first | with_reducible rfl | (rw [if_neg (by omega)]; done) | (rw [if_pos (by omega)]; done) | (rw [if_neg (by omega)]; with_reducible rfl) | (rw [if_pos (by omega)]; with_reducible rfl)
            try simp only [List.getElem_toArray, List.getElem_cons_zero, List.getElem_cons_succ, Act.put, List.setIfInBounds_toArray, List.set_cons_zero, List.set_cons_succ]
            refine wpAnyH_ready (rs := [16]) (by kernel_rfl) (by simp) ?_
            refine AllReadyH.cons rfl (fun K hK => ?_) AllReadyH.nil
            have r0 := B7_13.out.cell 0
            have f0 := B7_13.out.free 0
            have r1 := B7_13.out.cell 1
            have f1 := B7_13.out.free 1
            have r2 := B7_13.out.cell 2
            have f2 := B7_13.out.free 2
            have r3 := B7_13.out.cell 3
            have f3 := B7_13.out.free 3
            simp only [List.getElem?_cons_zero, List.getElem?_cons_succ] at r0 r1 r2 r3
            obtain ⟨hb, hs⟩ := put4 B7_13.out (.bool true) (.slice (some ⟨g_5, 0, none⟩) mk c_5) (.slice (some ⟨g_7, 0, none⟩) mv c_7) (.slice none 0 0)
            have hx := T7.out.size
            have hS := T7.out.trans_new (S := fun _ => False) hs (fun k hk e => by omega)
            go_simp
            refine hK.out _ _ hS (fun hHeld => ?_)
            clear hK K
            try simp only [List.getElem_toArray, List.getElem_cons_zero, List.getElem_cons_succ, Act.put, List.setIfInBounds_toArray, List.set_cons_zero, List.set_cons_succ]
            refine wpAnyH_named (fun X8 e => ?_)
            clear hHeld
            have T8 := Lib.hid (e ▸ hS)
            have hH8 := T8.out
            have B8_13 := Lib.hid (e ▸ hb)
            rw [← e] at hs
            have R8_106 := Lib.hid (R7_106.out.turn hs (by omega))
            have R8_113 := Lib.hid (R7_113.out.turn hs (by omega))
            clear T7 hH7 R7_106 R7_113 B7_13 r0 f0 r1 f1 r2 f2 r3 f3 hS hb hs e
            refine wpAnyH_done (by kernel_rfl) ?_ _
            refine NoPanic.normal ?_
            go_wp2_with fail
            go_meet
            exact ⟨X2.heap.size, g_5, g_7, c_5, c_7, rfl, B8_13.out, R8_106.out, R8_113.out, T8.out⟩
      · go_simp
        refine hK.out _ _ (T1.out.alloc _) (fun hHeld => ?_)
        clear hK K
        try simp only [List.getElem_toArray, List.getElem_cons_zero, List.getElem_cons_succ, Act.put, List.setIfInBounds_toArray, List.set_cons_zero, List.set_cons_succ]
        refine wpAnyH_named (fun X2 e => ?_)
        clear hHeld
        have T2 := Lib.hid (T1.out.al e)
        have hH2 := T2.out
        have hz2 := size_al e
        have hy2 := T1.out.size
        have R2_100 := Lib.hid (R1_100.out.al e)
        have hl2_100 := R1_100.out.lt
        have R2_107 := Lib.hid (Ro.empS e)
        clear T1 hH1 R1_100 e
        refine wpAnyH_ready (rs := [3, 15]) (by kernel_rfl) (by simp) ?_
        refine AllReadyH.cons rfl (fun K hK => ?_) (AllReadyH.cons rfl (fun K hK => ?_) AllReadyH.nil)
        · refine step_app_strsR rfl _ _ rfl (.slice (some ⟨X0.heap.size, 0, none⟩) 0 0) [] PA.keys X0.heap.size E1 ka f1 ka (HKA.out) (HN1.out) rfl rfl R2_100.out (EA8.out.keys.turn T2.out) KKA.out.1 HG1.out ?_
          intro g_3 c_3 X3 hg hr hc ht
          have hw : w8.heap.size ≤ X0.heap.size := by omega
          have T3 := Lib.hid (T2.out.trans_new (S := fun _ => False) ht (fun k hk e => by omega))
          have hH3 := T3.out
          have hz3 := ht.size
          have hp := R2_100.out.lt
          have hy3 := T2.out.size
          have hv3 : w8.heap.size ≤ g_3 := by omega
          have hl3_107 := R2_107.out.lt
          have R3_107 := Lib.hid (R2_107.out.turn ht (by omega))
          have hq3_107 : ¬ X1.heap.size = g_3 := by omega
          have R3_103 := Lib.hid hr
          have P3_103 := Lib.hid hc
          clear T2 hH2 R2_100 R2_107 hr hc ht hg hp hw
          refine hK.out _ _ hH3 (fun hHeld => ?_)
          clear hK K hHeld
          try simp only [List.getElem_toArray, List.getElem_cons_zero, List.getElem_cons_succ, Act.put, List.setIfInBounds_toArray, List.set_cons_zero, List.set_cons_succ]
          refine wpAnyH_ready (rs := [6, 15]) (by kernel_rfl) (by simp) ?_
          refine AllReadyH.cons rfl (fun K hK => ?_) (AllReadyH.cons rfl (fun K hK => ?_) AllReadyH.nil)
          · refine step_app_strsR rfl _ _ rfl (.slice (some ⟨g_3, 0, none⟩) ka c_3) ([] ++ PA.keys) PB.keys g_3 (some ⟨b1, o1, none⟩) kb g1 mk (HKB.out) (HN2.out) rfl rfl R3_103.out (EB8.out.keys.turn T3.out) KKB.out.1 HG2.out ?_
            intro g_4 c_4 X4 hg hr hc ht
            have hw : w8.heap.size ≤ g_3 := by omega
            have T4 := Lib.hid (T3.out.trans_new (S := fun _ => False) ht (fun k hk e => by omega))
            have hH4 := T4.out
            have hz4 := ht.size
            have hp := R3_103.out.lt
            have hy4 := T3.out.size
            have hv4 : w8.heap.size ≤ g_4 := by omega
            have hl4_107 := R3_107.out.lt
            have R4_107 := Lib.hid (R3_107.out.turn ht (by omega))
            have hq4_107 : ¬ X1.heap.size = g_4 := by omega
            have R4_106 := Lib.hid hr
            have P4_106 := Lib.hid hc
            clear T3 hH3 R3_107 R3_103 hr hc ht hg hp hw
            refine hK.out _ _ hH4 (fun hHeld => ?_)
            clear hK K hHeld
            try simp only [List.getElem_toArray, List.getElem_cons_zero, List.getElem_cons_succ, Act.put, List.setIfInBounds_toArray, List.set_cons_zero, List.set_cons_succ]
            refine wpAnyH_ready (rs := [10, 15]) (by kernel_rfl) (by simp) ?_
            refine AllReadyH.cons rfl (fun K hK => ?_) (AllReadyH.cons rfl (fun K hK => ?_) AllReadyH.nil)
            · refine step_app_strsR rfl _ _ rfl (.slice (some ⟨X1.heap.size, 0, none⟩) 0 0) [] PA.vals X1.heap.size E2 va f2 va (HVA.out) (HN3.out) rfl rfl R4_107.out (EA8.out.vals.turn T4.out) KKA.out.2 HG3.out ?_
              intro g_5 c_5 X5 hg hr hc ht
              have hw : w8.heap.size ≤ X1.heap.size := by omega
              have T5 := Lib.hid (T4.out.trans_new (S := fun _ => False) ht (fun k hk e => by omega))
              have hH5 := T5.out
              have hz5 := ht.size
              have hp := R4_107.out.lt
              have hy5 := T4.out.size
              have hv5 : w8.heap.size ≤ g_5 := by omega
              have hl5_106 := R4_106.out.lt
              have R5_106 := Lib.hid (R4_106.out.turn ht (by omega))
              have hq5_106 : ¬ g_4 = g_5 := by omega
              have R5_110 := Lib.hid hr
              have P5_110 := Lib.hid hc
              clear T4 hH4 R4_107 R4_106 hr hc ht hg hp hw
              refine hK.out _ _ hH5 (fun hHeld => ?_)
              clear hK K hHeld
              try simp only [List.getElem_toArray, List.getElem_cons_zero, List.getElem_cons_succ, Act.put, List.setIfInBounds_toArray, List.set_cons_zero, List.set_cons_succ]
              refine wpAnyH_ready (rs := [13, 15]) (by kernel_rfl) (by simp) ?_
              refine AllReadyH.cons rfl (fun K hK => ?_) (AllReadyH.cons rfl (fun K hK => ?_) AllReadyH.nil)
              · refine step_app_strsR rfl _ _ rfl (.slice (some ⟨g_5, 0, none⟩) va c_5) ([] ++ PA.vals) PB.vals g_5 G2 vb g2 mv (HVB.out) (HN4.out) rfl rfl R5_110.out (EB8.out.vals.turn T5.out) KKB.out.2 HG4.out ?_
                intro g_6 c_6 X6 hg hr hc ht
                have hw : w8.heap.size ≤ g_5 := by omega
                have T6 := Lib.hid (T5.out.trans_new (S := fun _ => False) ht (fun k hk e => by omega))
                have hH6 := T6.out
                have hz6 := ht.size
                have hp := R5_110.out.lt
                have hy6 := T5.out.size
                have hv6 : w8.heap.size ≤ g_6 := by omega
                have hl6_106 := R5_106.out.lt
                have R6_106 := Lib.hid (R5_106.out.turn ht (by omega))
                have hq6_106 : ¬ g_4 = g_6 := by omega
                have R6_113 := Lib.hid hr
                have P6_113 := Lib.hid hc
                clear T5 hH5 R5_106 R5_110 hr hc ht hg hp hw
                refine hK.out _ _ hH6 (fun hHeld => ?_)
                clear hK K hHeld
                try simp only [List.getElem_toArray, List.getElem_cons_zero, List.getElem_cons_succ, Act.put, List.setIfInBounds_toArray, List.set_cons_zero, List.set_cons_succ]
                refine wpAnyH_take (i := 14) (v := ?_) rfl (by kernel_rfl) (by kernel_rfl) (by kernel_rfl) (fun _ _ _ h => h) (Or.inl ⟨by rfl, ?_⟩) (by assumption) ?_
                rotate_left 1
                · intro w' hSw
                  go_simp
                  all_goals first | with_reducible rfl | (rw [if_neg (by omega)]; done) | (rw [if_pos (by omega)]; done) | (rw [if_neg (by omega)]; with_reducible rfl) | (rw [if_pos (by omega)]; with_reducible rfl)
                try simp only [List.getElem_toArray, List.getElem_cons_zero, List.getElem_cons_succ, Act.put, List.setIfInBounds_toArray, List.set_cons_zero, List.set_cons_succ]
                refine wpAnyH_ready (rs := [15]) (by kernel_rfl) (by simp) ?_
                refine AllReadyH.cons rfl (fun K hK => ?_) AllReadyH.nil
                go_simp
                refine hK.out _ _ (T6.out.alloc _) (fun hHeld => ?_)
                clear hK K
                try simp only [List.getElem_toArray, List.getElem_cons_zero, List.getElem_cons_succ, Act.put, List.setIfInBounds_toArray, List.set_cons_zero, List.set_cons_succ]
                refine wpAnyH_named (fun X7 e => ?_)
                clear hHeld
                have T7 := Lib.hid (T6.out.al e)
                have hH7 := T7.out
                have hz7 := size_al e
                have hy7 := T6.out.size
                have R7_106 := Lib.hid (R6_106.out.al e)
                have R7_113 := Lib.hid (R6_113.out.al e)
                have hl7_106 := R6_106.out.lt
                have hl7_113 := R6_113.out.lt
                have B7_13 := Lib.hid (Blk.nw (cs := [.bool false, .slice none 0 0, .slice none 0 0, .slice none 0 0]) e)
                clear T6 hH6 R6_106 R6_113 e
                refine wpAnyH_ready (rs := [16]) (by kernel_rfl) (by simp) ?_
                refine AllReadyH.cons rfl (fun K hK => ?_) AllReadyH.nil
                have r0 := B7_13.out.cell 0
                have f0 := B7_13.out.free 0
                have r1 := B7_13.out.cell 1
                have f1 := B7_13.out.free 1
                have r2 := B7_13.out.cell 2
                have f2 := B7_13.out.free 2
                have r3 := B7_13.out.cell 3
                have f3 := B7_13.out.free 3
                simp only [List.getElem?_cons_zero, List.getElem?_cons_succ] at r0 r1 r2 r3
                obtain ⟨hb, hs⟩ := put4 B7_13.out (.bool true) (.slice (some ⟨g_4, 0, none⟩) mk c_4) (.slice (some ⟨g_6, 0, none⟩) mv c_6) (.slice none 0 0)
                have hx := T7.out.size
                have hS := T7.out.trans_new (S := fun _ => False) hs (fun k hk e => by omega)
                go_simp
                refine hK.out _ _ hS (fun hHeld => ?_)
                clear hK K
                try simp only [List.getElem_toArray, List.getElem_cons_zero, List.getElem_cons_succ, Act.put, List.setIfInBounds_toArray, List.set_cons_zero, List.set_cons_succ]
                refine wpAnyH_named (fun X8 e => ?_)
                clear hHeld
                have T8 := Lib.hid (e ▸ hS)
                have hH8 := T8.out
                have B8_13 := Lib.hid (e ▸ hb)
                rw [← e] at hs
                have R8_106 := Lib.hid (R7_106.out.turn hs (by omega))
                have R8_113 := Lib.hid (R7_113.out.turn hs (by omega))
                clear T7 hH7 R7_106 R7_113 B7_13 r0 f0 r1 f1 r2 f2 r3 f3 hS hb hs e
                refine wpAnyH_done (by kernel_rfl) ?_ _
                refine NoPanic.normal ?_
                go_wp2_with fail
                go_meet
                exact ⟨X6.heap.size, g_4, g_6, c_4, c_6, rfl, B8_13.out, R8_106.out, R8_113.out, T8.out⟩
              · go_simp
                refine hK.out _ _ (T5.out.alloc _) (fun hHeld => ?_)
                clear hK K
                try simp only [List.getElem_toArray, List.getElem_cons_zero, List.getElem_cons_succ, Act.put, List.setIfInBounds_toArray, List.set_cons_zero, List.set_cons_succ]
                refine wpAnyH_named (fun X6 e => ?_)
                clear hHeld
                have T6 := Lib.hid (T5.out.al e)
                have hH6 := T6.out
                have hz6 := size_al e
                have hy6 := T5.out.size
                have R6_106 := Lib.hid (R5_106.out.al e)
                have R6_110 := Lib.hid (R5_110.out.al e)
                have hl6_106 := R5_106.out.lt
                have hl6_110 := R5_110.out.lt
                have B6_13 := Lib.hid (Blk.nw (cs := [.bool false, .slice none 0 0, .slice none 0 0, .slice none 0 0]) e)
                clear T5 hH5 R5_106 R5_110 e
                refine wpAnyH_ready (rs := [13]) (by kernel_rfl) (by simp) ?_
                refine AllReadyH.cons rfl (fun K hK => ?_) AllReadyH.nil
                refine step_app_strsR rfl _ _ rfl (.slice (some ⟨g_5, 0, none⟩) va c_5) ([] ++ PA.vals) PB.vals g_5 G2 vb g2 mv (HVB.out) (HN4.out) rfl rfl R6_110.out (EB8.out.vals.turn T6.out) KKB.out.2 HG4.out ?_
                intro g_7 c_7 X7 hg hr hc ht
                have hw : w8.heap.size ≤ g_5 := by omega
                have T7 := Lib.hid (T6.out.trans_new (S := fun _ => False) ht (fun k hk e => by omega))
                have hH7 := T7.out
                have hz7 := ht.size
                have hp := R6_110.out.lt
                have hy7 := T6.out.size
                have hv7 : w8.heap.size ≤ g_7 := by omega
                have hl7_106 := R6_106.out.lt
                have hm7_13 := B6_13.out.lt
                have R7_106 := Lib.hid (R6_106.out.turn ht (by omega))
                have B7_13 := Lib.hid (B6_13.out.turn ht (by omega))
                have hq7_106 : ¬ g_4 = g_7 := by omega
                have hr7_13 : ¬ X5.heap.size = g_7 := by omega
                have R7_113 := Lib.hid hr
                have P7_113 := Lib.hid hc
                clear T6 hH6 R6_106 R6_110 B6_13 hr hc ht hg hp hw
                refine hK.out _ _ hH7 (fun hHeld => ?_)
                clear hK K hHeld
                try simp only [List.getElem_toArray, List.getElem_cons_zero, List.getElem_cons_succ, Act.put, List.setIfInBounds_toArray, List.set_cons_zero, List.set_cons_succ]
                refine wpAnyH_take (i := 14) (v := ?_) rfl (by kernel_rfl) (by kernel_rfl) (by kernel_rfl) (fun _ _ _ h => h) (Or.inl ⟨by rfl, ?_⟩) (by assumption) ?_
                rotate_left 1
                · intro w' hSw
                  go_simp
                  all_goals first | with_reducible rfl | (rw [if_neg (by omega)]; done) | (rw [if_pos (by omega)]; done) | (rw [if_neg (by omega)]; with_reducible rfl) | (rw [if_pos (by omega)]; with_reducible rfl)
                try simp only [List.getElem_toArray, List.getElem_cons_zero, List.getElem_cons_succ, Act.put, List.setIfInBounds_toArray, List.set_cons_zero, List.set_cons_succ]
                refine wpAnyH_ready (rs := [16]) (by kernel_rfl) (by simp) ?_
                refine AllReadyH.cons rfl (fun K hK => ?_) AllReadyH.nil
                have r0 := B7_13.out.cell 0
                have f0 := B7_13.out.free 0
                have r1 := B7_13.out.cell 1
                have f1 := B7_13.out.free 1
                have r2 := B7_13.out.cell 2
                have f2 := B7_13.out.free 2
                have r3 := B7_13.out.cell 3
                have f3 := B7_13.out.free 3
                simp only [List.getElem?_cons_zero, List.getElem?_cons_succ] at r0 r1 r2 r3
                obtain ⟨hb, hs⟩ := put4 B7_13.out (.bool true) (.slice (some ⟨g_4, 0, none⟩) mk c_4) (.slice (some ⟨g_7, 0, none⟩) mv c_7) (.slice none 0 0)
                have hx := T7.out.size
                have hS := T7.out.trans_new (S := fun _ => False) hs (fun k hk e => by omega)
                go_simp
                refine hK.out _ _ hS (fun hHeld => ?_)
                clear hK K
                try simp only [List.getElem_toArray, List.getElem_cons_zero, List.getElem_cons_succ, Act.put, List.setIfInBounds_toArray, List.set_cons_zero, List.set_cons_succ]
                refine wpAnyH_named (fun X8 e => ?_)
                clear hHeld
                have T8 := Lib.hid (e ▸ hS)
                have hH8 := T8.out
                have B8_13 := Lib.hid (e ▸ hb)
                rw [← e] at hs
                have R8_106 := Lib.hid (R7_106.out.turn hs (by omega))
                have R8_113 := Lib.hid (R7_113.out.turn hs (by omega))
                clear T7 hH7 R7_106 R7_113 B7_13 r0 f0 r1 f1 r2 f2 r3 f3 hS hb hs e
                refine wpAnyH_done (by kernel_rfl) ?_ _
                refine NoPanic.normal ?_
                go_wp2_with fail
                go_meet
                exact ⟨X5.heap.size, g_4, g_7, c_4, c_7, rfl, B8_13.out, R8_106.out, R8_113.out, T8.out⟩
            · go_simp
              refine hK.out _ _ (T4.out.alloc _) (fun hHeld => ?_)
              clear hK K
              try simp only [List.getElem_toArray, List.getElem_cons_zero, List.getElem_cons_succ, Act.put, List.setIfInBounds_toArray, List.set_cons_zero, List.set_cons_succ]
              refine wpAnyH_named (fun X5 e => ?_)
              clear hHeld
              have T5 := Lib.hid (T4.out.al e)
              have hH5 := T5.out
              have hz5 := size_al e
              have hy5 := T4.out.size
              have R5_107 := Lib.hid (R4_107.out.al e)
              have R5_106 := Lib.hid (R4_106.out.al e)
              have hl5_107 := R4_107.out.lt
              have hl5_106 := R4_106.out.lt
              have B5_13 := Lib.hid (Blk.nw (cs := [.bool false, .slice none 0 0, .slice none 0 0, .slice none 0 0]) e)
              clear T4 hH4 R4_107 R4_106 e
              refine wpAnyH_ready (rs := [10]) (by kernel_rfl) (by simp) ?_
              refine AllReadyH.cons rfl (fun K hK => ?_) AllReadyH.nil
              refine step_app_strsR rfl _ _ rfl (.slice (some ⟨X1.heap.size, 0, none⟩) 0 0) [] PA.vals X1.heap.size E2 va f2 va (HVA.out) (HN3.out) rfl rfl R5_107.out (EA8.out.vals.turn T5.out) KKA.out.2 HG3.out ?_
              intro g_6 c_6 X6 hg hr hc ht
              have hw : w8.heap.size ≤ X1.heap.size := by omega
              have T6 := Lib.hid (T5.out.trans_new (S := fun _ => False) ht (fun k hk e => by omega))
              have hH6 := T6.out
              have hz6 := ht.size
              have hp := R5_107.out.lt
              have hy6 := T5.out.size
              have hv6 : w8.heap.size ≤ g_6 := by omega
              have hl6_106 := R5_106.out.lt
              have hm6_13 := B5_13.out.lt
              have R6_106 := Lib.hid (R5_106.out.turn ht (by omega))
              have B6_13 := Lib.hid (B5_13.out.turn ht (by omega))
              have hq6_106 : ¬ g_4 = g_6 := by omega
              have hr6_13 : ¬ X4.heap.size = g_6 := by omega
              have R6_110 := Lib.hid hr
              have P6_110 := Lib.hid hc
              clear T5 hH5 R5_107 R5_106 B5_13 hr hc ht hg hp hw
              refine hK.out _ _ hH6 (fun hHeld => ?_)
              clear hK K hHeld
              try simp only [List.getElem_toArray, List.getElem_cons_zero, List.getElem_cons_succ, Act.put, List.setIfInBounds_toArray, List.set_cons_zero, List.set_cons_succ]
              refine wpAnyH_ready (rs := [13]) (by kernel_rfl) (by simp) ?_
              refine AllReadyH.cons rfl (fun K hK => ?_) AllReadyH.nil
              refine step_app_strsR rfl _ _ rfl (.slice (some ⟨g_6, 0, none⟩) va c_6) ([] ++ PA.vals) PB.vals g_6 G2 vb g2 mv (HVB.out) (HN4.out) rfl rfl R6_110.out (EB8.out.vals.turn T6.out) KKB.out.2 HG4.out ?_
              intro g_7 c_7 X7 hg hr hc ht
              have hw : w8.heap.size ≤ g_6 := by omega
              have T7 := Lib.hid (T6.out.trans_new (S := fun _ => False) ht (fun k hk e => by omega))
              have hH7 := T7.out
              have hz7 := ht.size
              have hp := R6_110.out.lt
              have hy7 := T6.out.size
              have hv7 : w8.heap.size ≤ g_7 := by omega
              have hl7_106 := R6_106.out.lt
              have hm7_13 := B6_13.out.lt
              have R7_106 := Lib.hid (R6_106.out.turn ht (by omega))
              have B7_13 := Lib.hid (B6_13.out.turn ht (by omega))
              have hq7_106 : ¬ g_4 = g_7 := by omega
              have hr7_13 : ¬ X4.heap.size = g_7 := by omega
              have R7_113 := Lib.hid hr
              have P7_113 := Lib.hid hc
              clear T6 hH6 R6_106 R6_110 B6_13 hr hc ht hg hp hw
              refine hK.out _ _ hH7 (fun hHeld => ?_)
              clear hK K hHeld
              try simp only [List.getElem_toArray, List.getElem_cons_zero, List.getElem_cons_succ, Act.put, List.setIfInBounds_toArray, List.set_cons_zero, List.set_cons_succ]
              refine wpAnyH_take (i := 14) (v := ?_) rfl (by kernel_rfl) (by kernel_rfl) (by kernel_rfl) (fun _ _ _ h => h) (Or.inl ⟨by rfl, ?_⟩) (by assumption) ?_
              rotate_left 1
              · intro w' hSw
                go_simp
                all_goals first | with_reducible rfl | (rw [if_neg (by omega)]; done) | (rw [if_pos (by omega)]; done) | (rw [if_neg (by omega)]; with_reducible rfl) | (rw [if_pos (by omega)]; with_reducible rfl)
              try simp only [List.getElem_toArray, List.getElem_cons_zero, List.getElem_cons_succ, Act.put, List.setIfInBounds_toArray, List.set_cons_zero, List.set_cons_succ]
              refine wpAnyH_ready (rs := [16]) (by kernel_rfl) (by simp) ?_
              refine AllReadyH.cons rfl (fun K hK => ?_) AllReadyH.nil
              have r0 := B7_13.out.cell 0
              have f0 := B7_13.out.free 0
              have r1 := B7_13.out.cell 1
              have f1 := B7_13.out.free 1
              have r2 := B7_13.out.cell 2
              have f2 := B7_13.out.free 2
              have r3 := B7_13.out.cell 3
              have f3 := B7_13.out.free 3
              simp only [List.getElem?_cons_zero, List.getElem?_cons_succ] at r0 r1 r2 r3
              obtain ⟨hb, hs⟩ := put4 B7_13.out (.bool true) (.slice (some ⟨g_4, 0, none⟩) mk c_4) (.slice (some ⟨g_7, 0, none⟩) mv c_7) (.slice none 0 0)
              have hx := T7.out.size
              have hS := T7.out.trans_new (S := fun _ => False) hs (fun k hk e => by omega)
              go_simp
              refine hK.out _ _ hS (fun hHeld => ?_)
              clear hK K
              try simp only [List.getElem_toArray, List.getElem_cons_zero, List.getElem_cons_succ, Act.put, List.setIfInBounds_toArray, List.set_cons_zero, List.set_cons_succ]
              refine wpAnyH_named (fun X8 e => ?_)
              clear hHeld
              have T8 := Lib.hid (e ▸ hS)
              have hH8 := T8.out
              have B8_13 := Lib.hid (e ▸ hb)
              rw [← e] at hs
              have R8_106 := Lib.hid (R7_106.out.turn hs (by omega))
              have R8_113 := Lib.hid (R7_113.out.turn hs (by omega))
              clear T7 hH7 R7_106 R7_113 B7_13 r0 f0 r1 f1 r2 f2 r3 f3 hS hb hs e
              refine wpAnyH_done (by kernel_rfl) ?_ _
              refine NoPanic.normal ?_
              go_wp2_with fail
              go_meet
              exact ⟨X4.heap.size, g_4, g_7, c_4, c_7, rfl, B8_13.out, R8_106.out, R8_113.out, T8.out⟩
          · go_simp
            refine hK.out _ _ (T3.out.alloc _) (fun hHeld => ?_)
            clear hK K
            try simp only [List.getElem_toArray, List.getElem_cons_zero, List.getElem_cons_succ, Act.put, List.setIfInBounds_toArray, List.set_cons_zero, List.set_cons_succ]
            refine wpAnyH_named (fun X4 e => ?_)
            clear hHeld
            have T4 := Lib.hid (T3.out.al e)
            have hH4 := T4.out
            have hz4 := size_al e
            have hy4 := T3.out.size
            have R4_107 := Lib.hid (R3_107.out.al e)
            have R4_103 := Lib.hid (R3_103.out.al e)
            have hl4_107 := R3_107.out.lt
            have hl4_103 := R3_103.out.lt
            have B4_13 := Lib.hid (Blk.nw (cs := [.bool false, .slice none 0 0, .slice none 0 0, .slice none 0 0]) e)
            clear T3 hH3 R3_107 R3_103 e
            refine wpAnyH_ready (rs := [6]) (by kernel_rfl) (by simp) ?_
            refine AllReadyH.cons rfl (fun K hK => ?_) AllReadyH.nil
            refine step_app_strsR rfl _ _ rfl (.slice (some ⟨g_3, 0, none⟩) ka c_3) ([] ++ PA.keys) PB.keys g_3 (some ⟨b1, o1, none⟩) kb g1 mk (HKB.out) (HN2.out) rfl rfl R4_103.out (EB8.out.keys.turn T4.out) KKB.out.1 HG2.out ?_
            intro g_5 c_5 X5 hg hr hc ht
            have hw : w8.heap.size ≤ g_3 := by omega
            have T5 := Lib.hid (T4.out.trans_new (S := fun _ => False) ht (fun k hk e => by omega))
            have hH5 := T5.out
            have hz5 := ht.size
            have hp := R4_103.out.lt
            have hy5 := T4.out.size
            have hv5 : w8.heap.size ≤ g_5 := by omega
            have hl5_107 := R4_107.out.lt
            have hm5_13 := B4_13.out.lt
            have R5_107 := Lib.hid (R4_107.out.turn ht (by omega))
            have B5_13 := Lib.hid (B4_13.out.turn ht (by omega))
            have hq5_107 : ¬ X1.heap.size = g_5 := by omega
            have hr5_13 : ¬ X3.heap.size = g_5 := by omega
            have R5_106 := Lib.hid hr
            have P5_106 := Lib.hid hc
            clear T4 hH4 R4_107 R4_103 B4_13 hr hc ht hg hp hw
            refine hK.out _ _ hH5 (fun hHeld => ?_)
            clear hK K hHeld
            try simp only [List.getElem_toArray, List.getElem_cons_zero, List.getElem_cons_succ, Act.put, List.setIfInBounds_toArray, List.set_cons_zero, List.set_cons_succ]
            refine wpAnyH_ready (rs := [10]) (by kernel_rfl) (by simp) ?_
            refine AllReadyH.cons rfl (fun K hK => ?_) AllReadyH.nil
            refine step_app_strsR rfl _ _ rfl (.slice (some ⟨X1.heap.size, 0, none⟩) 0 0) [] PA.vals X1.heap.size E2 va f2 va (HVA.out) (HN3.out) rfl rfl R5_107.out (EA8.out.vals.turn T5.out) KKA.out.2 HG3.out ?_
            intro g_6 c_6 X6 hg hr hc ht
            have hw : w8.heap.size ≤ X1.heap.size := by omega
            have T6 := Lib.hid (T5.out.trans_new (S := fun _ => False) ht (fun k hk e => by omega))
            have hH6 := T6.out
            have hz6 := ht.size
            have hp := R5_107.out.lt
            have hy6 := T5.out.size
            have hv6 : w8.heap.size ≤ g_6 := by omega
            have hl6_106 := R5_106.out.lt
            have hm6_13 := B5_13.out.lt
            have R6_106 := Lib.hid (R5_106.out.turn ht (by omega))
            have B6_13 := Lib.hid (B5_13.out.turn ht (by omega))
            have hq6_106 : ¬ g_5 = g_6 := by omega
            have hr6_13 : ¬ X3.heap.size = g_6 := by omega
            have R6_110 := Lib.hid hr
            have P6_110 := Lib.hid hc
            clear T5 hH5 R5_107 R5_106 B5_13 hr hc ht hg hp hw
            refine hK.out _ _ hH6 (fun hHeld => ?_)
            clear hK K hHeld
            try simp only [List.getElem_toArray, List.getElem_cons_zero, List.getElem_cons_succ, Act.put, List.setIfInBounds_toArray, List.set_cons_zero, List.set_cons_succ]
            refine wpAnyH_ready (rs := [13]) (by kernel_rfl) (by simp) ?_
            refine AllReadyH.cons rfl (fun K hK => ?_) AllReadyH.nil
            refine step_app_strsR rfl _ _ rfl (.slice (some ⟨g_6, 0, none⟩) va c_6) ([] ++ PA.vals) PB.vals g_6 G2 vb g2 mv (HVB.out) (HN4.out) rfl rfl R6_110.out (EB8.out.vals.turn T6.out) KKB.out.2 HG4.out ?_
            intro g_7 c_7 X7 hg hr hc ht
            have hw : w8.heap.size ≤ g_6 := by omega
            have T7 := Lib.hid (T6.out.trans_new (S := fun _ => False) ht (fun k hk e => by omega))
            have hH7 := T7.out
            have hz7 := ht.size
            have hp := R6_110.out.lt
            have hy7 := T6.out.size
            have hv7 : w8.heap.size ≤ g_7 := by omega
            have hl7_106 := R6_106.out.lt
            have hm7_13 := B6_13.out.lt
            have R7_106 := Lib.hid (R6_106.out.turn ht (by omega))
            have B7_13 := Lib.hid (B6_13.out.turn ht (by omega))
            have hq7_106 : ¬ g_5 = g_7 := by omega
            have hr7_13 : ¬ X3.heap.size = g_7 := by omega
            have R7_113 := Lib.hid hr
            have P7_113 := Lib.hid hc
            clear T6 hH6 R6_106 R6_110 B6_13 hr hc ht hg hp hw
            refine hK.out _ _ hH7 (fun hHeld => ?_)
            clear hK K hHeld
            try simp only [List.getElem_toArray, List.getElem_cons_zero, List.getElem_cons_succ, Act.put, List.setIfInBounds_toArray, List.set_cons_zero, List.set_cons_succ]
            refine wpAnyH_take (i := 14) (v := ?_) rfl (by kernel_rfl) (by kernel_rfl) (by kernel_rfl) (fun _ _ _ h => h) (Or.inl ⟨by rfl, ?_⟩) (by assumption) ?_
            rotate_left 1
            · intro w' hSw
              go_simp
              all_goals first | with_reducible rfl | (rw [if_neg (by omega)]; done) | (rw [if_pos (by omega)]; done) | (rw [if_neg (by omega)]; with_reducible rfl) | (rw [if_pos (by omega)]; with_reducible rfl)
            try simp only [List.getElem_toArray, List.getElem_cons_zero, List.getElem_cons_succ, Act.put, List.setIfInBounds_toArray, List.set_cons_zero, List.set_cons_succ]
            refine wpAnyH_ready (rs := [16]) (by kernel_rfl) (by simp) ?_
            refine AllReadyH.cons rfl (fun K hK => ?_) AllReadyH.nil
            have r0 := B7_13.out.cell 0
            have f0 := B7_13.out.free 0
            have r1 := B7_13.out.cell 1
            have f1 := B7_13.out.free 1
            have r2 := B7_13.out.cell 2
            have f2 := B7_13.out.free 2
            have r3 := B7_13.out.cell 3
            have f3 := B7_13.out.free 3
            simp only [List.getElem?_cons_zero, List.getElem?_cons_succ] at r0 r1 r2 r3
            obtain ⟨hb, hs⟩ := put4 B7_13.out (.bool true) (.slice (some ⟨g_5, 0, none⟩) mk c_5) (.slice (some ⟨g_7, 0, none⟩) mv c_7) (.slice none 0 0)
            have hx := T7.out.size
            have hS := T7.out.trans_new (S := fun _ => False) hs (fun k hk e => by omega)
            go_simp
            refine hK.out _ _ hS (fun hHeld => ?_)
            clear hK K
            try simp only [List.getElem_toArray, List.getElem_cons_zero, List.getElem_cons_succ, Act.put, List.setIfInBounds_toArray, List.set_cons_zero, List.set_cons_succ]
            refine wpAnyH_named (fun X8 e => ?_)
            clear hHeld
            have T8 := Lib.hid (e ▸ hS)
            have hH8 := T8.out
            have B8_13 := Lib.hid (e ▸ hb)
            rw [← e] at hs
            have R8_106 := Lib.hid (R7_106.out.turn hs (by omega))
            have R8_113 := Lib.hid (R7_113.out.turn hs (by omega))
            clear T7 hH7 R7_106 R7_113 B7_13 r0 f0 r1 f1 r2 f2 r3 f3 hS hb hs e
            refine wpAnyH_done (by kernel_rfl) ?_ _
            refine NoPanic.normal ?_
            go_wp2_with fail
            go_meet
            exact ⟨X3.heap.size, g_5, g_7, c_5, c_7, rfl, B8_13.out, R8_106.out, R8_113.out, T8.out⟩
        · go_simp
          refine hK.out _ _ (T2.out.alloc _) (fun hHeld => ?_)
          clear hK K
          try simp only [List.getElem_toArray, List.getElem_cons_zero, List.getElem_cons_succ, Act.put, List.setIfInBounds_toArray, List.set_cons_zero, List.set_cons_succ]
          refine wpAnyH_named (fun X3 e => ?_)
          clear hHeld
          have T3 := Lib.hid (T2.out.al e)
          have hH3 := T3.out
          have hz3 := size_al e
          have hy3 := T2.out.size
          have R3_100 := Lib.hid (R2_100.out.al e)
          have R3_107 := Lib.hid (R2_107.out.al e)
          have hl3_100 := R2_100.out.lt
          have hl3_107 := R2_107.out.lt
          have B3_13 := Lib.hid (Blk.nw (cs := [.bool false, .slice none 0 0, .slice none 0 0, .slice none 0 0]) e)
          clear T2 hH2 R2_100 R2_107 e
          refine wpAnyH_ready (rs := [3]) (by kernel_rfl) (by simp) ?_
          refine AllReadyH.cons rfl (fun K hK => ?_) AllReadyH.nil
          refine step_app_strsR rfl _ _ rfl (.slice (some ⟨X0.heap.size, 0, none⟩) 0 0) [] PA.keys X0.heap.size E1 ka f1 ka (HKA.out) (HN1.out) rfl rfl R3_100.out (EA8.out.keys.turn T3.out) KKA.out.1 HG1.out ?_
          intro g_4 c_4 X4 hg hr hc ht
          have hw : w8.heap.size ≤ X0.heap.size := by omega
          have T4 := Lib.hid (T3.out.trans_new (S := fun _ => False) ht (fun k hk e => by omega))
          have hH4 := T4.out
          have hz4 := ht.size
          have hp := R3_100.out.lt
          have hy4 := T3.out.size
          have hv4 : w8.heap.size ≤ g_4 := by omega
          have hl4_107 := R3_107.out.lt
          have hm4_13 := B3_13.out.lt
          have R4_107 := Lib.hid (R3_107.out.turn ht (by omega))
          have B4_13 := Lib.hid (B3_13.out.turn ht (by omega))
          have hq4_107 : ¬ X1.heap.size = g_4 := by omega
          have hr4_13 : ¬ X2.heap.size = g_4 := by omega
          have R4_103 := Lib.hid hr
          have P4_103 := Lib.hid hc
          clear T3 hH3 R3_100 R3_107 B3_13 hr hc ht hg hp hw
          refine hK.out _ _ hH4 (fun hHeld => ?_)
          clear hK K hHeld
          try simp only [List.getElem_toArray, List.getElem_cons_zero, List.getElem_cons_succ, Act.put, List.setIfInBounds_toArray, List.set_cons_zero, List.set_cons_succ]
          refine wpAnyH_ready (rs := [6]) (by kernel_rfl) (by simp) ?_
          refine AllReadyH.cons rfl (fun K hK => ?_) AllReadyH.nil
          refine step_app_strsR rfl _ _ rfl (.slice (some ⟨g_4, 0, none⟩) ka c_4) ([] ++ PA.keys) PB.keys g_4 (some ⟨b1, o1, none⟩) kb g1 mk (HKB.out) (HN2.out) rfl rfl R4_103.out (EB8.out.keys.turn T4.out) KKB.out.1 HG2.out ?_
          intro g_5 c_5 X5 hg hr hc ht
          have hw : w8.heap.size ≤ g_4 := by omega
          have T5 := Lib.hid (T4.out.trans_new (S := fun _ => False) ht (fun k hk e => by omega))
          have hH5 := T5.out
          have hz5 := ht.size
          have hp := R4_103.out.lt
          have hy5 := T4.out.size
          have hv5 : w8.heap.size ≤ g_5 := by omega
          have hl5_107 := R4_107.out.lt
          have hm5_13 := B4_13.out.lt
          have R5_107 := Lib.hid (R4_107.out.turn ht (by omega))
          have B5_13 := Lib.hid (B4_13.out.turn ht (by omega))
          have hq5_107 : ¬ X1.heap.size = g_5 := by omega
          have hr5_13 : ¬ X2.heap.size = g_5 := by omega
          have R5_106 := Lib.hid hr
          have P5_106 := Lib.hid hc
          clear T4 hH4 R4_107 R4_103 B4_13 hr hc ht hg hp hw
          refine hK.out _ _ hH5 (fun hHeld => ?_)
          clear hK K hHeld
          try simp only [List.getElem_toArray, List.getElem_cons_zero, List.getElem_cons_succ, Act.put, List.setIfInBounds_toArray, List.set_cons_zero, List.set_cons_succ]
          refine wpAnyH_ready (rs := [10]) (by kernel_rfl) (by simp) ?_
          refine AllReadyH.cons rfl (fun K hK => ?_) AllReadyH.nil
          refine step_app_strsR rfl _ _ rfl (.slice (some ⟨X1.heap.size, 0, none⟩) 0 0) [] PA.vals X1.heap.size E2 va f2 va (HVA.out) (HN3.out) rfl rfl R5_107.out (EA8.out.vals.turn T5.out) KKA.out.2 HG3.out ?_
          intro g_6 c_6 X6 hg hr hc ht
          have hw : w8.heap.size ≤ X1.heap.size := by omega
          have T6 := Lib.hid (T5.out.trans_new (S := fun _ => False) ht (fun k hk e => by omega))
          have hH6 := T6.out
          have hz6 := ht.size
          have hp := R5_107.out.lt
          have hy6 := T5.out.size
          have hv6 : w8.heap.size ≤ g_6 := by omega
          have hl6_106 := R5_106.out.lt
          have hm6_13 := B5_13.out.lt
          have R6_106 := Lib.hid (R5_106.out.turn ht (by omega))
          have B6_13 := Lib.hid (B5_13.out.turn ht (by omega))
          have hq6_106 : ¬ g_5 = g_6 := by omega
          have hr6_13 : ¬ X2.heap.size = g_6 := by omega
          have R6_110 := Lib.hid hr
          have P6_110 := Lib.hid hc
          clear T5 hH5 R5_107 R5_106 B5_13 hr hc ht hg hp hw
          refine hK.out _ _ hH6 (fun hHeld => ?_)
          clear hK K hHeld
          try simp only [List.getElem_toArray, List.getElem_cons_zero, List.getElem_cons_succ, Act.put, List.setIfInBounds_toArray, List.set_cons_zero, List.set_cons_succ]
          refine wpAnyH_ready (rs := [13]) (by kernel_rfl) (by simp) ?_
          refine AllReadyH.cons rfl (fun K hK => ?_) AllReadyH.nil
          refine step_app_strsR rfl _ _ rfl (.slice (some ⟨g_6, 0, none⟩) va c_6) ([] ++ PA.vals) PB.vals g_6 G2 vb g2 mv (HVB.out) (HN4.out) rfl rfl R6_110.out (EB8.out.vals.turn T6.out) KKB.out.2 HG4.out ?_
          intro g_7 c_7 X7 hg hr hc ht
          have hw : w8.heap.size ≤ g_6 := by omega
          have T7 := Lib.hid (T6.out.trans_new (S := fun _ => False) ht (fun k hk e => by omega))
          have hH7 := T7.out
          have hz7 := ht.size
          have hp := R6_110.out.lt
          have hy7 := T6.out.size
          have hv7 : w8.heap.size ≤ g_7 := by omega
          have hl7_106 := R6_106.out.lt
          have hm7_13 := B6_13.out.lt
          have R7_106 := Lib.hid (R6_106.out.turn ht (by omega))
          have B7_13 := Lib.hid (B6_13.out.turn ht (by omega))
          have hq7_106 : ¬ g_5 = g_7 := by omega
          have hr7_13 : ¬ X2.heap.size = g_7 := by omega
          have R7_113 := Lib.hid hr
          have P7_113 := Lib.hid hc
          clear T6 hH6 R6_106 R6_110 B6_13 hr hc ht hg hp hw
          refine hK.out _ _ hH7 (fun hHeld => ?_)
          clear hK K hHeld
          try simp only [List.getElem_toArray, List.getElem_cons_zero, List.getElem_cons_succ, Act.put, List.setIfInBounds_toArray, List.set_cons_zero, List.set_cons_succ]
          refine wpAnyH_take (i := 14) (v := ?_) rfl (by kernel_rfl) (by kernel_rfl) (by kernel_rfl) (fun _ _ _ h => h) (Or.inl ⟨by rfl, ?_⟩) (by assumption) ?_
          rotate_left 1
          · intro w' hSw
            go_simp
            all_goals first | with_reducible rfl | (rw [if_neg (by omega)]; done) | (rw [if_pos (by omega)]; done) | (rw [if_neg (by omega)]; with_reducible rfl) | (rw [if_pos (by omega)]; with_reducible rfl)
          try simp only [List.getElem_toArray, List.getElem_cons_zero, List.getElem_cons_succ, Act.put, List.setIfInBounds_toArray, List.set_cons_zero, List.set_cons_succ]
          refine wpAnyH_ready (rs := [16]) (by kernel_rfl) (by simp) ?_
          refine AllReadyH.cons rfl (fun K hK => ?_) AllReadyH.nil
          have r0 := B7_13.out.cell 0
          have f0 := B7_13.out.free 0
          have r1 := B7_13.out.cell 1
          have f1 := B7_13.out.free 1
          have r2 := B7_13.out.cell 2
          have f2 := B7_13.out.free 2
          have r3 := B7_13.out.cell 3
          have f3 := B7_13.out.free 3
          simp only [List.getElem?_cons_zero, List.getElem?_cons_succ] at r0 r1 r2 r3
          obtain ⟨hb, hs⟩ := put4 B7_13.out (.bool true) (.slice (some ⟨g_5, 0, none⟩) mk c_5) (.slice (some ⟨g_7, 0, none⟩) mv c_7) (.slice none 0 0)
          have hx := T7.out.size
          have hS := T7.out.trans_new (S := fun _ => False) hs (fun k hk e => by omega)
          go_simp
          refine hK.out _ _ hS (fun hHeld => ?_)
          clear hK K
          try simp only [List.getElem_toArray, List.getElem_cons_zero, List.getElem_cons_succ, Act.put, List.setIfInBounds_toArray, List.set_cons_zero, List.set_cons_succ]
          refine wpAnyH_named (fun X8 e => ?_)
          clear hHeld
          have T8 := Lib.hid (e ▸ hS)
          have hH8 := T8.out
          have B8_13 := Lib.hid (e ▸ hb)
          rw [← e] at hs
          have R8_106 := Lib.hid (R7_106.out.turn hs (by omega))
          have R8_113 := Lib.hid (R7_113.out.turn hs (by omega))
          clear T7 hH7 R7_106 R7_113 B7_13 r0 f0 r1 f1 r2 f2 r3 f3 hS hb hs e
          refine wpAnyH_done (by kernel_rfl) ?_ _
          refine NoPanic.normal ?_
          go_wp2_with fail
          go_meet
          exact ⟨X2.heap.size, g_5, g_7, c_5, c_7, rfl, B8_13.out, R8_106.out, R8_113.out, T8.out⟩
      · go_simp
        refine hK.out _ _ (T1.out.alloc _) (fun hHeld => ?_)
        clear hK K
        try simp only [List.getElem_toArray, List.getElem_cons_zero, List.getElem_cons_succ, Act.put, List.setIfInBounds_toArray, List.set_cons_zero, List.set_cons_succ]
        refine wpAnyH_named (fun X2 e => ?_)
        clear hHeld
        have T2 := Lib.hid (T1.out.al e)
        have hH2 := T2.out
        have hz2 := size_al e
        have hy2 := T1.out.size
        have R2_100 := Lib.hid (R1_100.out.al e)
        have hl2_100 := R1_100.out.lt
        have B2_13 := Lib.hid (Blk.nw (cs := [.bool false, .slice none 0 0, .slice none 0 0, .slice none 0 0]) e)
        clear T1 hH1 R1_100 e
        refine wpAnyH_ready (rs := [3, 7]) (by kernel_rfl) (by simp) ?_
        refine AllReadyH.cons rfl (fun K hK => ?_) (AllReadyH.cons rfl (fun K hK => ?_) AllReadyH.nil)
        · refine step_app_strsR rfl _ _ rfl (.slice (some ⟨X0.heap.size, 0, none⟩) 0 0) [] PA.keys X0.heap.size E1 ka f1 ka (HKA.out) (HN1.out) rfl rfl R2_100.out (EA8.out.keys.turn T2.out) KKA.out.1 HG1.out ?_
          intro g_3 c_3 X3 hg hr hc ht
          have hw : w8.heap.size ≤ X0.heap.size := by omega
          have T3 := Lib.hid (T2.out.trans_new (S := fun _ => False) ht (fun k hk e => by omega))
          have hH3 := T3.out
          have hz3 := ht.size
          have hp := R2_100.out.lt
          have hy3 := T2.out.size
          have hv3 : w8.heap.size ≤ g_3 := by omega
          have hm3_13 := B2_13.out.lt
          have B3_13 := Lib.hid (B2_13.out.turn ht (by omega))
          have hr3_13 : ¬ X1.heap.size = g_3 := by omega
          have R3_103 := Lib.hid hr
          have P3_103 := Lib.hid hc
          clear T2 hH2 R2_100 B2_13 hr hc ht hg hp hw
          refine hK.out _ _ hH3 (fun hHeld => ?_)
          clear hK K hHeld
          try simp only [List.getElem_toArray, List.getElem_cons_zero, List.getElem_cons_succ, Act.put, List.setIfInBounds_toArray, List.set_cons_zero, List.set_cons_succ]
          refine wpAnyH_ready (rs := [6, 7]) (by kernel_rfl) (by simp) ?_
          refine AllReadyH.cons rfl (fun K hK => ?_) (AllReadyH.cons rfl (fun K hK => ?_) AllReadyH.nil)
          · refine step_app_strsR rfl _ _ rfl (.slice (some ⟨g_3, 0, none⟩) ka c_3) ([] ++ PA.keys) PB.keys g_3 (some ⟨b1, o1, none⟩) kb g1 mk (HKB.out) (HN2.out) rfl rfl R3_103.out (EB8.out.keys.turn T3.out) KKB.out.1 HG2.out ?_
            intro g_4 c_4 X4 hg hr hc ht
            have hw : w8.heap.size ≤ g_3 := by omega
            have T4 := Lib.hid (T3.out.trans_new (S := fun _ => False) ht (fun k hk e => by omega))
            have hH4 := T4.out
            have hz4 := ht.size
            have hp := R3_103.out.lt
            have hy4 := T3.out.size
            have hv4 : w8.heap.size ≤ g_4 := by omega
            have hm4_13 := B3_13.out.lt
            have B4_13 := Lib.hid (B3_13.out.turn ht (by omega))
            have hr4_13 : ¬ X1.heap.size = g_4 := by omega
            have R4_106 := Lib.hid hr
            have P4_106 := Lib.hid hc
            clear T3 hH3 R3_103 B3_13 hr hc ht hg hp hw
            refine hK.out _ _ hH4 (fun hHeld => ?_)
            clear hK K hHeld
            try simp only [List.getElem_toArray, List.getElem_cons_zero, List.getElem_cons_succ, Act.put, List.setIfInBounds_toArray, List.set_cons_zero, List.set_cons_succ]
            refine wpAnyH_ready (rs := [7]) (by kernel_rfl) (by simp) ?_
            refine AllReadyH.cons rfl (fun K hK => ?_) AllReadyH.nil
            go_simp
            refine hK.out _ _ (T4.out.alloc _) (fun hHeld => ?_)
            clear hK K
            try simp only [List.getElem_toArray, List.getElem_cons_zero, List.getElem_cons_succ, Act.put, List.setIfInBounds_toArray, List.set_cons_zero, List.set_cons_succ]
            refine wpAnyH_named (fun X5 e => ?_)
            clear hHeld
            have T5 := Lib.hid (T4.out.al e)
            have hH5 := T5.out
            have hz5 := size_al e
            have hy5 := T4.out.size
            have R5_106 := Lib.hid (R4_106.out.al e)
            have B5_13 := Lib.hid (B4_13.out.al e)
            have hl5_106 := R4_106.out.lt
            have hm5_13 := B4_13.out.lt
            have R5_107 := Lib.hid (Ro.empS e)
            clear T4 hH4 R4_106 B4_13 e
            refine wpAnyH_ready (rs := [10]) (by kernel_rfl) (by simp) ?_
            refine AllReadyH.cons rfl (fun K hK => ?_) AllReadyH.nil
            refine step_app_strsR rfl _ _ rfl (.slice (some ⟨X4.heap.size, 0, none⟩) 0 0) [] PA.vals X4.heap.size E2 va f2 va (HVA.out) (HN3.out) rfl rfl R5_107.out (EA8.out.vals.turn T5.out) KKA.out.2 HG3.out ?_
            intro g_6 c_6 X6 hg hr hc ht
            have hw : w8.heap.size ≤ X4.heap.size := by omega
            have T6 := Lib.hid (T5.out.trans_new (S := fun _ => False) ht (fun k hk e => by omega))
            have hH6 := T6.out
            have hz6 := ht.size
            have hp := R5_107.out.lt
            have hy6 := T5.out.size
            have hv6 : w8.heap.size ≤ g_6 := by omega
            have hl6_106 := R5_106.out.lt
            have hm6_13 := B5_13.out.lt
            have R6_106 := Lib.hid (R5_106.out.turn ht (by omega))
            have B6_13 := Lib.hid (B5_13.out.turn ht (by omega))
            have hq6_106 : ¬ g_4 = g_6 := by omega
            have hr6_13 : ¬ X1.heap.size = g_6 := by omega
            have R6_110 := Lib.hid hr
            have P6_110 := Lib.hid hc
            clear T5 hH5 R5_106 R5_107 B5_13 hr hc ht hg hp hw
            refine hK.out _ _ hH6 (fun hHeld => ?_)
            clear hK K hHeld
            try simp only [List.getElem_toArray, List.getElem_cons_zero, List.getElem_cons_succ, Act.put, List.setIfInBounds_toArray, List.set_cons_zero, List.set_cons_succ]
            refine wpAnyH_ready (rs := [13]) (by kernel_rfl) (by simp) ?_
            refine AllReadyH.cons rfl (fun K hK => ?_) AllReadyH.nil
            refine step_app_strsR rfl _ _ rfl (.slice (some ⟨g_6, 0, none⟩) va c_6) ([] ++ PA.vals) PB.vals g_6 G2 vb g2 mv (HVB.out) (HN4.out) rfl rfl R6_110.out (EB8.out.vals.turn T6.out) KKB.out.2 HG4.out ?_
            intro g_7 c_7 X7 hg hr hc ht
            have hw : w8.heap.size ≤ g_6 := by omega
            have T7 := Lib.hid (T6.out.trans_new (S := fun _ => False) ht (fun k hk e => by omega))
            have hH7 := T7.out
            have hz7 := ht.size
            have hp := R6_110.out.lt
            have hy7 := T6.out.size
            have hv7 : w8.heap.size ≤ g_7 := by omega
            have hl7_106 := R6_106.out.lt
            have hm7_13 := B6_13.out.lt
            have R7_106 := Lib.hid (R6_106.out.turn ht (by omega))
            have B7_13 := Lib.hid (B6_13.out.turn ht (by omega))
            have hq7_106 : ¬ g_4 = g_7 := by omega
            have hr7_13 : ¬ X1.heap.size = g_7 := by omega
            have R7_113 := Lib.hid hr
            have P7_113 := Lib.hid hc
            clear T6 hH6 R6_106 R6_110 B6_13 hr hc ht hg hp hw
            refine hK.out _ _ hH7 (fun hHeld => ?_)
            clear hK K hHeld
            try simp only [List.getElem_toArray, List.getElem_cons_zero, List.getElem_cons_succ, Act.put, List.setIfInBounds_toArray, List.set_cons_zero, List.set_cons_succ]
            refine wpAnyH_take (i := 14) (v := ?_) rfl (by kernel_rfl) (by kernel_rfl) (by kernel_rfl) (fun _ _ _ h => h) (Or.inl ⟨by rfl, ?_⟩) (by assumption) ?_
            rotate_left 1
            · intro w' hSw
              go_simp
              all_goals first | with_reducible rfl | (rw [if_neg (by omega)]; done) | (rw [if_pos (by omega)]; done) | (rw [if_neg (by omega)]; with_reducible rfl) | (rw [if_pos (by omega)]; with_reducible rfl)
            try simp only [List.getElem_toArray, List.getElem_cons_zero, List.getElem_cons_succ, Act.put, List.setIfInBounds_toArray, List.set_cons_zero, List.set_cons_succ]
            refine wpAnyH_ready (rs := [16]) (by kernel_rfl) (by simp) ?_
            refine AllReadyH.cons rfl (fun K hK => ?_) AllReadyH.nil
            have r0 := B7_13.out.cell 0
            have f0 := B7_13.out.free 0
            have r1 := B7_13.out.cell 1
            have f1 := B7_13.out.free 1
            have r2 := B7_13.out.cell 2
            have f2 := B7_13.out.free 2
            have r3 := B7_13.out.cell 3
            have f3 := B7_13.out.free 3
            simp only [List.getElem?_cons_zero, List.getElem?_cons_succ] at r0 r1 r2 r3
            obtain ⟨hb, hs⟩ := put4 B7_13.out (.bool true) (.slice (some ⟨g_4, 0, none⟩) mk c_4) (.slice (some ⟨g_7, 0, none⟩) mv c_7) (.slice none 0 0)
            have hx := T7.out.size
            have hS := T7.out.trans_new (S := fun _ => False) hs (fun k hk e => by omega)
            go_simp
            refine hK.out _ _ hS (fun hHeld => ?_)
            clear hK K
            try simp only [List.getElem_toArray, List.getElem_cons_zero, List.getElem_cons_succ, Act.put, List.setIfInBounds_toArray, List.set_cons_zero, List.set_cons_succ]
            refine wpAnyH_named (fun X8 e => ?_)
            clear hHeld
            have T8 := Lib.hid (e ▸ hS)
            have hH8 := T8.out
            have B8_13 := Lib.hid (e ▸ hb)
            rw [← e] at hs
            have R8_106 := Lib.hid (R7_106.out.turn hs (by omega))
            have R8_113 := Lib.hid (R7_113.out.turn hs (by omega))
            clear T7 hH7 R7_106 R7_113 B7_13 r0 f0 r1 f1 r2 f2 r3 f3 hS hb hs e
            refine wpAnyH_done (by kernel_rfl) ?_ _
            refine NoPanic.normal ?_
            go_wp2_with fail
            go_meet
            exact ⟨X1.heap.size, g_4, g_7, c_4, c_7, rfl, B8_13.out, R8_106.out, R8_113.out, T8.out⟩
          · go_simp
            refine hK.out _ _ (T3.out.alloc _) (fun hHeld => ?_)
            clear hK K
            try simp only [List.getElem_toArray, List.getElem_cons_zero, List.getElem_cons_succ, Act.put, List.setIfInBounds_toArray, List.set_cons_zero, List.set_cons_succ]
            refine wpAnyH_named (fun X4 e => ?_)
            clear hHeld
            have T4 := Lib.hid (T3.out.al e)
            have hH4 := T4.out
            have hz4 := size_al e
            have hy4 := T3.out.size
            have R4_103 := Lib.hid (R3_103.out.al e)
            have B4_13 := Lib.hid (B3_13.out.al e)
            have hl4_103 := R3_103.out.lt
            have hm4_13 := B3_13.out.lt
            have R4_107 := Lib.hid (Ro.empS e)
            clear T3 hH3 R3_103 B3_13 e
            refine wpAnyH_ready (rs := [6]) (by kernel_rfl) (by simp) ?_
            refine AllReadyH.cons rfl (fun K hK => ?_) AllReadyH.nil
            refine step_app_strsR rfl _ _ rfl (.slice (some ⟨g_3, 0, none⟩) ka c_3) ([] ++ PA.keys) PB.keys g_3 (some ⟨b1, o1, none⟩) kb g1 mk (HKB.out) (HN2.out) rfl rfl R4_103.out (EB8.out.keys.turn T4.out) KKB.out.1 HG2.out ?_
            intro g_5 c_5 X5 hg hr hc ht
            have hw : w8.heap.size ≤ g_3 := by omega
            have T5 := Lib.hid (T4.out.trans_new (S := fun _ => False) ht (fun k hk e => by omega))
            have hH5 := T5.out
            have hz5 := ht.size
            have hp := R4_103.out.lt
            have hy5 := T4.out.size
            have hv5 : w8.heap.size ≤ g_5 := by omega
            have hl5_107 := R4_107.out.lt
            have hm5_13 := B4_13.out.lt
            have R5_107 := Lib.hid (R4_107.out.turn ht (by omega))
            have B5_13 := Lib.hid (B4_13.out.turn ht (by omega))
            have hq5_107 : ¬ X3.heap.size = g_5 := by omega
            have hr5_13 : ¬ X1.heap.size = g_5 := by omega
            have R5_106 := Lib.hid hr
            have P5_106 := Lib.hid hc
            clear T4 hH4 R4_103 R4_107 B4_13 hr hc ht hg hp hw
            refine hK.out _ _ hH5 (fun hHeld => ?_)
            clear hK K hHeld
            try simp only [List.getElem_toArray, List.getElem_cons_zero, List.getElem_cons_succ, Act.put, List.setIfInBounds_toArray, List.set_cons_zero, List.set_cons_succ]
            refine wpAnyH_ready (rs := [10]) (by kernel_rfl) (by simp) ?_
            refine AllReadyH.cons rfl (fun K hK => ?_) AllReadyH.nil
            refine step_app_strsR rfl _ _ rfl (.slice (some ⟨X3.heap.size, 0, none⟩) 0 0) [] PA.vals X3.heap.size E2 va f2 va (HVA.out) (HN3.out) rfl rfl R5_107.out (EA8.out.vals.turn T5.out) KKA.out.2 HG3.out ?_
            intro g_6 c_6 X6 hg hr hc ht
            have hw : w8.heap.size ≤ X3.heap.size := by omega
            have T6 := Lib.hid (T5.out.trans_new (S := fun _ => False) ht (fun k hk e => by omega))
            have hH6 := T6.out
            have hz6 := ht.size
            have hp := R5_107.out.lt
            have hy6 := T5.out.size
            have hv6 : w8.heap.size ≤ g_6 := by omega
            have hl6_106 := R5_106.out.lt
            have hm6_13 := B5_13.out.lt
            have R6_106 := Lib.hid (R5_106.out.turn ht (by omega))
            have B6_13 := Lib.hid (B5_13.out.turn ht (by omega))
            have hq6_106 : ¬ g_5 = g_6 := by omega
            have hr6_13 : ¬ X1.heap.size = g_6 := by omega
            have R6_110 := Lib.hid hr
            have P6_110 := Lib.hid hc
            clear T5 hH5 R5_107 R5_106 B5_13 hr hc ht hg hp hw
            refine hK.out _ _ hH6 (fun hHeld => ?_)
            clear hK K hHeld
            try simp only [List.getElem_toArray, List.getElem_cons_zero, List.getElem_cons_succ, Act.put, List.setIfInBounds_toArray, List.set_cons_zero, List.set_cons_succ]
            refine wpAnyH_ready (rs := [13]) (by kernel_rfl) (by simp) ?_
            refine AllReadyH.cons rfl (fun K hK => ?_) AllReadyH.nil
            refine step_app_strsR rfl _ _ rfl (.slice (some ⟨g_6, 0, none⟩) va c_6) ([] ++ PA.vals) PB.vals g_6 G2 vb g2 mv (HVB.out) (HN4.out) rfl rfl R6_110.out (EB8.out.vals.turn T6.out) KKB.out.2 HG4.out ?_
            intro g_7 c_7 X7 hg hr hc ht
            have hw : w8.heap.size ≤ g_6 := by omega
            have T7 := Lib.hid (T6.out.trans_new (S := fun _ => False) ht (fun k hk e => by omega))
            have hH7 := T7.out
            have hz7 := ht.size
            have hp := R6_110.out.lt
            have hy7 := T6.out.size
            have hv7 : w8.heap.size ≤ g_7 := by omega
            have hl7_106 := R6_106.out.lt
            have hm7_13 := B6_13.out.lt
            have R7_106 := Lib.hid (R6_106.out.turn ht (by omega))
            have B7_13 := Lib.hid (B6_13.out.turn ht (by omega))
            have hq7_106 : ¬ g_5 = g_7 := by omega
            have hr7_13 : ¬ X1.heap.size = g_7 := by omega
            have R7_113 := Lib.hid hr
            have P7_113 := Lib.hid hc
            clear T6 hH6 R6_106 R6_110 B6_13 hr hc ht hg hp hw
            refine hK.out _ _ hH7 (fun hHeld => ?_)
            clear hK K hHeld
            try simp only [List.getElem_toArray, List.getElem_cons_zero, List.getElem_cons_succ, Act.put, List.setIfInBounds_toArray, List.set_cons_zero, List.set_cons_succ]
            refine wpAnyH_take (i := 14) (v := ?_) rfl (by kernel_rfl) (by kernel_rfl) (by kernel_rfl) (fun _ _ _ h => h) (Or.inl ⟨by rfl, ?_⟩) (by assumption) ?_
            rotate_left 1
            · intro w' hSw
              go_simp
              all_goals first | with_reducible rfl | (rw [if_neg (by omega)]; done) | (rw [if_pos (by omega)]; done) | (rw [if_neg (by omega)]; with_reducible rfl) | (rw [if_pos (by omega)]; with_reducible rfl)
            try simp only [List.getElem_toArray, List.getElem_cons_zero, List.getElem_cons_succ, Act.put, List.setIfInBounds_toArray, List.set_cons_zero, List.set_cons_succ]
            refine wpAnyH_ready (rs := [16]) (by kernel_rfl) (by simp) ?_
            refine AllReadyH.cons rfl (fun K hK => ?_) AllReadyH.nil
            have r0 := B7_13.out.cell 0
            have f0 := B7_13.out.free 0
            have r1 := B7_13.out.cell 1
            have f1 := B7_13.out.free 1
            have r2 := B7_13.out.cell 2
            have f2 := B7_13.out.free 2
            have r3 := B7_13.out.cell 3
            have f3 := B7_13.out.free 3
            simp only [List.getElem?_cons_zero, List.getElem?_cons_succ] at r0 r1 r2 r3
            obtain ⟨hb, hs⟩ := put4 B7_13.out (.bool true) (.slice (some ⟨g_5, 0, none⟩) mk c_5) (.slice (some ⟨g_7, 0, none⟩) mv c_7) (.slice none 0 0)
            have hx := T7.out.size
            have hS := T7.out.trans_new (S := fun _ => False) hs (fun k hk e => by omega)
            go_simp
            refine hK.out _ _ hS (fun hHeld => ?_)
            clear hK K
            try simp only [List.getElem_toArray, List.getElem_cons_zero, List.getElem_cons_succ, Act.put, List.setIfInBounds_toArray, List.set_cons_zero, List.set_cons_succ]
            refine wpAnyH_named (fun X8 e => ?_)
            clear hHeld
            have T8 := Lib.hid (e ▸ hS)
            have hH8 := T8.out
            have B8_13 := Lib.hid (e ▸ hb)
            rw [← e] at hs
            have R8_106 := Lib.hid (R7_106.out.turn hs (by omega))
            have R8_113 := Lib.hid (R7_113.out.turn hs (by omega))
            clear T7 hH7 R7_106 R7_113 B7_13 r0 f0 r1 f1 r2 f2 r3 f3 hS hb hs e
            refine wpAnyH_done (by kernel_rfl) ?_ _
            refine NoPanic.normal ?_
            go_wp2_with fail
            go_meet
            exact ⟨X1.heap.size, g_5, g_7, c_5, c_7, rfl, B8_13.out, R8_106.out, R8_113.out, T8.out⟩
        · go_simp
          refine hK.out _ _ (T2.out.alloc _) (fun hHeld => ?_)
          clear hK K
          try simp only [List.getElem_toArray, List.getElem_cons_zero, List.getElem_cons_succ, Act.put, List.setIfInBounds_toArray, List.set_cons_zero, List.set_cons_succ]
          refine wpAnyH_named (fun X3 e => ?_)
          clear hHeld
          have T3 := Lib.hid (T2.out.al e)
          have hH3 := T3.out
          have hz3 := size_al e
          have hy3 := T2.out.size
          have R3_100 := Lib.hid (R2_100.out.al e)
          have B3_13 := Lib.hid (B2_13.out.al e)
          have hl3_100 := R2_100.out.lt
          have hm3_13 := B2_13.out.lt
          have R3_107 := Lib.hid (Ro.empS e)
          clear T2 hH2 R2_100 B2_13 e
          refine wpAnyH_ready (rs := [3]) (by kernel_rfl) (by simp) ?_
          refine AllReadyH.cons rfl (fun K hK => ?_) AllReadyH.nil
          refine step_app_strsR rfl _ _ rfl (.slice (some ⟨X0.heap.size, 0, none⟩) 0 0) [] PA.keys X0.heap.size E1 ka f1 ka (HKA.out) (HN1.out) rfl rfl R3_100.out (EA8.out.keys.turn T3.out) KKA.out.1 HG1.out ?_
          intro g_4 c_4 X4 hg hr hc ht
          have hw : w8.heap.size ≤ X0.heap.size := by omega
          have T4 := Lib.hid (T3.out.trans_new (S := fun _ => False) ht (fun k hk e => by omega))
          have hH4 := T4.out
          have hz4 := ht.size
          have hp := R3_100.out.lt
          have hy4 := T3.out.size
          have hv4 : w8.heap.size ≤ g_4 := by omega
          have hl4_107 := R3_107.out.lt
          have hm4_13 := B3_13.out.lt
          have R4_107 := Lib.hid (R3_107.out.turn ht (by omega))
          have B4_13 := Lib.hid (B3_13.out.turn ht (by omega))
          have hq4_107 : ¬ X2.heap.size = g_4 := by omega
          have hr4_13 : ¬ X1.heap.size = g_4 := by omega
          have R4_103 := Lib.hid hr
          have P4_103 := Lib.hid hc
          clear T3 hH3 R3_100 R3_107 B3_13 hr hc ht hg hp hw
          refine hK.out _ _ hH4 (fun hHeld => ?_)
          clear hK K hHeld
          try simp only [List.getElem_toArray, List.getElem_cons_zero, List.getElem_cons_succ, Act.put, List.setIfInBounds_toArray, List.set_cons_zero, List.set_cons_succ]
          refine wpAnyH_ready (rs := [6]) (by kernel_rfl) (by simp) ?_
          refine AllReadyH.cons rfl (fun K hK => ?_) AllReadyH.nil
          refine step_app_strsR rfl _ _ rfl (.slice (some ⟨g_4, 0, none⟩) ka c_4) ([] ++ PA.keys) PB.keys g_4 (some ⟨b1, o1, none⟩) kb g1 mk (HKB.out) (HN2.out) rfl rfl R4_103.out (EB8.out.keys.turn T4.out) KKB.out.1 HG2.out ?_
          intro g_5 c_5 X5 hg hr hc ht
          have hw : w8.heap.size ≤ g_4 := by omega
          have T5 := Lib.hid (T4.out.trans_new (S := fun _ => False) ht (fun k hk e => by omega))
          have hH5 := T5.out
          have hz5 := ht.size
          have hp := R4_103.out.lt
          have hy5 := T4.out.size
          have hv5 : w8.heap.size ≤ g_5 := by omega
          have hl5_107 := R4_107.out.lt
          have hm5_13 := B4_13.out.lt
          have R5_107 := Lib.hid (R4_107.out.turn ht (by omega))
          have B5_13 := Lib.hid (B4_13.out.turn ht (by omega))
          have hq5_107 : ¬ X2.heap.size = g_5 := by omega
          have hr5_13 : ¬ X1.heap.size = g_5 := by omega
          have R5_106 := Lib.hid hr
          have P5_106 := Lib.hid hc
          clear T4 hH4 R4_107 R4_103 B4_13 hr hc ht hg hp hw
          refine hK.out _ _ hH5 (fun hHeld => ?_)
          clear hK K hHeld
          try simp only [List.getElem_toArray, List.getElem_cons_zero, List.getElem_cons_succ, Act.put, List.setIfInBounds_toArray, List.set_cons_zero, List.set_cons_succ]
          refine wpAnyH_ready (rs := [10]) (by kernel_rfl) (by simp) ?_
          refine AllReadyH.cons rfl (fun K hK => ?_) AllReadyH.nil
          refine step_app_strsR rfl _ _ rfl (.slice (some ⟨X2.heap.size, 0, none⟩) 0 0) [] PA.vals X2.heap.size E2 va f2 va (HVA.out) (HN3.out) rfl rfl R5_107.out (EA8.out.vals.turn T5.out) KKA.out.2 HG3.out ?_
          intro g_6 c_6 X6 hg hr hc ht
          have hw : w8.heap.size ≤ X2.heap.size := by omega
          have T6 := Lib.hid (T5.out.trans_new (S := fun _ => False) ht (fun k hk e => by omega))
          have hH6 := T6.out
          have hz6 := ht.size
          have hp := R5_107.out.lt
          have hy6 := T5.out.size
          have hv6 : w8.heap.size ≤ g_6 := by omega
          have hl6_106 := R5_106.out.lt
          have hm6_13 := B5_13.out.lt
          have R6_106 := Lib.hid (R5_106.out.turn ht (by omega))
          have B6_13 := Lib.hid (B5_13.out.turn ht (by omega))
          have hq6_106 : ¬ g_5 = g_6 := by omega
          have hr6_13 : ¬ X1.heap.size = g_6 := by omega
          have R6_110 := Lib.hid hr
          have P6_110 := Lib.hid hc
          clear T5 hH5 R5_107 R5_106 B5_13 hr hc ht hg hp hw
          refine hK.out _ _ hH6 (fun hHeld => ?_)
          clear hK K hHeld
          try simp only [List.getElem_toArray, List.getElem_cons_zero, List.getElem_cons_succ, Act.put, List.setIfInBounds_toArray, List.set_cons_zero, List.set_cons_succ]
          refine wpAnyH_ready (rs := [13]) (by kernel_rfl) (by simp) ?_
          refine AllReadyH.cons rfl (fun K hK => ?_) AllReadyH.nil
          refine step_app_strsR rfl _ _ rfl (.slice (some ⟨g_6, 0, none⟩) va c_6) ([] ++ PA.vals) PB.vals g_6 G2 vb g2 mv (HVB.out) (HN4.out) rfl rfl R6_110.out (EB8.out.vals.turn T6.out) KKB.out.2 HG4.out ?_
          intro g_7 c_7 X7 hg hr hc ht
          have hw : w8.heap.size ≤ g_6 := by omega
          have T7 := Lib.hid (T6.out.trans_new (S := fun _ => False) ht (fun k hk e => by omega))
          have hH7 := T7.out
          have hz7 := ht.size
          have hp := R6_110.out.lt
          have hy7 := T6.out.size
          have hv7 : w8.heap.size ≤ g_7 := by omega
          have hl7_106 := R6_106.out.lt
          have hm7_13 := B6_13.out.lt
          have R7_106 := Lib.hid (R6_106.out.turn ht (by omega))
          have B7_13 := Lib.hid (B6_13.out.turn ht (by omega))
          have hq7_106 : ¬ g_5 = g_7 := by omega
          have hr7_13 : ¬ X1.heap.size = g_7 := by omega
          have R7_113 := Lib.hid hr
          have P7_113 := Lib.hid hc
          clear T6 hH6 R6_106 R6_110 B6_13 hr hc ht hg hp hw
          refine hK.out _ _ hH7 (fun hHeld => ?_)
          clear hK K hHeld
          try simp only [List.getElem_toArray, List.getElem_cons_zero, List.getElem_cons_succ, Act.put, List.setIfInBounds_toArray, List.set_cons_zero, List.set_cons_succ]
          refine wpAnyH_take (i := 14) (v := ?_) rfl (by kernel_rfl) (by kernel_rfl) (by kernel_rfl) (fun _ _ _ h => h) (Or.inl ⟨by rfl, ?_⟩) (by assumption) ?_
          rotate_left 1
          · intro w' hSw
            go_simp
            all_goals first | with_reducible rfl | (rw [if_neg (by omega)]; done) | (rw [if_pos (by omega)]; done) | (rw [if_neg (by omega)]; with_reducible rfl) | (rw [if_pos (by omega)]; with_reducible rfl)
          try simp only [List.getElem_toArray, List.getElem_cons_zero, List.getElem_cons_succ, Act.put, List.setIfInBounds_toArray, List.set_cons_zero, List.set_cons_succ]
          refine wpAnyH_ready (rs := [16]) (by kernel_rfl) (by simp) ?_
          refine AllReadyH.cons rfl (fun K hK => ?_) AllReadyH.nil
          have r0 := B7_13.out.cell 0
          have f0 := B7_13.out.free 0
          have r1 := B7_13.out.cell 1
          have f1 := B7_13.out.free 1
          have r2 := B7_13.out.cell 2
          have f2 := B7_13.out.free 2
          have r3 := B7_13.out.cell 3
          have f3 := B7_13.out.free 3
          simp only [List.getElem?_cons_zero, List.getElem?_cons_succ] at r0 r1 r2 r3
          obtain ⟨hb, hs⟩ := put4 B7_13.out (.bool true) (.slice (some ⟨g_5, 0, none⟩) mk c_5) (.slice (some ⟨g_7, 0, none⟩) mv c_7) (.slice none 0 0)
          have hx := T7.out.size
          have hS := T7.out.trans_new (S := fun _ => False) hs (fun k hk e => by omega)
          go_simp
          refine hK.out _ _ hS (fun hHeld => ?_)
          clear hK K
          try simp only [List.getElem_toArray, List.getElem_cons_zero, List.getElem_cons_succ, Act.put, List.setIfInBounds_toArray, List.set_cons_zero, List.set_cons_succ]
          refine wpAnyH_named (fun X8 e => ?_)
          clear hHeld
          have T8 := Lib.hid (e ▸ hS)
          have hH8 := T8.out
          have B8_13 := Lib.hid (e ▸ hb)
          rw [← e] at hs
          have R8_106 := Lib.hid (R7_106.out.turn hs (by omega))
          have R8_113 := Lib.hid (R7_113.out.turn hs (by omega))
          clear T7 hH7 R7_106 R7_113 B7_13 r0 f0 r1 f1 r2 f2 r3 f3 hS hb hs e
          refine wpAnyH_done (by kernel_rfl) ?_ _
          refine NoPanic.normal ?_
          go_wp2_with fail
          go_meet
          exact ⟨X1.heap.size, g_5, g_7, c_5, c_7, rfl, B8_13.out, R8_106.out, R8_113.out, T8.out⟩
    · go_simp
      refine hK.out _ _ (T0.out.alloc _) (fun hHeld => ?_)
      clear hK K
      try simp only [List.getElem_toArray, List.getElem_cons_zero, List.getElem_cons_succ, Act.put, List.setIfInBounds_toArray, List.set_cons_zero, List.set_cons_succ]
      refine wpAnyH_named (fun X1 e => ?_)
      clear hHeld
      have T1 := Lib.hid (T0.out.al e)
      have hH1 := T1.out
      have hz1 := size_al e
      have hy1 := T0.out.size
      have R1_107 := Lib.hid (Ro.empS e)
      clear T0 hH0 e
      refine wpAnyH_ready (rs := [0, 15]) (by kernel_rfl) (by simp) ?_
      refine AllReadyH.cons rfl (fun K hK => ?_) (AllReadyH.cons rfl (fun K hK => ?_) AllReadyH.nil)
      · go_simp
        refine hK.out _ _ (T1.out.alloc _) (fun hHeld => ?_)
        clear hK K
        try simp only [List.getElem_toArray, List.getElem_cons_zero, List.getElem_cons_succ, Act.put, List.setIfInBounds_toArray, List.set_cons_zero, List.set_cons_succ]
        refine wpAnyH_named (fun X2 e => ?_)
        clear hHeld
        have T2 := Lib.hid (T1.out.al e)
        have hH2 := T2.out
        have hz2 := size_al e
        have hy2 := T1.out.size
        have R2_107 := Lib.hid (R1_107.out.al e)
        have hl2_107 := R1_107.out.lt
        have R2_100 := Lib.hid (Ro.empS e)
        clear T1 hH1 R1_107 e
        refine wpAnyH_ready (rs := [3, 15]) (by kernel_rfl) (by simp) ?_
        refine AllReadyH.cons rfl (fun K hK => ?_) (AllReadyH.cons rfl (fun K hK => ?_) AllReadyH.nil)
        · refine step_app_strsR rfl _ _ rfl (.slice (some ⟨X1.heap.size, 0, none⟩) 0 0) [] PA.keys X1.heap.size E1 ka f1 ka (HKA.out) (HN1.out) rfl rfl R2_100.out (EA8.out.keys.turn T2.out) KKA.out.1 HG1.out ?_
          intro g_3 c_3 X3 hg hr hc ht
          have hw : w8.heap.size ≤ X1.heap.size := by omega
          have T3 := Lib.hid (T2.out.trans_new (S := fun _ => False) ht (fun k hk e => by omega))
          have hH3 := T3.out
          have hz3 := ht.size
          have hp := R2_100.out.lt
          have hy3 := T2.out.size
          have hv3 : w8.heap.size ≤ g_3 := by omega
          have hl3_107 := R2_107.out.lt
          have R3_107 := Lib.hid (R2_107.out.turn ht (by omega))
          have hq3_107 : ¬ X0.heap.size = g_3 := by omega
          have R3_103 := Lib.hid hr
          have P3_103 := Lib.hid hc
          clear T2 hH2 R2_107 R2_100 hr hc ht hg hp hw
          refine hK.out _ _ hH3 (fun hHeld => ?_)
          clear hK K hHeld
          try simp only [List.getElem_toArray, List.getElem_cons_zero, List.getElem_cons_succ, Act.put, List.setIfInBounds_toArray, List.set_cons_zero, List.set_cons_succ]
          refine wpAnyH_ready (rs := [6, 15]) (by kernel_rfl) (by simp) ?_
          refine AllReadyH.cons rfl (fun K hK => ?_) (AllReadyH.cons rfl (fun K hK => ?_) AllReadyH.nil)
          · refine step_app_strsR rfl _ _ rfl (.slice (some ⟨g_3, 0, none⟩) ka c_3) ([] ++ PA.keys) PB.keys g_3 (some ⟨b1, o1, none⟩) kb g1 mk (HKB.out) (HN2.out) rfl rfl R3_103.out (EB8.out.keys.turn T3.out) KKB.out.1 HG2.out ?_
            intro g_4 c_4 X4 hg hr hc ht
            have hw : w8.heap.size ≤ g_3 := by omega
            have T4 := Lib.hid (T3.out.trans_new (S := fun _ => False) ht (fun k hk e => by omega))
            have hH4 := T4.out
            have hz4 := ht.size
            have hp := R3_103.out.lt
            have hy4 := T3.out.size
            have hv4 : w8.heap.size ≤ g_4 := by omega
            have hl4_107 := R3_107.out.lt
            have R4_107 := Lib.hid (R3_107.out.turn ht (by omega))
            have hq4_107 : ¬ X0.heap.size = g_4 := by omega
            have R4_106 := Lib.hid hr
            have P4_106 := Lib.hid hc
            clear T3 hH3 R3_107 R3_103 hr hc ht hg hp hw
            refine hK.out _ _ hH4 (fun hHeld => ?_)
            clear hK K hHeld
            try simp only [List.getElem_toArray, List.getElem_cons_zero, List.getElem_cons_succ, Act.put, List.setIfInBounds_toArray, List.set_cons_zero, List.set_cons_succ]
            refine wpAnyH_ready (rs := [10, 15]) (by kernel_rfl) (by simp) ?_
            refine AllReadyH.cons rfl (fun K hK => ?_) (AllReadyH.cons rfl (fun K hK => ?_) AllReadyH.nil)
            · refine step_app_strsR rfl _ _ rfl (.slice (some ⟨X0.heap.size, 0, none⟩) 0 0) [] PA.vals X0.heap.size E2 va f2 va (HVA.out) (HN3.out) rfl rfl R4_107.out (EA8.out.vals.turn T4.out) KKA.out.2 HG3.out ?_
              intro g_5 c_5 X5 hg hr hc ht
              have hw : w8.heap.size ≤ X0.heap.size := by omega
              have T5 := Lib.hid (T4.out.trans_new (S := fun _ => False) ht (fun k hk e => by omega))
              have hH5 := T5.out
              have hz5 := ht.size
              have hp := R4_107.out.lt
              have hy5 := T4.out.size
              have hv5 : w8.heap.size ≤ g_5 := by omega
              have hl5_106 := R4_106.out.lt
              have R5_106 := Lib.hid (R4_106.out.turn ht (by omega))
              have hq5_106 : ¬ g_4 = g_5 := by omega
              have R5_110 := Lib.hid hr
              have P5_110 := Lib.hid hc
              clear T4 hH4 R4_107 R4_106 hr hc ht hg hp hw
              refine hK.out _ _ hH5 (fun hHeld => ?_)
              clear hK K hHeld
              try simp only [List.getElem_toArray, List.getElem_cons_zero, List.getElem_cons_succ, Act.put, List.setIfInBounds_toArray, List.set_cons_zero, List.set_cons_succ]
              refine wpAnyH_ready (rs := [13, 15]) (by kernel_rfl) (by simp) ?_
              refine AllReadyH.cons rfl (fun K hK => ?_) (AllReadyH.cons rfl (fun K hK => ?_) AllReadyH.nil)
              · refine step_app_strsR rfl _ _ rfl (.slice (some ⟨g_5, 0, none⟩) va c_5) ([] ++ PA.vals) PB.vals g_5 G2 vb g2 mv (HVB.out) (HN4.out) rfl rfl R5_110.out (EB8.out.vals.turn T5.out) KKB.out.2 HG4.out ?_
                intro g_6 c_6 X6 hg hr hc ht
                have hw : w8.heap.size ≤ g_5 := by omega
                have T6 := Lib.hid (T5.out.trans_new (S := fun _ => False) ht (fun k hk e => by omega))
                have hH6 := T6.out
                have hz6 := ht.size
                have hp := R5_110.out.lt
                have hy6 := T5.out.size
                have hv6 : w8.heap.size ≤ g_6 := by omega
                have hl6_106 := R5_106.out.lt
                have R6_106 := Lib.hid (R5_106.out.turn ht (by omega))
                have hq6_106 : ¬ g_4 = g_6 := by omega
                have R6_113 := Lib.hid hr
                have P6_113 := Lib.hid hc
                clear T5 hH5 R5_106 R5_110 hr hc ht hg hp hw
                refine hK.out _ _ hH6 (fun hHeld => ?_)
                clear hK K hHeld
                try simp only [List.getElem_toArray, List.getElem_cons_zero, List.getElem_cons_succ, Act.put, List.setIfInBounds_toArray, List.set_cons_zero, List.set_cons_succ]
                refine wpAnyH_take (i := 14) (v := ?_) rfl (by kernel_rfl) (by kernel_rfl) (by kernel_rfl) (fun _ _ _ h => h) (Or.inl ⟨by rfl, ?_⟩) (by assumption) ?_
                rotate_left 1
                · intro w' hSw
                  go_simp
                  all_goals first | with_reducible rfl | (rw [if_neg (by omega)]; done) | (rw [if_pos (by omega)]; done) | (rw [if_neg (by omega)]; with_reducible rfl) | (rw [if_pos (by omega)]; with_reducible rfl)
                try simp only [List.getElem_toArray, List.getElem_cons_zero, List.getElem_cons_succ, Act.put, List.setIfInBounds_toArray, List.set_cons_zero, List.set_cons_succ]
                refine wpAnyH_ready (rs := [15]) (by kernel_rfl) (by simp) ?_
                refine AllReadyH.cons rfl (fun K hK => ?_) AllReadyH.nil
                go_simp
                refine hK.out _ _ (T6.out.alloc _) (fun hHeld => ?_)
                clear hK K
                try simp only [List.getElem_toArray, List.getElem_cons_zero, List.getElem_cons_succ, Act.put, List.setIfInBounds_toArray, List.set_cons_zero, List.set_cons_succ]
                refine wpAnyH_named (fun X7 e => ?_)
                clear hHeld
                have T7 := Lib.hid (T6.out.al e)
                have hH7 := T7.out
                have hz7 := size_al e
                have hy7 := T6.out.size
                have R7_106 := Lib.hid (R6_106.out.al e)
                have R7_113 := Lib.hid (R6_113.out.al e)
                have hl7_106 := R6_106.out.lt
                have hl7_113 := R6_113.out.lt
                have B7_13 := Lib.hid (Blk.nw (cs := [.bool false, .slice none 0 0, .slice none 0 0, .slice none 0 0]) e)
                clear T6 hH6 R6_106 R6_113 e
                refine wpAnyH_ready (rs := [16]) (by kernel_rfl) (by simp) ?_
                refine AllReadyH.cons rfl (fun K hK => ?_) AllReadyH.nil
                have r0 := B7_13.out.cell 0
                have f0 := B7_13.out.free 0
                have r1 := B7_13.out.cell 1
                have f1 := B7_13.out.free 1
                have r2 := B7_13.out.cell 2
                have f2 := B7_13.out.free 2
                have r3 := B7_13.out.cell 3
                have f3 := B7_13.out.free 3
                simp only [List.getElem?_cons_zero, List.getElem?_cons_succ] at r0 r1 r2 r3
                obtain ⟨hb, hs⟩ := put4 B7_13.out (.bool true) (.slice (some ⟨g_4, 0, none⟩) mk c_4) (.slice (some ⟨g_6, 0, none⟩) mv c_6) (.slice none 0 0)
                have hx := T7.out.size
                have hS := T7.out.trans_new (S := fun _ => False) hs (fun k hk e => by omega)
                go_simp
                refine hK.out _ _ hS (fun hHeld => ?_)
                clear hK K
                try simp only [List.getElem_toArray, List.getElem_cons_zero, List.getElem_cons_succ, Act.put, List.setIfInBounds_toArray, List.set_cons_zero, List.set_cons_succ]
                refine wpAnyH_named (fun X8 e => ?_)
                clear hHeld
                have T8 := Lib.hid (e ▸ hS)
                have hH8 := T8.out
                have B8_13 := Lib.hid (e ▸ hb)
                rw [← e] at hs
                have R8_106 := Lib.hid (R7_106.out.turn hs (by omega))
                have R8_113 := Lib.hid (R7_113.out.turn hs (by omega))
                clear T7 hH7 R7_106 R7_113 B7_13 r0 f0 r1 f1 r2 f2 r3 f3 hS hb hs e
                refine wpAnyH_done (by kernel_rfl) ?_ _
                refine NoPanic.normal ?_
                go_wp2_with fail
                go_meet
                exact ⟨X6.heap.size, g_4, g_6, c_4, c_6, rfl, B8_13.out, R8_106.out, R8_113.out, T8.out⟩
              · go_simp
                refine hK.out _ _ (T5.out.alloc _) (fun hHeld => ?_)
                clear hK K
                try simp only [List.getElem_toArray, List.getElem_cons_zero, List.getElem_cons_succ, Act.put, List.setIfInBounds_toArray, List.set_cons_zero, List.set_cons_succ]
                refine wpAnyH_named (fun X6 e => ?_)
                clear hHeld
                have T6 := Lib.hid (T5.out.al e)
                have hH6 := T6.out
                have hz6 := size_al e
                have hy6 := T5.out.size
                have R6_106 := Lib.hid (R5_106.out.al e)
                have R6_110 := Lib.hid (R5_110.out.al e)
                have hl6_106 := R5_106.out.lt
                have hl6_110 := R5_110.out.lt
                have B6_13 := Lib.hid (Blk.nw (cs := [.bool false, .slice none 0 0, .slice none 0 0, .slice none 0 0]) e)
                clear T5 hH5 R5_106 R5_110 e
                refine wpAnyH_ready (rs := [13]) (by kernel_rfl) (by simp) ?_
                refine AllReadyH.cons rfl (fun K hK => ?_) AllReadyH.nil
                refine step_app_strsR rfl _ _ rfl (.slice (some ⟨g_5, 0, none⟩) va c_5) ([] ++ PA.vals) PB.vals g_5 G2 vb g2 mv (HVB.out) (HN4.out) rfl rfl R6_110.out (EB8.out.vals.turn T6.out) KKB.out.2 HG4.out ?_
                intro g_7 c_7 X7 hg hr hc ht
                have hw : w8.heap.size ≤ g_5 := by omega
                have T7 := Lib.hid (T6.out.trans_new (S := fun _ => False) ht (fun k hk e => by omega))
                have hH7 := T7.out
                have hz7 := ht.size
                have hp := R6_110.out.lt
                have hy7 := T6.out.size
                have hv7 : w8.heap.size ≤ g_7 := by omega
                have hl7_106 := R6_106.out.lt
                have hm7_13 := B6_13.out.lt
                have R7_106 := Lib.hid (R6_106.out.turn ht (by omega))
                have B7_13 := Lib.hid (B6_13.out.turn ht (by omega))
                have hq7_106 : ¬ g_4 = g_7 := by omega
                have hr7_13 : ¬ X5.heap.size = g_7 := by omega
                have R7_113 := Lib.hid hr
                have P7_113 := Lib.hid hc
                clear T6 hH6 R6_106 R6_110 B6_13 hr hc ht hg hp hw
                refine hK.out _ _ hH7 (fun hHeld => ?_)
                clear hK K hHeld
                try simp only [List.getElem_toArray, List.getElem_cons_zero, List.getElem_cons_succ, Act.put, List.setIfInBounds_toArray, List.set_cons_zero, List.set_cons_succ]
                refine wpAnyH_take (i := 14) (v := ?_) rfl (by kernel_rfl) (by kernel_rfl) (by kernel_rfl) (fun _ _ _ h => h) (Or.inl ⟨by rfl, ?_⟩) (by assumption) ?_
                rotate_left 1
                · intro w' hSw
                  go_simp
                  all_goals first | with_reducible rfl | (rw [if_neg (by omega)]; done) | (rw [if_pos (by omega)]; done) | (rw [if_neg (by omega)]; with_reducible rfl) | (rw [if_pos (by omega)]; with_reducible rfl)
                try simp only [List.getElem_toArray, List.getElem_cons_zero, List.getElem_cons_succ, Act.put, List.setIfInBounds_toArray, List.set_cons_zero, List.set_cons_succ]
                refine wpAnyH_ready (rs := [16]) (by kernel_rfl) (by simp) ?_
                refine AllReadyH.cons rfl (fun K hK => ?_) AllReadyH.nil
                have r0 := B7_13.out.cell 0
                have f0 := B7_13.out.free 0
                have r1 := B7_13.out.cell 1
                have f1 := B7_13.out.free 1
                have r2 := B7_13.out.cell 2
                have f2 := B7_13.out.free 2
                have r3 := B7_13.out.cell 3
                have f3 := B7_13.out.free 3
                simp only [List.getElem?_cons_zero, List.getElem?_cons_succ] at r0 r1 r2 r3
                obtain ⟨hb, hs⟩ := put4 B7_13.out (.bool true) (.slice (some ⟨g_4, 0, none⟩) mk c_4) (.slice (some ⟨g_7, 0, none⟩) mv c_7) (.slice none 0 0)
                have hx := T7.out.size
                have hS := T7.out.trans_new (S := fun _ => False) hs (fun k hk e => by omega)
                go_simp
                refine hK.out _ _ hS (fun hHeld => ?_)
                clear hK K
                try simp only [List.getElem_toArray, List.getElem_cons_zero, List.getElem_cons_succ, Act.put, List.setIfInBounds_toArray, List.set_cons_zero, List.set_cons_succ]
                refine wpAnyH_named (fun X8 e => ?_)
                clear hHeld
                have T8 := Lib.hid (e ▸ hS)
                have hH8 := T8.out
                have B8_13 := Lib.hid (e ▸ hb)
                rw [← e] at hs
                have R8_106 := Lib.hid (R7_106.out.turn hs (by omega))
                have R8_113 := Lib.hid (R7_113.out.turn hs (by omega))
                clear T7 hH7 R7_106 R7_113 B7_13 r0 f0 r1 f1 r2 f2 r3 f3 hS hb hs e
                refine wpAnyH_done (by kernel_rfl) ?_ _
                refine NoPanic.normal ?_
                go_wp2_with fail
                go_meet
                exact ⟨X5.heap.size, g_4, g_7, c_4, c_7, rfl, B8_13.out, R8_106.out, R8_113.out, T8.out⟩
            · go_simp
              refine hK.out _ _ (T4.out.alloc _) (fun hHeld => ?_)
              clear hK K
              try simp only [List.getElem_toArray, List.getElem_cons_zero, List.getElem_cons_succ, Act.put, List.setIfInBounds_toArray, List.set_cons_zero, List.set_cons_succ]
              refine wpAnyH_named (fun X5 e => ?_)
              clear hHeld
              have T5 := Lib.hid (T4.out.al e)
              have hH5 := T5.out
              have hz5 := size_al e
              have hy5 := T4.out.size
              have R5_107 := Lib.hid (R4_107.out.al e)
              have R5_106 := Lib.hid (R4_106.out.al e)
              have hl5_107 := R4_107.out.lt
              have hl5_106 := R4_106.out.lt
              have B5_13 := Lib.hid (Blk.nw (cs := [.bool false, .slice none 0 0, .slice none 0 0, .slice none 0 0]) e)
              clear T4 hH4 R4_107 R4_106 e
              refine wpAnyH_ready (rs := [10]) (by kernel_rfl) (by simp) ?_
              refine AllReadyH.cons rfl (fun K hK => ?_) AllReadyH.nil
              refine step_app_strsR rfl _ _ rfl (.slice (some ⟨X0.heap.size, 0, none⟩) 0 0) [] PA.vals X0.heap.size E2 va f2 va (HVA.out) (HN3.out) rfl rfl R5_107.out (EA8.out.vals.turn T5.out) KKA.out.2 HG3.out ?_
              intro g_6 c_6 X6 hg hr hc ht
              have hw : w8.heap.size ≤ X0.heap.size := by omega
              have T6 := Lib.hid (T5.out.trans_new (S := fun _ => False) ht (fun k hk e => by omega))
              have hH6 := T6.out
              have hz6 := ht.size
              have hp := R5_107.out.lt
              have hy6 := T5.out.size
              have hv6 : w8.heap.size ≤ g_6 := by omega
              have hl6_106 := R5_106.out.lt
              have hm6_13 := B5_13.out.lt
              have R6_106 := Lib.hid (R5_106.out.turn ht (by omega))
              have B6_13 := Lib.hid (B5_13.out.turn ht (by omega))
              have hq6_106 : ¬ g_4 = g_6 := by omega
              have hr6_13 : ¬ X4.heap.size = g_6 := by omega
              have R6_110 := Lib.hid hr
              have P6_110 := Lib.hid hc
              clear T5 hH5 R5_107 R5_106 B5_13 hr hc ht hg hp hw
              refine hK.out _ _ hH6 (fun hHeld => ?_)
              clear hK K hHeld
              try simp only [List.getElem_toArray, List.getElem_cons_zero, List.getElem_cons_succ, Act.put, List.setIfInBounds_toArray, List.set_cons_zero, List.set_cons_succ]
              refine wpAnyH_ready (rs := [13]) (by kernel_rfl) (by simp) ?_
              refine AllReadyH.cons rfl (fun K hK => ?_) AllReadyH.nil
              refine step_app_strsR rfl _ _ rfl (.slice (some ⟨g_6, 0, none⟩) va c_6) ([] ++ PA.vals) PB.vals g_6 G2 vb g2 mv (HVB.out) (HN4.out) rfl rfl R6_110.out (EB8.out.vals.turn T6.out) KKB.out.2 HG4.out ?_
              intro g_7 c_7 X7 hg hr hc ht
              have hw : w8.heap.size ≤ g_6 := by omega
              have T7 := Lib.hid (T6.out.trans_new (S := fun _ => False) ht (fun k hk e => by omega))
              have hH7 := T7.out
              have hz7 := ht.size
              have hp := R6_110.out.lt
              have hy7 := T6.out.size
              have hv7 : w8.heap.size ≤ g_7 := by omega
              have hl7_106 := R6_106.out.lt
              have hm7_13 := B6_13.out.lt
              have R7_106 := Lib.hid (R6_106.out.turn ht (by omega))
              have B7_13 := Lib.hid (B6_13.out.turn ht (by omega))
              have hq7_106 : ¬ g_4 = g_7 := by omega
              have hr7_13 : ¬ X4.heap.size = g_7 := by omega
              have R7_113 := Lib.hid hr
              have P7_113 := Lib.hid hc
              clear T6 hH6 R6_106 R6_110 B6_13 hr hc ht hg hp hw
              refine hK.out _ _ hH7 (fun hHeld => ?_)
              clear hK K hHeld
              try simp only [List.getElem_toArray, List.getElem_cons_zero, List.getElem_cons_succ, Act.put, List.setIfInBounds_toArray, List.set_cons_zero, List.set_cons_succ]
              refine wpAnyH_take (i := 14) (v := ?_) rfl (by kernel_rfl) (by kernel_rfl) (by kernel_rfl) (fun _ _ _ h => h) (Or.inl ⟨by rfl, ?_⟩) (by assumption) ?_
              rotate_left 1
              · intro w' hSw
                go_simp
                all_goals first | with_reducible rfl | (rw [if_neg (by omega)]; done) | (rw [if_pos (by omega)]; done) | (rw [if_neg (by omega)]; with_reducible rfl) | (rw [if_pos (by omega)]; with_reducible rfl)
              try simp only [List.getElem_toArray, List.getElem_cons_zero, List.getElem_cons_succ, Act.put, List.setIfInBounds_toArray, List.set_cons_zero, List.set_cons_succ]
              refine wpAnyH_ready (rs := [16]) (by kernel_rfl) (by simp) ?_
              refine AllReadyH.cons rfl (fun K hK => ?_) AllReadyH.nil
              have r0 := B7_13.out.cell 0
              have f0 := B7_13.out.free 0
              have r1 := B7_13.out.cell 1
              have f1 := B7_13.out.free 1
              have r2 := B7_13.out.cell 2
              have f2 := B7_13.out.free 2
              have r3 := B7_13.out.cell 3
              have f3 := B7_13.out.free 3
              simp only [List.getElem?_cons_zero, List.getElem?_cons_succ] at r0 r1 r2 r3
              obtain ⟨hb, hs⟩ := put4 B7_13.out (.bool true) (.slice (some ⟨g_4, 0, none⟩) mk c_4) (.slice (some ⟨g_7, 0, none⟩) mv c_7) (.slice none 0 0)
              have hx := T7.out.size
              have hS := T7.out.trans_new (S := fun _ => False) hs (fun k hk e => by omega)
              go_simp
              refine hK.out _ _ hS (fun hHeld => ?_)
              clear hK K
              try simp only [List.getElem_toArray, List.getElem_cons_zero, List.getElem_cons_succ, Act.put, List.setIfInBounds_toArray, List.set_cons_zero, List.set_cons_succ]
              refine wpAnyH_named (fun X8 e => ?_)
              clear hHeld
              have T8 := Lib.hid (e ▸ hS)
              have hH8 := T8.out
              have B8_13 := Lib.hid (e ▸ hb)
              rw [← e] at hs
              have R8_106 := Lib.hid (R7_106.out.turn hs (by omega))
              have R8_113 := Lib.hid (R7_113.out.turn hs (by omega))
              clear T7 hH7 R7_106 R7_113 B7_13 r0 f0 r1 f1 r2 f2 r3 f3 hS hb hs e
              refine wpAnyH_done (by kernel_rfl) ?_ _
              refine NoPanic.normal ?_
              go_wp2_with fail
              go_meet
              exact ⟨X4.heap.size, g_4, g_7, c_4, c_7, rfl, B8_13.out, R8_106.out, R8_113.out, T8.out⟩
          · go_simp
            refine hK.out _ _ (T3.out.alloc _) (fun hHeld => ?_)
            clear hK K
            try simp only [List.getElem_toArray, List.getElem_cons_zero, List.getElem_cons_succ, Act.put, List.setIfInBounds_toArray, List.set_cons_zero, List.set_cons_succ]
            refine wpAnyH_named (fun X4 e => ?_)
            clear hHeld
            have T4 := Lib.hid (T3.out.al e)
            have hH4 := T4.out
            have hz4 := size_al e
            have hy4 := T3.out.size
            have R4_107 := Lib.hid (R3_107.out.al e)
            have R4_103 := Lib.hid (R3_103.out.al e)
            have hl4_107 := R3_107.out.lt
            have hl4_103 := R3_103.out.lt
            have B4_13 := Lib.hid (Blk.nw (cs := [.bool false, .slice none 0 0, .slice none 0 0, .slice none 0 0]) e)
            clear T3 hH3 R3_107 R3_103 e
            refine wpAnyH_ready (rs := [6]) (by kernel_rfl) (by simp) ?_
            refine AllReadyH.cons rfl (fun K hK => ?_) AllReadyH.nil
            refine step_app_strsR rfl _ _ rfl (.slice (some ⟨g_3, 0, none⟩) ka c_3) ([] ++ PA.keys) PB.keys g_3 (some ⟨b1, o1, none⟩) kb g1 mk (HKB.out) (HN2.out) rfl rfl R4_103.out (EB8.out.keys.turn T4.out) KKB.out.1 HG2.out ?_
            intro g_5 c_5 X5 hg hr hc ht
            have hw : w8.heap.size ≤ g_3 := by omega
            have T5 := Lib.hid (T4.out.trans_new (S := fun _ => False) ht (fun k hk e => by omega))
            have hH5 := T5.out
            have hz5 := ht.size
            have hp := R4_103.out.lt
            have hy5 := T4.out.size
            have hv5 : w8.heap.size ≤ g_5 := by omega
            have hl5_107 := R4_107.out.lt
            have hm5_13 := B4_13.out.lt
            have R5_107 := Lib.hid (R4_107.out.turn ht (by omega))
            have B5_13 := Lib.hid (B4_13.out.turn ht (by omega))
            have hq5_107 : ¬ X0.heap.size = g_5 := by omega
            have hr5_13 : ¬ X3.heap.size = g_5 := by omega
            have R5_106 := Lib.hid hr
            have P5_106 := Lib.hid hc
            clear T4 hH4 R4_107 R4_103 B4_13 hr hc ht hg hp hw
            refine hK.out _ _ hH5 (fun hHeld => ?_)
            clear hK K hHeld
            try simp only [List.getElem_toArray, List.getElem_cons_zero, List.getElem_cons_succ, Act.put, List.setIfInBounds_toArray, List.set_cons_zero, List.set_cons_succ]
            refine wpAnyH_ready (rs := [10]) (by kernel_rfl) (by simp) ?_
            refine AllReadyH.cons rfl (fun K hK => ?_) AllReadyH.nil
            refine step_app_strsR rfl _ _ rfl (.slice (some ⟨X0.heap.size, 0, none⟩) 0 0) [] PA.vals X0.heap.size E2 va f2 va (HVA.out) (HN3.out) rfl rfl R5_107.out (EA8.out.vals.turn T5.out) KKA.out.2 HG3.out ?_
            intro g_6 c_6 X6 hg hr hc ht
            have hw : w8.heap.size ≤ X0.heap.size := by omega
            have T6 := Lib.hid (T5.out.trans_new (S := fun _ => False) ht (fun k hk e => by omega))
            have hH6 := T6.out
            have hz6 := ht.size
            have hp := R5_107.out.lt
            have hy6 := T5.out.size
            have hv6 : w8.heap.size ≤ g_6 := by omega
            have hl6_106 := R5_106.out.lt
            have hm6_13 := B5_13.out.lt
            have R6_106 := Lib.hid (R5_106.out.turn ht (by omega))
            have B6_13 := Lib.hid (B5_13.out.turn ht (by omega))
            have hq6_106 : ¬ g_5 = g_6 := by omega
            have hr6_13 : ¬ X3.heap.size = g_6 := by omega
            have R6_110 := Lib.hid hr
            have P6_110 := Lib.hid hc
            clear T5 hH5 R5_107 R5_106 B5_13 hr hc ht hg hp hw
            refine hK.out _ _ hH6 (fun hHeld => ?_)
            clear hK K hHeld
            try simp only [List.getElem_toArray, List.getElem_cons_zero, List.getElem_cons_succ, Act.put, List.setIfInBounds_toArray, List.set_cons_zero, List.set_cons_succ]
            refine wpAnyH_ready (rs := [13]) (by kernel_rfl) (by simp) ?_
            refine AllReadyH.cons rfl (fun K hK => ?_) AllReadyH.nil
            refine step_app_strsR rfl _ _ rfl (.slice (some ⟨g_6, 0, none⟩) va c_6) ([] ++ PA.vals) PB.vals g_6 G2 vb g2 mv (HVB.out) (HN4.out) rfl rfl R6_110.out (EB8.out.vals.turn T6.out) KKB.out.2 HG4.out ?_
            intro g_7 c_7 X7 hg hr hc ht
            have hw : w8.heap.size ≤ g_6 := by omega
            have T7 := Lib.hid (T6.out.trans_new (S := fun _ => False) ht (fun k hk e => by omega))
            have hH7 := T7.out
            have hz7 := ht.size
            have hp := R6_110.out.lt
            have hy7 := T6.out.size
            have hv7 : w8.heap.size ≤ g_7 := by omega
            have hl7_106 := R6_106.out.lt
            have hm7_13 := B6_13.out.lt
            have R7_106 := Lib.hid (R6_106.out.turn ht (by omega))
            have B7_13 := Lib.hid (B6_13.out.turn ht (by omega))
            have hq7_106 : ¬ g_5 = g_7 := by omega
            have hr7_13 : ¬ X3.heap.size = g_7 := by omega
            have R7_113 := Lib.hid hr
            have P7_113 := Lib.hid hc
            clear T6 hH6 R6_106 R6_110 B6_13 hr hc ht hg hp hw
            refine hK.out _ _ hH7 (fun hHeld => ?_)
            clear hK K hHeld
            try simp only [List.getElem_toArray, List.getElem_cons_zero, List.getElem_cons_succ, Act.put, List.setIfInBounds_toArray, List.set_cons_zero, List.set_cons_succ]
            refine wpAnyH_take (i := 14) (v := ?_) rfl (by kernel_rfl) (by kernel_rfl) (by kernel_rfl) (fun _ _ _ h => h) (Or.inl ⟨by rfl, ?_⟩) (by assumption) ?_
            rotate_left 1
            · intro w' hSw
              go_simp
              all_goals first | with_reducible rfl | (rw [if_neg (by omega)]; done) | (rw [if_pos (by omega)]; done) | (rw [if_neg (by omega)]; with_reducible rfl) | (rw [if_pos (by omega)]; with_reducible rfl)
            try simp only [List.getElem_toArray, List.getElem_cons_zero, List.getElem_cons_succ, Act.put, List.setIfInBounds_toArray, List.set_cons_zero, List.set_cons_succ]
            refine wpAnyH_ready (rs := [16]) (by kernel_rfl) (by simp) ?_
            refine AllReadyH.cons rfl (fun K hK => ?_) AllReadyH.nil
            have r0 := B7_13.out.cell 0
            have f0 := B7_13.out.free 0
            have r1 := B7_13.out.cell 1
            have f1 := B7_13.out.free 1
            have r2 := B7_13.out.cell 2
            have f2 := B7_13.out.free 2
            have r3 := B7_13.out.cell 3
            have f3 := B7_13.out.free 3
            simp only [List.getElem?_cons_zero, List.getElem?_cons_succ] at r0 r1 r2 r3
            obtain ⟨hb, hs⟩ := put4 B7_13.out (.bool true) (.slice (some ⟨g_5, 0, none⟩) mk c_5) (.slice (some ⟨g_7, 0, none⟩) mv c_7) (.slice none 0 0)
            have hx := T7.out.size
            have hS := T7.out.trans_new (S := fun _ => False) hs (fun k hk e => by omega)
            go_simp
            refine hK.out _ _ hS (fun hHeld => ?_)
            clear hK K
            try simp only [List.getElem_toArray, List.getElem_cons_zero, List.getElem_cons_succ, Act.put, List.setIfInBounds_toArray, List.set_cons_zero, List.set_cons_succ]
            refine wpAnyH_named (fun X8 e => ?_)
            clear hHeld
            have T8 := Lib.hid (e ▸ hS)
            have hH8 := T8.out
            have B8_13 := Lib.hid (e ▸ hb)
            rw [← e] at hs
            have R8_106 := Lib.hid (R7_106.out.turn hs (by omega))
            have R8_113 := Lib.hid (R7_113.out.turn hs (by omega))
            clear T7 hH7 R7_106 R7_113 B7_13 r0 f0 r1 f1 r2 f2 r3 f3 hS hb hs e
            refine wpAnyH_done (by kernel_rfl) ?_ _
            refine NoPanic.normal ?_
            go_wp2_with fail
            go_meet
            exact ⟨X3.heap.size, g_5, g_7, c_5, c_7, rfl, B8_13.out, R8_106.out, R8_113.out, T8.out⟩
        · go_simp
          refine hK.out _ _ (T2.out.alloc _) (fun hHeld => ?_)
          clear hK K
          try simp only [List.getElem_toArray, List.getElem_cons_zero, List.getElem_cons_succ, Act.put, List.setIfInBounds_toArray, List.set_cons_zero, List.set_cons_succ]
          refine wpAnyH_named (fun X3 e => ?_)
          clear hHeld
          have T3 := Lib.hid (T2.out.al e)
          have hH3 := T3.out
          have hz3 := size_al e
          have hy3 := T2.out.size
          have R3_107 := Lib.hid (R2_107.out.al e)
          have R3_100 := Lib.hid (R2_100.out.al e)
          have hl3_107 := R2_107.out.lt
          have hl3_100 := R2_100.out.lt
          have B3_13 := Lib.hid (Blk.nw (cs := [.bool false, .slice none 0 0, .slice none 0 0, .slice none 0 0]) e)
          clear T2 hH2 R2_107 R2_100 e
          refine wpAnyH_ready (rs := [3]) (by kernel_rfl) (by simp) ?_
          refine AllReadyH.cons rfl (fun K hK => ?_) AllReadyH.nil
          refine step_app_strsR rfl _ _ rfl (.slice (some ⟨X1.heap.size, 0, none⟩) 0 0) [] PA.keys X1.heap.size E1 ka f1 ka (HKA.out) (HN1.out) rfl rfl R3_100.out (EA8.out.keys.turn T3.out) KKA.out.1 HG1.out ?_
          intro g_4 c_4 X4 hg hr hc ht
          have hw : w8.heap.size ≤ X1.heap.size := by omega
          have T4 := Lib.hid (T3.out.trans_new (S := fun _ => False) ht (fun k hk e => by omega))
          have hH4 := T4.out
          have hz4 := ht.size
          have hp := R3_100.out.lt
          have hy4 := T3.out.size
          have hv4 : w8.heap.size ≤ g_4 := by omega
          have hl4_107 := R3_107.out.lt
          have hm4_13 := B3_13.out.lt
          have R4_107 := Lib.hid (R3_107.out.turn ht (by omega))
          have B4_13 := Lib.hid (B3_13.out.turn ht (by omega))
          have hq4_107 : ¬ X0.heap.size = g_4 := by omega
          have hr4_13 : ¬ X2.heap.size = g_4 := by omega
          have R4_103 := Lib.hid hr
          have P4_103 := Lib.hid hc
          clear T3 hH3 R3_107 R3_100 B3_13 hr hc ht hg hp hw
          refine hK.out _ _ hH4 (fun hHeld => ?_)
          clear hK K hHeld
          try simp only [List.getElem_toArray, List.getElem_cons_zero, List.getElem_cons_succ, Act.put, List.setIfInBounds_toArray, List.set_cons_zero, List.set_cons_succ]
          refine wpAnyH_ready (rs := [6]) (by kernel_rfl) (by simp) ?_
          refine AllReadyH.cons rfl (fun K hK => ?_) AllReadyH.nil
          refine step_app_strsR rfl _ _ rfl (.slice (some ⟨g_4, 0, none⟩) ka c_4) ([] ++ PA.keys) PB.keys g_4 (some ⟨b1, o1, none⟩) kb g1 mk (HKB.out) (HN2.out) rfl rfl R4_103.out (EB8.out.keys.turn T4.out) KKB.out.1 HG2.out ?_
          intro g_5 c_5 X5 hg hr hc ht
          have hw : w8.heap.size ≤ g_4 := by omega
          have T5 := Lib.hid (T4.out.trans_new (S := fun _ => False) ht (fun k hk e => by omega))
          have hH5 := T5.out
          have hz5 := ht.size
          have hp := R4_103.out.lt
          have hy5 := T4.out.size
          have hv5 : w8.heap.size ≤ g_5 := by omega
          have hl5_107 := R4_107.out.lt
          have hm5_13 := B4_13.out.lt
          have R5_107 := Lib.hid (R4_107.out.turn ht (by omega))
          have B5_13 := Lib.hid (B4_13.out.turn ht (by omega))
          have hq5_107 : ¬ X0.heap.size = g_5 := by omega
          have hr5_13 : ¬ X2.heap.size = g_5 := by omega
          have R5_106 := Lib.hid hr
          have P5_106 := Lib.hid hc
          clear T4 hH4 R4_107 R4_103 B4_13 hr hc ht hg hp hw
          refine hK.out _ _ hH5 (fun hHeld => ?_)
          clear hK K hHeld
          try simp only [List.getElem_toArray, List.getElem_cons_zero, List.getElem_cons_succ, Act.put, List.setIfInBounds_toArray, List.set_cons_zero, List.set_cons_succ]
          refine wpAnyH_ready (rs := [10]) (by kernel_rfl) (by simp) ?_
          refine AllReadyH.cons rfl (fun K hK => ?_) AllReadyH.nil
          refine step_app_strsR rfl _ _ rfl (.slice (some ⟨X0.heap.size, 0, none⟩) 0 0) [] PA.vals X0.heap.size E2 va f2 va (HVA.out) (HN3.out) rfl rfl R5_107.out (EA8.out.vals.turn T5.out) KKA.out.2 HG3.out ?_
          intro g_6 c_6 X6 hg hr hc ht
          have hw : w8.heap.size ≤ X0.heap.size := by omega
          have T6 := Lib.hid (T5.out.trans_new (S := fun _ => False) ht (fun k hk e => by omega))
          have hH6 := T6.out
          have hz6 := ht.size
          have hp := R5_107.out.lt
          have hy6 := T5.out.size
          have hv6 : w8.heap.size ≤ g_6 := by omega
          have hl6_106 := R5_106.out.lt
          have hm6_13 := B5_13.out.lt
          have R6_106 := Lib.hid (R5_106.out.turn ht (by omega))
          have B6_13 := Lib.hid (B5_13.out.turn ht (by omega))
          have hq6_106 : ¬ g_5 = g_6 := by omega
          have hr6_13 : ¬ X2.heap.size = g_6 := by omega
          have R6_110 := Lib.hid hr
          have P6_110 := Lib.hid hc
          clear T5 hH5 R5_107 R5_106 B5_13 hr hc ht hg hp hw
          refine hK.out _ _ hH6 (fun hHeld => ?_)
          clear hK K hHeld
          try simp only [List.getElem_toArray, List.getElem_cons_zero, List.getElem_cons_succ, Act.put, List.setIfInBounds_toArray, List.set_cons_zero, List.set_cons_succ]
          refine wpAnyH_ready (rs := [13]) (by kernel_rfl) (by simp) ?_
          refine AllReadyH.cons rfl (fun K hK => ?_) AllReadyH.nil
          refine step_app_strsR rfl _ _ rfl (.slice (some ⟨g_6, 0, none⟩) va c_6) ([] ++ PA.vals) PB.vals g_6 G2 vb g2 mv (HVB.out) (HN4.out) rfl rfl R6_110.out (EB8.out.vals.turn T6.out) KKB.out.2 HG4.out ?_
          intro g_7 c_7 X7 hg hr hc ht
          have hw : w8.heap.size ≤ g_6 := by omega
          have T7 := Lib.hid (T6.out.trans_new (S := fun _ => False) ht (fun k hk e => by omega))
          have hH7 := T7.out
          have hz7 := ht.size
          have hp := R6_110.out.lt
          have hy7 := T6.out.size
          have hv7 : w8.heap.size ≤ g_7 := by omega
          have hl7_106 := R6_106.out.lt
          have hm7_13 := B6_13.out.lt
          have R7_106 := Lib.hid (R6_106.out.turn ht (by omega))
          have B7_13 := Lib.hid (B6_13.out.turn ht (by omega))
          have hq7_106 : ¬ g_5 = g_7 := by omega
          have hr7_13 : ¬ X2.heap.size = g_7 := by omega
          have R7_113 := Lib.hid hr
          have P7_113 := Lib.hid hc
          clear T6 hH6 R6_106 R6_110 B6_13 hr hc ht hg hp hw
          refine hK.out _ _ hH7 (fun hHeld => ?_)
          clear hK K hHeld
          try simp only [List.getElem_toArray, List.getElem_cons_zero, List.getElem_cons_succ, Act.put, List.setIfInBounds_toArray, List.set_cons_zero, List.set_cons_succ]
          refine wpAnyH_take (i := 14) (v := ?_) rfl (by kernel_rfl) (by kernel_rfl) (by kernel_rfl) (fun _ _ _ h => h) (Or.inl ⟨by rfl, ?_⟩) (by assumption) ?_
          rotate_left 1
          · intro w' hSw
            go_simp
            all_goals first | with_reducible rfl | (rw [if_neg (by omega)]; done) | (rw [if_pos (by omega)]; done) | (rw [if_neg (by omega)]; with_reducible rfl) | (rw [if_pos (by omega)]; with_reducible rfl)
          try simp only [List.getElem_toArray, List.getElem_cons_zero, List.getElem_cons_succ, Act.put, List.setIfInBounds_toArray, List.set_cons_zero, List.set_cons_succ]
          refine wpAnyH_ready (rs := [16]) (by kernel_rfl) (by simp) ?_
          refine AllReadyH.cons rfl (fun K hK => ?_) AllReadyH.nil
          have r0 := B7_13.out.cell 0
          have f0 := B7_13.out.free 0
          have r1 := B7_13.out.cell 1
          have f1 := B7_13.out.free 1
          have r2 := B7_13.out.cell 2
          have f2 := B7_13.out.free 2
          have r3 := B7_13.out.cell 3
          have f3 := B7_13.out.free 3
          simp only [List.getElem?_cons_zero, List.getElem?_cons_succ] at r0 r1 r2 r3
          obtain ⟨hb, hs⟩ := put4 B7_13.out (.bool true) (.slice (some ⟨g_5, 0, none⟩) mk c_5) (.slice (some ⟨g_7, 0, none⟩) mv c_7) (.slice none 0 0)
          have hx := T7.out.size
          have hS := T7.out.trans_new (S := fun _ => False) hs (fun k hk e => by omega)
          go_simp
          refine hK.out _ _ hS (fun hHeld => ?_)
          clear hK K
          try simp only [List.getElem_toArray, List.getElem_cons_zero, List.getElem_cons_succ, Act.put, List.setIfInBounds_toArray, List.set_cons_zero, List.set_cons_succ]
          refine wpAnyH_named (fun X8 e => ?_)
          clear hHeld
          have T8 := Lib.hid (e ▸ hS)
          have hH8 := T8.out
          have B8_13 := Lib.hid (e ▸ hb)
          rw [← e] at hs
          have R8_106 := Lib.hid (R7_106.out.turn hs (by omega))
          have R8_113 := Lib.hid (R7_113.out.turn hs (by omega))
          clear T7 hH7 R7_106 R7_113 B7_13 r0 f0 r1 f1 r2 f2 r3 f3 hS hb hs e
          refine wpAnyH_done (by kernel_rfl) ?_ _
          refine NoPanic.normal ?_
          go_wp2_with fail
          go_meet
          exact ⟨X2.heap.size, g_5, g_7, c_5, c_7, rfl, B8_13.out, R8_106.out, R8_113.out, T8.out⟩
      · go_simp
        refine hK.out _ _ (T1.out.alloc _) (fun hHeld => ?_)
        clear hK K
        try simp only [List.getElem_toArray, List.getElem_cons_zero, List.getElem_cons_succ, Act.put, List.setIfInBounds_toArray, List.set_cons_zero, List.set_cons_succ]
        refine wpAnyH_named (fun X2 e => ?_)
        clear hHeld
        have T2 := Lib.hid (T1.out.al e)
        have hH2 := T2.out
        have hz2 := size_al e
        have hy2 := T1.out.size
        have R2_107 := Lib.hid (R1_107.out.al e)
        have hl2_107 := R1_107.out.lt
        have B2_13 := Lib.hid (Blk.nw (cs := [.bool false, .slice none 0 0, .slice none 0 0, .slice none 0 0]) e)
        clear T1 hH1 R1_107 e
        refine wpAnyH_ready (rs := [0]) (by kernel_rfl) (by simp) ?_
        refine AllReadyH.cons rfl (fun K hK => ?_) AllReadyH.nil
        go_simp
        refine hK.out _ _ (T2.out.alloc _) (fun hHeld => ?_)
        clear hK K
        try simp only [List.getElem_toArray, List.getElem_cons_zero, List.getElem_cons_succ, Act.put, List.setIfInBounds_toArray, List.set_cons_zero, List.set_cons_succ]
        refine wpAnyH_named (fun X3 e => ?_)
        clear hHeld
        have T3 := Lib.hid (T2.out.al e)
        have hH3 := T3.out
        have hz3 := size_al e
        have hy3 := T2.out.size
        have R3_107 := Lib.hid (R2_107.out.al e)
        have B3_13 := Lib.hid (B2_13.out.al e)
        have hl3_107 := R2_107.out.lt
        have hm3_13 := B2_13.out.lt
        have R3_100 := Lib.hid (Ro.empS e)
        clear T2 hH2 R2_107 B2_13 e
        refine wpAnyH_ready (rs := [3]) (by kernel_rfl) (by simp) ?_
        refine AllReadyH.cons rfl (fun K hK => ?_) AllReadyH.nil
        refine step_app_strsR rfl _ _ rfl (.slice (some ⟨X2.heap.size, 0, none⟩) 0 0) [] PA.keys X2.heap.size E1 ka f1 ka (HKA.out) (HN1.out) rfl rfl R3_100.out (EA8.out.keys.turn T3.out) KKA.out.1 HG1.out ?_
        intro g_4 c_4 X4 hg hr hc ht
        have hw : w8.heap.size ≤ X2.heap.size := by omega
        have T4 := Lib.hid (T3.out.trans_new (S := fun _ => False) ht (fun k hk e => by omega))
        have hH4 := T4.out
        have hz4 := ht.size
        have hp := R3_100.out.lt
        have hy4 := T3.out.size
        have hv4 : w8.heap.size ≤ g_4 := by omega
        have hl4_107 := R3_107.out.lt
        have hm4_13 := B3_13.out.lt
        have R4_107 := Lib.hid (R3_107.out.turn ht (by omega))
        have B4_13 := Lib.hid (B3_13.out.turn ht (by omega))
        have hq4_107 : ¬ X0.heap.size = g_4 := by omega
        have hr4_13 : ¬ X1.heap.size = g_4 := by omega
        have R4_103 := Lib.hid hr
        have P4_103 := Lib.hid hc
        clear T3 hH3 R3_107 R3_100 B3_13 hr hc ht hg hp hw
        refine hK.out _ _ hH4 (fun hHeld => ?_)
        clear hK K hHeld
        try simp only [List.getElem_toArray, List.getElem_cons_zero, List.getElem_cons_succ, Act.put, List.setIfInBounds_toArray, List.set_cons_zero, List.set_cons_succ]
        refine wpAnyH_ready (rs := [6]) (by kernel_rfl) (by simp) ?_
        refine AllReadyH.cons rfl (fun K hK => ?_) AllReadyH.nil
        refine step_app_strsR rfl _ _ rfl (.slice (some ⟨g_4, 0, none⟩) ka c_4) ([] ++ PA.keys) PB.keys g_4 (some ⟨b1, o1, none⟩) kb g1 mk (HKB.out) (HN2.out) rfl rfl R4_103.out (EB8.out.keys.turn T4.out) KKB.out.1 HG2.out ?_
        intro g_5 c_5 X5 hg hr hc ht
        have hw : w8.heap.size ≤ g_4 := by omega
        have T5 := Lib.hid (T4.out.trans_new (S := fun _ => False) ht (fun k hk e => by omega))
        have hH5 := T5.out
        have hz5 := ht.size
        have hp := R4_103.out.lt
        have hy5 := T4.out.size
        have hv5 : w8.heap.size ≤ g_5 := by omega
        have hl5_107 := R4_107.out.lt
        have hm5_13 := B4_13.out.lt
        have R5_107 := Lib.hid (R4_107.out.turn ht (by omega))
        have B5_13 := Lib.hid (B4_13.out.turn ht (by omega))
        have hq5_107 : ¬ X0.heap.size = g_5 := by omega
        have hr5_13 : ¬ X1.heap.size = g_5 := by omega
        have R5_106 := Lib.hid hr
        have P5_106 := Lib.hid hc
        clear T4 hH4 R4_107 R4_103 B4_13 hr hc ht hg hp hw
        refine hK.out _ _ hH5 (fun hHeld => ?_)
        clear hK K hHeld
        try simp only [List.getElem_toArray, List.getElem_cons_zero, List.getElem_cons_succ, Act.put, List.setIfInBounds_toArray, List.set_cons_zero, List.set_cons_succ]
        refine wpAnyH_ready (rs := [10]) (by kernel_rfl) (by simp) ?_
        refine AllReadyH.cons rfl (fun K hK => ?_) AllReadyH.nil
        refine step_app_strsR rfl _ _ rfl (.slice (some ⟨X0.heap.size, 0, none⟩) 0 0) [] PA.vals X0.heap.size E2 va f2 va (HVA.out) (HN3.out) rfl rfl R5_107.out (EA8.out.vals.turn T5.out) KKA.out.2 HG3.out ?_
        intro g_6 c_6 X6 hg hr hc ht
        have hw : w8.heap.size ≤ X0.heap.size := by omega
        have T6 := Lib.hid (T5.out.trans_new (S := fun _ => False) ht (fun k hk e => by omega))
        have hH6 := T6.out
        have hz6 := ht.size
        have hp := R5_107.out.lt
        have hy6 := T5.out.size
        have hv6 : w8.heap.size ≤ g_6 := by omega
        have hl6_106 := R5_106.out.lt
        have hm6_13 := B5_13.out.lt
        have R6_106 := Lib.hid (R5_106.out.turn ht (by omega))
        have B6_13 := Lib.hid (B5_13.out.turn ht (by omega))
        have hq6_106 : ¬ g_5 = g_6 := by omega
        have hr6_13 : ¬ X1.heap.size = g_6 := by omega
        have R6_110 := Lib.hid hr
        have P6_110 := Lib.hid hc
        clear T5 hH5 R5_107 R5_106 B5_13 hr hc ht hg hp hw
        refine hK.out _ _ hH6 (fun hHeld => ?_)
        clear hK K hHeld
        try simp only [List.getElem_toArray, List.getElem_cons_zero, List.getElem_cons_succ, Act.put, List.setIfInBounds_toArray, List.set_cons_zero, List.set_cons_succ]
        refine wpAnyH_ready (rs := [13]) (by kernel_rfl) (by simp) ?_
        refine AllReadyH.cons rfl (fun K hK => ?_) AllReadyH.nil
        refine step_app_strsR rfl _ _ rfl (.slice (some ⟨g_6, 0, none⟩) va c_6) ([] ++ PA.vals) PB.vals g_6 G2 vb g2 mv (HVB.out) (HN4.out) rfl rfl R6_110.out (EB8.out.vals.turn T6.out) KKB.out.2 HG4.out ?_
        intro g_7 c_7 X7 hg hr hc ht
        have hw : w8.heap.size ≤ g_6 := by omega
        have T7 := Lib.hid (T6.out.trans_new (S := fun _ => False) ht (fun k hk e => by omega))
        have hH7 := T7.out
        have hz7 := ht.size
        have hp := R6_110.out.lt
        have hy7 := T6.out.size
        have hv7 : w8.heap.size ≤ g_7 := by omega
        have hl7_106 := R6_106.out.lt
        have hm7_13 := B6_13.out.lt
        have R7_106 := Lib.hid (R6_106.out.turn ht (by omega))
        have B7_13 := Lib.hid (B6_13.out.turn ht (by omega))
        have hq7_106 : ¬ g_5 = g_7 := by omega
        have hr7_13 : ¬ X1.heap.size = g_7 := by omega
        have R7_113 := Lib.hid hr
        have P7_113 := Lib.hid hc
        clear T6 hH6 R6_106 R6_110 B6_13 hr hc ht hg hp hw
        refine hK.out _ _ hH7 (fun hHeld => ?_)
        clear hK K hHeld
        try simp only [List.getElem_toArray, List.getElem_cons_zero, List.getElem_cons_succ, Act.put, List.setIfInBounds_toArray, List.set_cons_zero, List.set_cons_succ]
        refine wpAnyH_take (i := 14) (v := ?_) rfl (by kernel_rfl) (by kernel_rfl) (by kernel_rfl) (fun _ _ _ h => h) (Or.inl ⟨by rfl, ?_⟩) (by assumption) ?_
        rotate_left 1
        · intro w' hSw
          go_simp
          all_goals first | with_reducible rfl | (rw [if_neg (by omega)]; done) | (rw [if_pos (by omega)]; done) | (rw [if_neg (by omega)]; with_reducible rfl) | (rw [if_pos (by omega)]; with_reducible rfl)
        try simp only [List.getElem_toArray, List.getElem_cons_zero, List.getElem_cons_succ, Act.put, List.setIfInBounds_toArray, List.set_cons_zero, List.set_cons_succ]
        refine wpAnyH_ready (rs := [16]) (by kernel_rfl) (by simp) ?_
        refine AllReadyH.cons rfl (fun K hK => ?_) AllReadyH.nil
        have r0 := B7_13.out.cell 0
        have f0 := B7_13.out.free 0
        have r1 := B7_13.out.cell 1
        have f1 := B7_13.out.free 1
        have r2 := B7_13.out.cell 2
        have f2 := B7_13.out.free 2
        have r3 := B7_13.out.cell 3
        have f3 := B7_13.out.free 3
        simp only [List.getElem?_cons_zero, List.getElem?_cons_succ] at r0 r1 r2 r3
        obtain ⟨hb, hs⟩ := put4 B7_13.out (.bool true) (.slice (some ⟨g_5, 0, none⟩) mk c_5) (.slice (some ⟨g_7, 0, none⟩) mv c_7) (.slice none 0 0)
        have hx := T7.out.size
        have hS := T7.out.trans_new (S := fun _ => False) hs (fun k hk e => by omega)
        go_simp
        refine hK.out _ _ hS (fun hHeld => ?_)
        clear hK K
        try simp only [List.getElem_toArray, List.getElem_cons_zero, List.getElem_cons_succ, Act.put, List.setIfInBounds_toArray, List.set_cons_zero, List.set_cons_succ]
        refine wpAnyH_named (fun X8 e => ?_)
        clear hHeld
        have T8 := Lib.hid (e ▸ hS)
        have hH8 := T8.out
        have B8_13 := Lib.hid (e ▸ hb)
        rw [← e] at hs
        have R8_106 := Lib.hid (R7_106.out.turn hs (by omega))
        have R8_113 := Lib.hid (R7_113.out.turn hs (by omega))
        clear T7 hH7 R7_106 R7_113 B7_13 r0 f0 r1 f1 r2 f2 r3 f3 hS hb hs e
        refine wpAnyH_done (by kernel_rfl) ?_ _
        refine NoPanic.normal ?_
        go_wp2_with fail
        go_meet
        exact ⟨X1.heap.size, g_5, g_7, c_5, c_7, rfl, B8_13.out, R8_106.out, R8_113.out, T8.out⟩
    · go_simp
      refine hK.out _ _ (T0.out.alloc _) (fun hHeld => ?_)
      clear hK K
      try simp only [List.getElem_toArray, List.getElem_cons_zero, List.getElem_cons_succ, Act.put, List.setIfInBounds_toArray, List.set_cons_zero, List.set_cons_succ]
      refine wpAnyH_named (fun X1 e => ?_)
      clear hHeld
      have T1 := Lib.hid (T0.out.al e)
      have hH1 := T1.out
      have hz1 := size_al e
      have hy1 := T0.out.size
      have B1_13 := Lib.hid (Blk.nw (cs := [.bool false, .slice none 0 0, .slice none 0 0, .slice none 0 0]) e)
      clear T0 hH0 e
      refine wpAnyH_ready (rs := [0, 7]) (by kernel_rfl) (by simp) ?_
      refine AllReadyH.cons rfl (fun K hK => ?_) (AllReadyH.cons rfl (fun K hK => ?_) AllReadyH.nil)
      · go_simp
        refine hK.out _ _ (T1.out.alloc _) (fun hHeld => ?_)
        clear hK K
        try simp only [List.getElem_toArray, List.getElem_cons_zero, List.getElem_cons_succ, Act.put, List.setIfInBounds_toArray, List.set_cons_zero, List.set_cons_succ]
        refine wpAnyH_named (fun X2 e => ?_)
        clear hHeld
        have T2 := Lib.hid (T1.out.al e)
        have hH2 := T2.out
        have hz2 := size_al e
        have hy2 := T1.out.size
        have B2_13 := Lib.hid (B1_13.out.al e)
        have hm2_13 := B1_13.out.lt
        have R2_100 := Lib.hid (Ro.empS e)
        clear T1 hH1 B1_13 e
        refine wpAnyH_ready (rs := [3, 7]) (by kernel_rfl) (by simp) ?_
        refine AllReadyH.cons rfl (fun K hK => ?_) (AllReadyH.cons rfl (fun K hK => ?_) AllReadyH.nil)
        · refine step_app_strsR rfl _ _ rfl (.slice (some ⟨X1.heap.size, 0, none⟩) 0 0) [] PA.keys X1.heap.size E1 ka f1 ka (HKA.out) (HN1.out) rfl rfl R2_100.out (EA8.out.keys.turn T2.out) KKA.out.1 HG1.out ?_
          intro g_3 c_3 X3 hg hr hc ht
          have hw : w8.heap.size ≤ X1.heap.size := by omega
          have T3 := Lib.hid (T2.out.trans_new (S := fun _ => False) ht (fun k hk e => by omega))
          have hH3 := T3.out
          have hz3 := ht.size
          have hp := R2_100.out.lt
          have hy3 := T2.out.size
          have hv3 : w8.heap.size ≤ g_3 := by omega
          have hm3_13 := B2_13.out.lt
          have B3_13 := Lib.hid (B2_13.out.turn ht (by omega))
          have hr3_13 : ¬ X0.heap.size = g_3 := by omega
          have R3_103 := Lib.hid hr
          have P3_103 := Lib.hid hc
          clear T2 hH2 R2_100 B2_13 hr hc ht hg hp hw
          refine hK.out _ _ hH3 (fun hHeld => ?_)
          clear hK K hHeld
          try simp only [List.getElem_toArray, List.getElem_cons_zero, List.getElem_cons_succ, Act.put, List.setIfInBounds_toArray, List.set_cons_zero, List.set_cons_succ]
          refine wpAnyH_ready (rs := [6, 7]) (by kernel_rfl) (by simp) ?_
          refine AllReadyH.cons rfl (fun K hK => ?_) (AllReadyH.cons rfl (fun K hK => ?_) AllReadyH.nil)
          · refine step_app_strsR rfl _ _ rfl (.slice (some ⟨g_3, 0, none⟩) ka c_3) ([] ++ PA.keys) PB.keys g_3 (some ⟨b1, o1, none⟩) kb g1 mk (HKB.out) (HN2.out) rfl rfl R3_103.out (EB8.out.keys.turn T3.out) KKB.out.1 HG2.out ?_
            intro g_4 c_4 X4 hg hr hc ht
            have hw : w8.heap.size ≤ g_3 := by omega
            have T4 := Lib.hid (T3.out.trans_new (S := fun _ => False) ht (fun k hk e => by omega))
            have hH4 := T4.out
            have hz4 := ht.size
            have hp := R3_103.out.lt
            have hy4 := T3.out.size
            have hv4 : w8.heap.size ≤ g_4 := by omega
            have hm4_13 := B3_13.out.lt
            have B4_13 := Lib.hid (B3_13.out.turn ht (by omega))
            have hr4_13 : ¬ X0.heap.size = g_4 := by omega
            have R4_106 := Lib.hid hr
            have P4_106 := Lib.hid hc
            clear T3 hH3 R3_103 B3_13 hr hc ht hg hp hw
            refine hK.out _ _ hH4 (fun hHeld => ?_)
            clear hK K hHeld
            try simp only [List.getElem_toArray, List.getElem_cons_zero, List.getElem_cons_succ, Act.put, List.setIfInBounds_toArray, List.set_cons_zero, List.set_cons_succ]
            refine wpAnyH_ready (rs := [7]) (by kernel_rfl) (by simp) ?_
            refine AllReadyH.cons rfl (fun K hK => ?_) AllReadyH.nil
            go_simp
            refine hK.out _ _ (T4.out.alloc _) (fun hHeld => ?_)
            clear hK K
            try simp only [List.getElem_toArray, List.getElem_cons_zero, List.getElem_cons_succ, Act.put, List.setIfInBounds_toArray, List.set_cons_zero, List.set_cons_succ]
            refine wpAnyH_named (fun X5 e => ?_)
            clear hHeld
            have T5 := Lib.hid (T4.out.al e)
            have hH5 := T5.out
            have hz5 := size_al e
            have hy5 := T4.out.size
            have R5_106 := Lib.hid (R4_106.out.al e)
            have B5_13 := Lib.hid (B4_13.out.al e)
            have hl5_106 := R4_106.out.lt
            have hm5_13 := B4_13.out.lt
            have R5_107 := Lib.hid (Ro.empS e)
            clear T4 hH4 R4_106 B4_13 e
            refine wpAnyH_ready (rs := [10]) (by kernel_rfl) (by simp) ?_
            refine AllReadyH.cons rfl (fun K hK => ?_) AllReadyH.nil
            refine step_app_strsR rfl _ _ rfl (.slice (some ⟨X4.heap.size, 0, none⟩) 0 0) [] PA.vals X4.heap.size E2 va f2 va (HVA.out) (HN3.out) rfl rfl R5_107.out (EA8.out.vals.turn T5.out) KKA.out.2 HG3.out ?_
            intro g_6 c_6 X6 hg hr hc ht
            have hw : w8.heap.size ≤ X4.heap.size := by omega
            have T6 := Lib.hid (T5.out.trans_new (S := fun _ => False) ht (fun k hk e => by omega))
            have hH6 := T6.out
            have hz6 := ht.size
            have hp := R5_107.out.lt
            have hy6 := T5.out.size
            have hv6 : w8.heap.size ≤ g_6 := by omega
            have hl6_106 := R5_106.out.lt
            have hm6_13 := B5_13.out.lt
            have R6_106 := Lib.hid (R5_106.out.turn ht (by omega))
            have B6_13 := Lib.hid (B5_13.out.turn ht (by omega))
            have hq6_106 : ¬ g_4 = g_6 := by omega
            have hr6_13 : ¬ X0.heap.size = g_6 := by omega
            have R6_110 := Lib.hid hr
            have P6_110 := Lib.hid hc
            clear T5 hH5 R5_106 R5_107 B5_13 hr hc ht hg hp hw
            refine hK.out _ _ hH6 (fun hHeld => ?_)
            clear hK K hHeld
            try simp only [List.getElem_toArray, List.getElem_cons_zero, List.getElem_cons_succ, Act.put, List.setIfInBounds_toArray, List.set_cons_zero, List.set_cons_succ]
            refine wpAnyH_ready (rs := [13]) (by kernel_rfl) (by simp) ?_
            refine AllReadyH.cons rfl (fun K hK => ?_) AllReadyH.nil
            refine step_app_strsR rfl _ _ rfl (.slice (some ⟨g_6, 0, none⟩) va c_6) ([] ++ PA.vals) PB.vals g_6 G2 vb g2 mv (HVB.out) (HN4.out) rfl rfl R6_110.out (EB8.out.vals.turn T6.out) KKB.out.2 HG4.out ?_
            intro g_7 c_7 X7 hg hr hc ht
            have hw : w8.heap.size ≤ g_6 := by omega
            have T7 := Lib.hid (T6.out.trans_new (S := fun _ => False) ht (fun k hk e => by omega))
            have hH7 := T7.out
            have hz7 := ht.size
            have hp := R6_110.out.lt
            have hy7 := T6.out.size
            have hv7 : w8.heap.size ≤ g_7 := by omega
            have hl7_106 := R6_106.out.lt
            have hm7_13 := B6_13.out.lt
            have R7_106 := Lib.hid (R6_106.out.turn ht (by omega))
            have B7_13 := Lib.hid (B6_13.out.turn ht (by omega))
            have hq7_106 : ¬ g_4 = g_7 := by omega
            have hr7_13 : ¬ X0.heap.size = g_7 := by omega
            have R7_113 := Lib.hid hr
            have P7_113 := Lib.hid hc
            clear T6 hH6 R6_106 R6_110 B6_13 hr hc ht hg hp hw
            refine hK.out _ _ hH7 (fun hHeld => ?_)
            clear hK K hHeld
            try simp only [List.getElem_toArray, List.getElem_cons_zero, List.getElem_cons_succ, Act.put, List.setIfInBounds_toArray, List.set_cons_zero, List.set_cons_succ]
            refine wpAnyH_take (i := 14) (v := ?_) rfl (by kernel_rfl) (by kernel_rfl) (by kernel_rfl) (fun _ _ _ h => h) (Or.inl ⟨by rfl, ?_⟩) (by assumption) ?_
            rotate_left 1
            · intro w' hSw
              go_simp
              all_goals first | with_reducible rfl | (rw [if_neg (by omega)]; done) | (rw [if_pos (by omega)]; done) | (rw [if_neg (by omega)]; with_reducible rfl) | (rw [if_pos (by omega)]; with_reducible rfl)
            try simp only [List.getElem_toArray, List.getElem_cons_zero, List.getElem_cons_succ, Act.put, List.setIfInBounds_toArray, List.set_cons_zero, List.set_cons_succ]
            refine wpAnyH_ready (rs := [16]) (by kernel_rfl) (by simp) ?_
            refine AllReadyH.cons rfl (fun K hK => ?_) AllReadyH.nil
            have r0 := B7_13.out.cell 0
            have f0 := B7_13.out.free 0
            have r1 := B7_13.out.cell 1
            have f1 := B7_13.out.free 1
            have r2 := B7_13.out.cell 2
            have f2 := B7_13.out.free 2
            have r3 := B7_13.out.cell 3
            have f3 := B7_13.out.free 3
            simp only [List.getElem?_cons_zero, List.getElem?_cons_succ] at r0 r1 r2 r3
            obtain ⟨hb, hs⟩ := put4 B7_13.out (.bool true) (.slice (some ⟨g_4, 0, none⟩) mk c_4) (.slice (some ⟨g_7, 0, none⟩) mv c_7) (.slice none 0 0)
            have hx := T7.out.size
            have hS := T7.out.trans_new (S := fun _ => False) hs (fun k hk e => by omega)
            go_simp
            refine hK.out _ _ hS (fun hHeld => ?_)
            clear hK K
            try simp only [List.getElem_toArray, List.getElem_cons_zero, List.getElem_cons_succ, Act.put, List.setIfInBounds_toArray, List.set_cons_zero, List.set_cons_succ]
            refine wpAnyH_named (fun X8 e => ?_)
            clear hHeld
            have T8 := Lib.hid (e ▸ hS)
            have hH8 := T8.out
            have B8_13 := Lib.hid (e ▸ hb)
            rw [← e] at hs
            have R8_106 := Lib.hid (R7_106.out.turn hs (by omega))
            have R8_113 := Lib.hid (R7_113.out.turn hs (by omega))
            clear T7 hH7 R7_106 R7_113 B7_13 r0 f0 r1 f1 r2 f2 r3 f3 hS hb hs e
            refine wpAnyH_done (by kernel_rfl) ?_ _
            refine NoPanic.normal ?_
            go_wp2_with fail
            go_meet
            exact ⟨X0.heap.size, g_4, g_7, c_4, c_7, rfl, B8_13.out, R8_106.out, R8_113.out, T8.out⟩
          · go_simp
            refine hK.out _ _ (T3.out.alloc _) (fun hHeld => ?_)
            clear hK K
            try simp only [List.getElem_toArray, List.getElem_cons_zero, List.getElem_cons_succ, Act.put, List.setIfInBounds_toArray, List.set_cons_zero, List.set_cons_succ]
            refine wpAnyH_named (fun X4 e => ?_)
            clear hHeld
            have T4 := Lib.hid (T3.out.al e)
            have hH4 := T4.out
            have hz4 := size_al e
            have hy4 := T3.out.size
            have R4_103 := Lib.hid (R3_103.out.al e)
            have B4_13 := Lib.hid (B3_13.out.al e)
            have hl4_103 := R3_103.out.lt
            have hm4_13 := B3_13.out.lt
            have R4_107 := Lib.hid (Ro.empS e)
            clear T3 hH3 R3_103 B3_13 e
            refine wpAnyH_ready (rs := [6]) (by kernel_rfl) (by simp) ?_
            refine AllReadyH.cons rfl (fun K hK => ?_) AllReadyH.nil
            refine step_app_strsR rfl _ _ rfl (.slice (some ⟨g_3, 0, none⟩) ka c_3) ([] ++ PA.keys) PB.keys g_3 (some ⟨b1, o1, none⟩) kb g1 mk (HKB.out) (HN2.out) rfl rfl R4_103.out (EB8.out.keys.turn T4.out) KKB.out.1 HG2.out ?_
            intro g_5 c_5 X5 hg hr hc ht
            have hw : w8.heap.size ≤ g_3 := by omega
            have T5 := Lib.hid (T4.out.trans_new (S := fun _ => False) ht (fun k hk e => by omega))
            have hH5 := T5.out
            have hz5 := ht.size
            have hp := R4_103.out.lt
            have hy5 := T4.out.size
            have hv5 : w8.heap.size ≤ g_5 := by omega
            have hl5_107 := R4_107.out.lt
            have hm5_13 := B4_13.out.lt
            have R5_107 := Lib.hid (R4_107.out.turn ht (by omega))
            have B5_13 := Lib.hid (B4_13.out.turn ht (by omega))
            have hq5_107 : ¬ X3.heap.size = g_5 := by omega
            have hr5_13 : ¬ X0.heap.size = g_5 := by omega
            have R5_106 := Lib.hid hr
            have P5_106 := Lib.hid hc
            clear T4 hH4 R4_103 R4_107 B4_13 hr hc ht hg hp hw
            refine hK.out _ _ hH5 (fun hHeld => ?_)
            clear hK K hHeld
            try simp only [List.getElem_toArray, List.getElem_cons_zero, List.getElem_cons_succ, Act.put, List.setIfInBounds_toArray, List.set_cons_zero, List.set_cons_succ]
            refine wpAnyH_ready (rs := [10]) (by kernel_rfl) (by simp) ?_
            refine AllReadyH.cons rfl (fun K hK => ?_) AllReadyH.nil
            refine step_app_strsR rfl _ _ rfl (.slice (some ⟨X3.heap.size, 0, none⟩) 0 0) [] PA.vals X3.heap.size E2 va f2 va (HVA.out) (HN3.out) rfl rfl R5_107.out (EA8.out.vals.turn T5.out) KKA.out.2 HG3.out ?_
            intro g_6 c_6 X6 hg hr hc ht
            have hw : w8.heap.size ≤ X3.heap.size := by omega
            have T6 := Lib.hid (T5.out.trans_new (S := fun _ => False) ht (fun k hk e => by omega))
            have hH6 := T6.out
            have hz6 := ht.size
            have hp := R5_107.out.lt
            have hy6 := T5.out.size
            have hv6 : w8.heap.size ≤ g_6 := by omega
            have hl6_106 := R5_106.out.lt
            have hm6_13 := B5_13.out.lt
            have R6_106 := Lib.hid (R5_106.out.turn ht (by omega))
            have B6_13 := Lib.hid (B5_13.out.turn ht (by omega))
            have hq6_106 : ¬ g_5 = g_6 := by omega
            have hr6_13 : ¬ X0.heap.size = g_6 := by omega
            have R6_110 := Lib.hid hr
            have P6_110 := Lib.hid hc
            clear T5 hH5 R5_107 R5_106 B5_13 hr hc ht hg hp hw
            refine hK.out _ _ hH6 (fun hHeld => ?_)
            clear hK K hHeld
            try simp only [List.getElem_toArray, List.getElem_cons_zero, List.getElem_cons_succ, Act.put, List.setIfInBounds_toArray, List.set_cons_zero, List.set_cons_succ]
            refine wpAnyH_ready (rs := [13]) (by kernel_rfl) (by simp) ?_
            refine AllReadyH.cons rfl (fun K hK => ?_) AllReadyH.nil
            refine step_app_strsR rfl _ _ rfl (.slice (some ⟨g_6, 0, none⟩) va c_6) ([] ++ PA.vals) PB.vals g_6 G2 vb g2 mv (HVB.out) (HN4.out) rfl rfl R6_110.out (EB8.out.vals.turn T6.out) KKB.out.2 HG4.out ?_
            intro g_7 c_7 X7 hg hr hc ht
            have hw : w8.heap.size ≤ g_6 := by omega
            have T7 := Lib.hid (T6.out.trans_new (S := fun _ => False) ht (fun k hk e => by omega))
            have hH7 := T7.out
            have hz7 := ht.size
            have hp := R6_110.out.lt
            have hy7 := T6.out.size
            have hv7 : w8.heap.size ≤ g_7 := by omega
            have hl7_106 := R6_106.out.lt
            have hm7_13 := B6_13.out.lt
            have R7_106 := Lib.hid (R6_106.out.turn ht (by omega))
            have B7_13 := Lib.hid (B6_13.out.turn ht (by omega))
            have hq7_106 : ¬ g_5 = g_7 := by omega
            have hr7_13 : ¬ X0.heap.size = g_7 := by omega
            have R7_113 := Lib.hid hr
            have P7_113 := Lib.hid hc
            clear T6 hH6 R6_106 R6_110 B6_13 hr hc ht hg hp hw
            refine hK.out _ _ hH7 (fun hHeld => ?_)
            clear hK K hHeld
            try simp only [List.getElem_toArray, List.getElem_cons_zero, List.getElem_cons_succ, Act.put, List.setIfInBounds_toArray, List.set_cons_zero, List.set_cons_succ]
            refine wpAnyH_take (i := 14) (v := ?_) rfl (by kernel_rfl) (by kernel_rfl) (by kernel_rfl) (fun _ _ _ h => h) (Or.inl ⟨by rfl, ?_⟩) (by assumption) ?_
            rotate_left 1
            · intro w' hSw
              go_simp
              all_goals first | with_reducible rfl | (rw [if_neg (by omega)]; done) | (rw [if_pos (by omega)]; done) | (rw [if_neg (by omega)]; with_reducible rfl) | (rw [if_pos (by omega)]; with_reducible rfl)
            try simp only [List.getElem_toArray, List.getElem_cons_zero, List.getElem_cons_succ, Act.put, List.setIfInBounds_toArray, List.set_cons_zero, List.set_cons_succ]
            refine wpAnyH_ready (rs := [16]) (by kernel_rfl) (by simp) ?_
            refine AllReadyH.cons rfl (fun K hK => ?_) AllReadyH.nil
            have r0 := B7_13.out.cell 0
            have f0 := B7_13.out.free 0
            have r1 := B7_13.out.cell 1
            have f1 := B7_13.out.free 1
            have r2 := B7_13.out.cell 2
            have f2 := B7_13.out.free 2
            have r3 := B7_13.out.cell 3
            have f3 := B7_13.out.free 3
            simp only [List.getElem?_cons_zero, List.getElem?_cons_succ] at r0 r1 r2 r3
            obtain ⟨hb, hs⟩ := put4 B7_13.out (.bool true) (.slice (some ⟨g_5, 0, none⟩) mk c_5) (.slice (some ⟨g_7, 0, none⟩) mv c_7) (.slice none 0 0)
            have hx := T7.out.size
            have hS := T7.out.trans_new (S := fun _ => False) hs (fun k hk e => by omega)
            go_simp
            refine hK.out _ _ hS (fun hHeld => ?_)
            clear hK K
            try simp only [List.getElem_toArray, List.getElem_cons_zero, List.getElem_cons_succ, Act.put, List.setIfInBounds_toArray, List.set_cons_zero, List.set_cons_succ]
            refine wpAnyH_named (fun X8 e => ?_)
            clear hHeld
            have T8 := Lib.hid (e ▸ hS)
            have hH8 := T8.out
            have B8_13 := Lib.hid (e ▸ hb)
            rw [← e] at hs
            have R8_106 := Lib.hid (R7_106.out.turn hs (by omega))
            have R8_113 := Lib.hid (R7_113.out.turn hs (by omega))
            clear T7 hH7 R7_106 R7_113 B7_13 r0 f0 r1 f1 r2 f2 r3 f3 hS hb hs e
            refine wpAnyH_done (by kernel_rfl) ?_ _
            refine NoPanic.normal ?_
            go_wp2_with fail
            go_meet
            exact ⟨X0.heap.size, g_5, g_7, c_5, c_7, rfl, B8_13.out, R8_106.out, R8_113.out, T8.out⟩
        · go_simp
          refine hK.out _ _ (T2.out.alloc _) (fun hHeld => ?_)
          clear hK K
          try simp only [List.getElem_toArray, List.getElem_cons_zero, List.getElem_cons_succ, Act.put, List.setIfInBounds_toArray, List.set_cons_zero, List.set_cons_succ]
          refine wpAnyH_named (fun X3 e => ?_)
          clear hHeld
          have T3 := Lib.hid (T2.out.al e)
          have hH3 := T3.out
          have hz3 := size_al e
          have hy3 := T2.out.size
          have R3_100 := Lib.hid (R2_100.out.al e)
          have B3_13 := Lib.hid (B2_13.out.al e)
          have hl3_100 := R2_100.out.lt
          have hm3_13 := B2_13.out.lt
          have R3_107 := Lib.hid (Ro.empS e)
          clear T2 hH2 R2_100 B2_13 e
          refine wpAnyH_ready (rs := [3]) (by kernel_rfl) (by simp) ?_
          refine AllReadyH.cons rfl (fun K hK => ?_) AllReadyH.nil
          refine step_app_strsR rfl _ _ rfl (.slice (some ⟨X1.heap.size, 0, none⟩) 0 0) [] PA.keys X1.heap.size E1 ka f1 ka (HKA.out) (HN1.out) rfl rfl R3_100.out (EA8.out.keys.turn T3.out) KKA.out.1 HG1.out ?_
          intro g_4 c_4 X4 hg hr hc ht
          have hw : w8.heap.size ≤ X1.heap.size := by omega
          have T4 := Lib.hid (T3.out.trans_new (S := fun _ => False) ht (fun k hk e => by omega))
          have hH4 := T4.out
          have hz4 := ht.size
          have hp := R3_100.out.lt
          have hy4 := T3.out.size
          have hv4 : w8.heap.size ≤ g_4 := by omega
          have hl4_107 := R3_107.out.lt
          have hm4_13 := B3_13.out.lt
          have R4_107 := Lib.hid (R3_107.out.turn ht (by omega))
          have B4_13 := Lib.hid (B3_13.out.turn ht (by omega))
          have hq4_107 : ¬ X2.heap.size = g_4 := by omega
          have hr4_13 : ¬ X0.heap.size = g_4 := by omega
          have R4_103 := Lib.hid hr
          have P4_103 := Lib.hid hc
          clear T3 hH3 R3_100 R3_107 B3_13 hr hc ht hg hp hw
          refine hK.out _ _ hH4 (fun hHeld => ?_)
          clear hK K hHeld
          try simp only [List.getElem_toArray, List.getElem_cons_zero, List.getElem_cons_succ, Act.put, List.setIfInBounds_toArray, List.set_cons_zero, List.set_cons_succ]
          refine wpAnyH_ready (rs := [6]) (by kernel_rfl) (by simp) ?_
          refine AllReadyH.cons rfl (fun K hK => ?_) AllReadyH.nil
          refine step_app_strsR rfl _ _ rfl (.slice (some ⟨g_4, 0, none⟩) ka c_4) ([] ++ PA.keys) PB.keys g_4 (some ⟨b1, o1, none⟩) kb g1 mk (HKB.out) (HN2.out) rfl rfl R4_103.out (EB8.out.keys.turn T4.out) KKB.out.1 HG2.out ?_
          intro g_5 c_5 X5 hg hr hc ht
          have hw : w8.heap.size ≤ g_4 := by omega
          have T5 := Lib.hid (T4.out.trans_new (S := fun _ => False) ht (fun k hk e => by omega))
          have hH5 := T5.out
          have hz5 := ht.size
          have hp := R4_103.out.lt
          have hy5 := T4.out.size
          have hv5 : w8.heap.size ≤ g_5 := by omega
          have hl5_107 := R4_107.out.lt
          have hm5_13 := B4_13.out.lt
          have R5_107 := Lib.hid (R4_107.out.turn ht (by omega))
          have B5_13 := Lib.hid (B4_13.out.turn ht (by omega))
          have hq5_107 : ¬ X2.heap.size = g_5 := by omega
          have hr5_13 : ¬ X0.heap.size = g_5 := by omega
          have R5_106 := Lib.hid hr
          have P5_106 := Lib.hid hc
          clear T4 hH4 R4_107 R4_103 B4_13 hr hc ht hg hp hw
          refine hK.out _ _ hH5 (fun hHeld => ?_)
          clear hK K hHeld
          try simp only [List.getElem_toArray, List.getElem_cons_zero, List.getElem_cons_succ, Act.put, List.setIfInBounds_toArray, List.set_cons_zero, List.set_cons_succ]
          refine wpAnyH_ready (rs := [10]) (by kernel_rfl) (by simp) ?_
          refine AllReadyH.cons rfl (fun K hK => ?_) AllReadyH.nil
          refine step_app_strsR rfl _ _ rfl (.slice (some ⟨X2.heap.size, 0, none⟩) 0 0) [] PA.vals X2.heap.size E2 va f2 va (HVA.out) (HN3.out) rfl rfl R5_107.out (EA8.out.vals.turn T5.out) KKA.out.2 HG3.out ?_
          intro g_6 c_6 X6 hg hr hc ht
          have hw : w8.heap.size ≤ X2.heap.size := by omega
          have T6 := Lib.hid (T5.out.trans_new (S := fun _ => False) ht (fun k hk e => by omega))
          have hH6 := T6.out
          have hz6 := ht.size
          have hp := R5_107.out.lt
          have hy6 := T5.out.size
          have hv6 : w8.heap.size ≤ g_6 := by omega
          have hl6_106 := R5_106.out.lt
          have hm6_13 := B5_13.out.lt
          have R6_106 := Lib.hid (R5_106.out.turn ht (by omega))
          have B6_13 := Lib.hid (B5_13.out.turn ht (by omega))
          have hq6_106 : ¬ g_5 = g_6 := by omega
          have hr6_13 : ¬ X0.heap.size = g_6 := by omega
          have R6_110 := Lib.hid hr
          have P6_110 := Lib.hid hc
          clear T5 hH5 R5_107 R5_106 B5_13 hr hc ht hg hp hw
          refine hK.out _ _ hH6 (fun hHeld => ?_)
          clear hK K hHeld
          try simp only [List.getElem_toArray, List.getElem_cons_zero, List.getElem_cons_succ, Act.put, List.setIfInBounds_toArray, List.set_cons_zero, List.set_cons_succ]
          refine wpAnyH_ready (rs := [13]) (by kernel_rfl) (by simp) ?_
          refine AllReadyH.cons rfl (fun K hK => ?_) AllReadyH.nil
          refine step_app_strsR rfl _ _ rfl (.slice (some ⟨g_6, 0, none⟩) va c_6) ([] ++ PA.vals) PB.vals g_6 G2 vb g2 mv (HVB.out) (HN4.out) rfl rfl R6_110.out (EB8.out.vals.turn T6.out) KKB.out.2 HG4.out ?_
          intro g_7 c_7 X7 hg hr hc ht
          have hw : w8.heap.size ≤ g_6 := by omega
          have T7 := Lib.hid (T6.out.trans_new (S := fun _ => False) ht (fun k hk e => by omega))
          have hH7 := T7.out
          have hz7 := ht.size
          have hp := R6_110.out.lt
          have hy7 := T6.out.size
          have hv7 : w8.heap.size ≤ g_7 := by omega
          have hl7_106 := R6_106.out.lt
          have hm7_13 := B6_13.out.lt
          have R7_106 := Lib.hid (R6_106.out.turn ht (by omega))
          have B7_13 := Lib.hid (B6_13.out.turn ht (by omega))
          have hq7_106 : ¬ g_5 = g_7 := by omega
          have hr7_13 : ¬ X0.heap.size = g_7 := by omega
          have R7_113 := Lib.hid hr
          have P7_113 := Lib.hid hc
          clear T6 hH6 R6_106 R6_110 B6_13 hr hc ht hg hp hw
          refine hK.out _ _ hH7 (fun hHeld => ?_)
          clear hK K hHeld
          try simp only [List.getElem_toArray, List.getElem_cons_zero, List.getElem_cons_succ, Act.put, List.setIfInBounds_toArray, List.set_cons_zero, List.set_cons_succ]
          refine wpAnyH_take (i := 14) (v := ?_) rfl (by kernel_rfl) (by kernel_rfl) (by kernel_rfl) (fun _ _ _ h => h) (Or.inl ⟨by rfl, ?_⟩) (by assumption) ?_
          rotate_left 1
          · intro w' hSw
            go_simp
            all_goals first | with_reducible rfl | (rw [if_neg (by omega)]; done) | (rw [if_pos (by omega)]; done) | (rw [if_neg (by omega)]; with_reducible rfl) | (rw [if_pos (by omega)]; with_reducible rfl)
          try simp only [List.getElem_toArray, List.getElem_cons_zero, List.getElem_cons_succ, Act.put, List.setIfInBounds_toArray, List.set_cons_zero, List.set_cons_succ]
          refine wpAnyH_ready (rs := [16]) (by kernel_rfl) (by simp) ?_
          refine AllReadyH.cons rfl (fun K hK => ?_) AllReadyH.nil
          have r0 := B7_13.out.cell 0
          have f0 := B7_13.out.free 0
          have r1 := B7_13.out.cell 1
          have f1 := B7_13.out.free 1
          have r2 := B7_13.out.cell 2
          have f2 := B7_13.out.free 2
          have r3 := B7_13.out.cell 3
          have f3 := B7_13.out.free 3
          simp only [List.getElem?_cons_zero, List.getElem?_cons_succ] at r0 r1 r2 r3
          obtain ⟨hb, hs⟩ := put4 B7_13.out (.bool true) (.slice (some ⟨g_5, 0, none⟩) mk c_5) (.slice (some ⟨g_7, 0, none⟩) mv c_7) (.slice none 0 0)
          have hx := T7.out.size
          have hS := T7.out.trans_new (S := fun _ => False) hs (fun k hk e => by omega)
          go_simp
          refine hK.out _ _ hS (fun hHeld => ?_)
          clear hK K
          try simp only [List.getElem_toArray, List.getElem_cons_zero, List.getElem_cons_succ, Act.put, List.setIfInBounds_toArray, List.set_cons_zero, List.set_cons_succ]
          refine wpAnyH_named (fun X8 e => ?_)
          clear hHeld
          have T8 := Lib.hid (e ▸ hS)
          have hH8 := T8.out
          have B8_13 := Lib.hid (e ▸ hb)
          rw [← e] at hs
          have R8_106 := Lib.hid (R7_106.out.turn hs (by omega))
          have R8_113 := Lib.hid (R7_113.out.turn hs (by omega))
          clear T7 hH7 R7_106 R7_113 B7_13 r0 f0 r1 f1 r2 f2 r3 f3 hS hb hs e
          refine wpAnyH_done (by kernel_rfl) ?_ _
          refine NoPanic.normal ?_
          go_wp2_with fail
          go_meet
          exact ⟨X0.heap.size, g_5, g_7, c_5, c_7, rfl, B8_13.out, R8_106.out, R8_113.out, T8.out⟩
      · go_simp
        refine hK.out _ _ (T1.out.alloc _) (fun hHeld => ?_)
        clear hK K
        try simp only [List.getElem_toArray, List.getElem_cons_zero, List.getElem_cons_succ, Act.put, List.setIfInBounds_toArray, List.set_cons_zero, List.set_cons_succ]
        refine wpAnyH_named (fun X2 e => ?_)
        clear hHeld
        have T2 := Lib.hid (T1.out.al e)
        have hH2 := T2.out
        have hz2 := size_al e
        have hy2 := T1.out.size
        have B2_13 := Lib.hid (B1_13.out.al e)
        have hm2_13 := B1_13.out.lt
        have R2_107 := Lib.hid (Ro.empS e)
        clear T1 hH1 B1_13 e
        refine wpAnyH_ready (rs := [0]) (by kernel_rfl) (by simp) ?_
        refine AllReadyH.cons rfl (fun K hK => ?_) AllReadyH.nil
        go_simp
        refine hK.out _ _ (T2.out.alloc _) (fun hHeld => ?_)
        clear hK K
        try simp only [List.getElem_toArray, List.getElem_cons_zero, List.getElem_cons_succ, Act.put, List.setIfInBounds_toArray, List.set_cons_zero, List.set_cons_succ]
        refine wpAnyH_named (fun X3 e => ?_)
        clear hHeld
        have T3 := Lib.hid (T2.out.al e)
        have hH3 := T3.out
        have hz3 := size_al e
        have hy3 := T2.out.size
        have R3_107 := Lib.hid (R2_107.out.al e)
        have B3_13 := Lib.hid (B2_13.out.al e)
        have hl3_107 := R2_107.out.lt
        have hm3_13 := B2_13.out.lt
        have R3_100 := Lib.hid (Ro.empS e)
        clear T2 hH2 R2_107 B2_13 e
        refine wpAnyH_ready (rs := [3]) (by kernel_rfl) (by simp) ?_
        refine AllReadyH.cons rfl (fun K hK => ?_) AllReadyH.nil
        refine step_app_strsR rfl _ _ rfl (.slice (some ⟨X2.heap.size, 0, none⟩) 0 0) [] PA.keys X2.heap.size E1 ka f1 ka (HKA.out) (HN1.out) rfl rfl R3_100.out (EA8.out.keys.turn T3.out) KKA.out.1 HG1.out ?_
        intro g_4 c_4 X4 hg hr hc ht
        have hw : w8.heap.size ≤ X2.heap.size := by omega
        have T4 := Lib.hid (T3.out.trans_new (S := fun _ => False) ht (fun k hk e => by omega))
        have hH4 := T4.out
        have hz4 := ht.size
        have hp := R3_100.out.lt
        have hy4 := T3.out.size
        have hv4 : w8.heap.size ≤ g_4 := by omega
        have hl4_107 := R3_107.out.lt
        have hm4_13 := B3_13.out.lt
        have R4_107 := Lib.hid (R3_107.out.turn ht (by omega))
        have B4_13 := Lib.hid (B3_13.out.turn ht (by omega))
        have hq4_107 : ¬ X1.heap.size = g_4 := by omega
        have hr4_13 : ¬ X0.heap.size = g_4 := by omega
        have R4_103 := Lib.hid hr
        have P4_103 := Lib.hid hc
        clear T3 hH3 R3_107 R3_100 B3_13 hr hc ht hg hp hw
        refine hK.out _ _ hH4 (fun hHeld => ?_)
        clear hK K hHeld
        try simp only [List.getElem_toArray, List.getElem_cons_zero, List.getElem_cons_succ, Act.put, List.setIfInBounds_toArray, List.set_cons_zero, List.set_cons_succ]
        refine wpAnyH_ready (rs := [6]) (by kernel_rfl) (by simp) ?_
        refine AllReadyH.cons rfl (fun K hK => ?_) AllReadyH.nil
        refine step_app_strsR rfl _ _ rfl (.slice (some ⟨g_4, 0, none⟩) ka c_4) ([] ++ PA.keys) PB.keys g_4 (some ⟨b1, o1, none⟩) kb g1 mk (HKB.out) (HN2.out) rfl rfl R4_103.out (EB8.out.keys.turn T4.out) KKB.out.1 HG2.out ?_
        intro g_5 c_5 X5 hg hr hc ht
        have hw : w8.heap.size ≤ g_4 := by omega
        have T5 := Lib.hid (T4.out.trans_new (S := fun _ => False) ht (fun k hk e => by omega))
        have hH5 := T5.out
        have hz5 := ht.size
        have hp := R4_103.out.lt
        have hy5 := T4.out.size
        have hv5 : w8.heap.size ≤ g_5 := by omega
        have hl5_107 := R4_107.out.lt
        have hm5_13 := B4_13.out.lt
        have R5_107 := Lib.hid (R4_107.out.turn ht (by omega))
        have B5_13 := Lib.hid (B4_13.out.turn ht (by omega))
        have hq5_107 : ¬ X1.heap.size = g_5 := by omega
        have hr5_13 : ¬ X0.heap.size = g_5 := by omega
        have R5_106 := Lib.hid hr
        have P5_106 := Lib.hid hc
        clear T4 hH4 R4_107 R4_103 B4_13 hr hc ht hg hp hw
        refine hK.out _ _ hH5 (fun hHeld => ?_)
        clear hK K hHeld
        try simp only [List.getElem_toArray, List.getElem_cons_zero, List.getElem_cons_succ, Act.put, List.setIfInBounds_toArray, List.set_cons_zero, List.set_cons_succ]
        refine wpAnyH_ready (rs := [10]) (by kernel_rfl) (by simp) ?_
        refine AllReadyH.cons rfl (fun K hK => ?_) AllReadyH.nil
        refine step_app_strsR rfl _ _ rfl (.slice (some ⟨X1.heap.size, 0, none⟩) 0 0) [] PA.vals X1.heap.size E2 va f2 va (HVA.out) (HN3.out) rfl rfl R5_107.out (EA8.out.vals.turn T5.out) KKA.out.2 HG3.out ?_
        intro g_6 c_6 X6 hg hr hc ht
        have hw : w8.heap.size ≤ X1.heap.size := by omega
        have T6 := Lib.hid (T5.out.trans_new (S := fun _ => False) ht (fun k hk e => by omega))
        have hH6 := T6.out
        have hz6 := ht.size
        have hp := R5_107.out.lt
        have hy6 := T5.out.size
        have hv6 : w8.heap.size ≤ g_6 := by omega
        have hl6_106 := R5_106.out.lt
        have hm6_13 := B5_13.out.lt
        have R6_106 := Lib.hid (R5_106.out.turn ht (by omega))
        have B6_13 := Lib.hid (B5_13.out.turn ht (by omega))
        have hq6_106 : ¬ g_5 = g_6 := by omega
        have hr6_13 : ¬ X0.heap.size = g_6 := by omega
        have R6_110 := Lib.hid hr
        have P6_110 := Lib.hid hc
        clear T5 hH5 R5_107 R5_106 B5_13 hr hc ht hg hp hw
        refine hK.out _ _ hH6 (fun hHeld => ?_)
        clear hK K hHeld
        try simp only [List.getElem_toArray, List.getElem_cons_zero, List.getElem_cons_succ, Act.put, List.setIfInBounds_toArray, List.set_cons_zero, List.set_cons_succ]
        refine wpAnyH_ready (rs := [13]) (by kernel_rfl) (by simp) ?_
        refine AllReadyH.cons rfl (fun K hK => ?_) AllReadyH.nil
        refine step_app_strsR rfl _ _ rfl (.slice (some ⟨g_6, 0, none⟩) va c_6) ([] ++ PA.vals) PB.vals g_6 G2 vb g2 mv (HVB.out) (HN4.out) rfl rfl R6_110.out (EB8.out.vals.turn T6.out) KKB.out.2 HG4.out ?_
        intro g_7 c_7 X7 hg hr hc ht
        have hw : w8.heap.size ≤ g_6 := by omega
        have T7 := Lib.hid (T6.out.trans_new (S := fun _ => False) ht (fun k hk e => by omega))
        have hH7 := T7.out
        have hz7 := ht.size
        have hp := R6_110.out.lt
        have hy7 := T6.out.size
        have hv7 : w8.heap.size ≤ g_7 := by omega
        have hl7_106 := R6_106.out.lt
        have hm7_13 := B6_13.out.lt
        have R7_106 := Lib.hid (R6_106.out.turn ht (by omega))
        have B7_13 := Lib.hid (B6_13.out.turn ht (by omega))
        have hq7_106 : ¬ g_5 = g_7 := by omega
        have hr7_13 : ¬ X0.heap.size = g_7 := by omega
        have R7_113 := Lib.hid hr
        have P7_113 := Lib.hid hc
        clear T6 hH6 R6_106 R6_110 B6_13 hr hc ht hg hp hw
        refine hK.out _ _ hH7 (fun hHeld => ?_)
        clear hK K hHeld
        try simp only [List.getElem_toArray, List.getElem_cons_zero, List.getElem_cons_succ, Act.put, List.setIfInBounds_toArray, List.set_cons_zero, List.set_cons_succ]
        refine wpAnyH_take (i := 14) (v := ?_) rfl (by kernel_rfl) (by kernel_rfl) (by kernel_rfl) (fun _ _ _ h => h) (Or.inl ⟨by rfl, ?_⟩) (by assumption) ?_
        rotate_left 1
        · intro w' hSw
          go_simp
          all_goals first | with_reducible rfl | (rw [if_neg (by omega)]; done) | (rw [if_pos (by omega)]; done) | (rw [if_neg (by omega)]; with_reducible rfl) | (rw [if_pos (by omega)]; with_reducible rfl)
        try simp only [List.getElem_toArray, List.getElem_cons_zero, List.getElem_cons_succ, Act.put, List.setIfInBounds_toArray, List.set_cons_zero, List.set_cons_succ]
        refine wpAnyH_ready (rs := [16]) (by kernel_rfl) (by simp) ?_
        refine AllReadyH.cons rfl (fun K hK => ?_) AllReadyH.nil
        have r0 := B7_13.out.cell 0
        have f0 := B7_13.out.free 0
        have r1 := B7_13.out.cell 1
        have f1 := B7_13.out.free 1
        have r2 := B7_13.out.cell 2
        have f2 := B7_13.out.free 2
        have r3 := B7_13.out.cell 3
        have f3 := B7_13.out.free 3
        simp only [List.getElem?_cons_zero, List.getElem?_cons_succ] at r0 r1 r2 r3
        obtain ⟨hb, hs⟩ := put4 B7_13.out (.bool true) (.slice (some ⟨g_5, 0, none⟩) mk c_5) (.slice (some ⟨g_7, 0, none⟩) mv c_7) (.slice none 0 0)
        have hx := T7.out.size
        have hS := T7.out.trans_new (S := fun _ => False) hs (fun k hk e => by omega)
        go_simp
        refine hK.out _ _ hS (fun hHeld => ?_)
        clear hK K
        try simp only [List.getElem_toArray, List.getElem_cons_zero, List.getElem_cons_succ, Act.put, List.setIfInBounds_toArray, List.set_cons_zero, List.set_cons_succ]
        refine wpAnyH_named (fun X8 e => ?_)
        clear hHeld
        have T8 := Lib.hid (e ▸ hS)
        have hH8 := T8.out
        have B8_13 := Lib.hid (e ▸ hb)
        rw [← e] at hs
        have R8_106 := Lib.hid (R7_106.out.turn hs (by omega))
        have R8_113 := Lib.hid (R7_113.out.turn hs (by omega))
        clear T7 hH7 R7_106 R7_113 B7_13 r0 f0 r1 f1 r2 f2 r3 f3 hS hb hs e
        refine wpAnyH_done (by kernel_rfl) ?_ _
        refine NoPanic.normal ?_
        go_wp2_with fail
        go_meet
        exact ⟨X0.heap.size, g_5, g_7, c_5, c_7, rfl, B8_13.out, R8_106.out, R8_113.out, T8.out⟩
  case rest =>
    obtain ⟨Y, gA, gB, cA, cB, rfl, hBY, hRA, hRB, hTX⟩ := hcut
    obtain rfl : md = 0 := HMD.out
    have s1 := hRA.sr
    have s2 := hRB.sr
    rw [List.nil_append, HJK.out] at s1
    rw [List.nil_append, HJV.out] at s2
    have NW := Lib.hid (show No wc (some ⟨gA, 0, none⟩) cA (some ⟨gB, 0, none⟩) cB none 0 MN from ⟨s1, s2, by rw [HKI.out]; exact nr_nil _ _⟩)
    have NM := Lib.hid (N8.out.turn hTX)
    have TX := Lib.hid (T8.out.trans hTX)
    have x0 : wc.cell? ⟨w4.heap.size, 0, none⟩ = some (.bool true) := (BA8.out.turn hTX (fun h => h)).cell 0
    have z0 : wc.cell? ⟨w4.heap.size + 1, 0, none⟩ = some (.bool true) := (BB8.out.turn hTX (fun h => h)).cell 0
    have u0 : (wc).cell? ⟨Y, 0, none⟩ = some (.bool true) := hBY.cell 0
    have u1 : (wc).cell? ⟨Y, 1, none⟩ = some (.slice (some ⟨gA, 0, none⟩) mk cA) := hBY.cell 1
    have u2 : (wc).cell? ⟨Y, 2, none⟩ = some (.slice (some ⟨gB, 0, none⟩) mv cB) := hBY.cell 2
    have u3 : (wc).cell? ⟨Y, 3, none⟩ = some (.slice none 0 0) := hBY.cell 3
    have m0 : (wc).cell? ⟨w3.heap.size, 0, none⟩ = some (.bool true) := (M8.out.turn hTX (fun h => h)).cell 0
    have m1 : (wc).cell? ⟨w3.heap.size, 1, none⟩ = some (.slice B1 mk d1) := (M8.out.turn hTX (fun h => h)).cell 1
    have m2 : (wc).cell? ⟨w3.heap.size, 2, none⟩ = some (.slice B2 mv d2) := (M8.out.turn hTX (fun h => h)).cell 2
    have m3 : (wc).cell? ⟨w3.heap.size, 3, none⟩ = some (.slice B3 0 d3) := (M8.out.turn hTX (fun h => h)).cell 3
    clear hRA hRB hBY hTX s1 s2
    go_wp2_with fail
    refine (HNM.out _ (some ⟨gA, 0, none⟩) cA (some ⟨gB, 0, none⟩) cB none 0 B1 d1 B2 d2 B3 d3 NW.out NM.out).mono ?_
    rintro e w20 ⟨rfl, ht20⟩
    have T20 := Lib.hid (TX.out.trans ht20)
    clear ht20
    go_wp2_with fail
    refine (HLV.out _).mono ?_
    rintro e w21 ⟨rfl, ht21⟩
    have T21 := Lib.hid ((T20.out).trans ht21)
    go_wp2_with fail
    go_ret
    exact ⟨rfl, turn_below8 T21.out⟩
end Go.Proofs.Ytpnnbfojdccfhaa
