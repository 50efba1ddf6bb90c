/- The walk of ambrylaw08.PageHalves: what Put and Split make, plain; Split says no. -/
import Derived.Test.YtpnnbfojdccfhaaPhA
namespace Go.Proofs.Ytpnnbfojdccfhaa
open Go.RowKit
set_option linter.unusedVariables false
set_option maxRecDepth 100000

theorem ph_put {n : Nd} {key val : ByteArray} (hfw : few8 n = true) (hs : Stands8 n) (hlf : n.leaf = true) (hkz : key.size ≤ 128) (hvz : val.size ≤ 200) (hsz : size8 n ≤ 1024) {MN : Nd} (hM : put8 n (find8 n key).1 (gone8 (find8 n key).2) key val = MN) :
    Stands8 MN ∧ MN.leaf = true ∧ Few8 MN ∧ size8 MN ≤ 1355 ∧ 1 ≤ MN.keys.length ∧ MN.keys.length ≤ 1000 := by
  subst hM
  have h500 : n.keys.length ≤ 500 := by unfold few8 at hfw; simp at hfw; omega
  obtain ⟨a1, a2, _, _⟩ := around (key := key) hs hlf
  have SM := put_stands (key := key) (val := val) hs hlf hkz hvz
  have hmlen : (put8 n (find8 n key).1 (gone8 (find8 n key).2) key val).keys.length ≤ 1000 ∧ 1 ≤ (put8 n (find8 n key).1 (gone8 (find8 n key).2) key val).keys.length := by
    show (chg8 _ _ _ _).length ≤ 1000 ∧ 1 ≤ (chg8 _ _ _ _).length
    rw [len_chg a2]; simp; omega
  have hz := put_size n (find8 n key).1 (gone8 (find8 n key).2) key val hlf a2
  exact ⟨SM, rfl, few8_of SM rfl (by omega), by omega, hmlen.2, hmlen.1⟩
theorem ph_one {m : Nd} (hs : Stands8 m) (hl : m.leaf = true) (h1 : m.keys.length ≤ 1) : check8 m = 0 := by
  obtain ⟨hk, _, hv, hvl, _⟩ := (stands_leaf2 hl).1 hs
  have h2 := sumS_le hk
  have h3 := sumS_le hv
  rw [hvl] at h3
  have h4 : m.keys.length * 128 ≤ 128 := by omega
  have h5 : m.keys.length * 200 ≤ 200 := by omega
  unfold check8
  rw [st8_yes hs, if_pos rfl, if_pos (by rw [size_leaf hl]; omega)]
theorem ph_parts {m : Nd} (hs : Stands8 m) (hl : m.leaf = true) (hf : Few8 m) (hz : size8 m ≤ 1355) {k : Nat} (h1 : 1 ≤ k) (hk : k < m.keys.length) (hlo : ∀ i, 1 ≤ i → i < k → size8 (part8 m 0 i) < size8 m / 2) (hhi : k + 1 < m.keys.length → size8 m / 2 ≤ size8 (part8 m 0 k)) {PA PB : Nd} (hA : part8 m 0 k = PA) (hB : part8 m k m.keys.length = PB) :
    (check8 PA = 0 ∧ check8 PB = 0 ∧ PA.leaf = true ∧ PB.leaf = true ∧ Few8 PA ∧ Few8 PB) ∧ (0 < PA.keys.length ∧ 0 < PB.keys.length ∧ PA.keys.length ≤ 2000 ∧ PB.keys.length ≤ 2000 ∧ PA.vals.length ≤ 2000 ∧ PB.vals.length ≤ 2000) ∧ PB.keys[0]? = some (key8 m.keys k) ∧ PA.keys ++ PB.keys = m.keys ∧ PA.vals ++ PB.vals = m.vals := by
  obtain ⟨c1, c2⟩ := halves8 hs hl hz h1 hk hlo hhi
  obtain ⟨w1, w2⟩ := whole8 hs hl (k := k)
  have fa := few_part hf 0 k
  have fb := few_part hf k m.keys.length
  have lb : (part8 m k m.keys.length).keys = (m.keys.take m.keys.length).drop k := by unfold part8; rw [hl]; rfl
  have la : (part8 m 0 k).keys = (m.keys.take k).drop 0 := by unfold part8; rw [hl]; rfl
  subst hA hB
  refine ⟨⟨c1, c2, part_leaf hl _ _, part_leaf hl _ _, fa, fb⟩, ⟨?_, ?_, fa.nk, fb.nk, fa.nv, fb.nv⟩, ?_, w1, w2⟩
  · rw [la, List.length_drop, List.length_take]; omega
  · rw [lb, List.length_drop, List.length_take]; omega
  · rw [lb, List.take_length, List.getElem?_drop, Nat.add_zero, List.getElem?_eq_getElem hk]
    unfold key8
    rw [List.getD_eq_getElem?_getD, List.getElem?_eq_getElem hk]; rfl
set_option maxHeartbeats 4000000 in
theorem pageHalves_one (n : Nd) (key val : ByteArray) (w : World) (A1 : Option Addr) (c1 : Nat) (A2 : Option Addr) (c2 : Nat) (A3 : Option Addr) (c3 : Nat) (hfw : few8 n = true) (hlf : n.leaf = true) (hno : No w A1 c1 A2 c2 A3 c3 n) (hc1 : Cp A1 n.keys.length c1) (hc2 : Cp A2 n.vals.length c2) (hf : Few8 n) (hc : check8 n = 0) (hp : pok8 n key val = true) (hM : (put8 n (find8 n key).1 (gone8 (find8 n key).2) key val).keys.length ≤ 1) :
    Calls Try.prog 7 #[nv8 A1 c1 A2 c2 A3 c3 n, .string key, .string val] w fun e w' => e = .returned (.bool true) ∧ Below w.heap.size w w' := by
  have HFW := Lib.hid (fun W => few_any n A1 c1 A2 c2 A3 c3 W)
  have T0 := Lib.hid ((Turn.refl (fun _ => False) w).alloc (.cells #[.bool n.leaf, .slice A1 n.keys.length c1, .slice A2 n.vals.length c2, .slice A3 n.kids.length c3] 26))
  have B0 := Lib.hid (Blk.new w 26 [.bool n.leaf, .slice A1 n.keys.length c1, .slice A2 n.vals.length c2, .slice A3 n.kids.length c3])
  have HLV := Lib.hid (fun W => lives8 W)
  have hs : Stands8 n := by
    by_cases h : st8 n = true
    · exact st8_of h
    · unfold check8 at hc; rw [if_neg h] at hc; cases hc
  have hsz : size8 n ≤ 1024 := by
    unfold check8 at hc
    rw [st8_yes hs, if_pos rfl] at hc
    by_cases h : size8 n ≤ 1024
    · exact h
    · rw [if_neg h] at hc; cases hc
  have HCK := Lib.hid (fun W (ht : Turn (fun _ => False) w W) => check_any n A1 c1 A2 c2 A3 c3 W (hno.turn ht) hf)
  rw [hc] at HCK
  have hp2 := hp
  unfold pok8 at hp2
  simp only [Bool.and_eq_true, decide_eq_true_eq] at hp2
  obtain ⟨_, _, hkz, hvz⟩ := hp2
  have HPU := Lib.hid (fun W (ht : Turn (fun _ => False) w W) => put_yes n key val A1 c1 A2 c2 A3 c3 W (hno.turn ht) hc1 hc2 hf hp)
  obtain ⟨MN, hMN⟩ : ∃ m, put8 n (find8 n key).1 (gone8 (find8 n key).2) key val = m := ⟨_, rfl⟩
  obtain ⟨SM, hml, FM, hmz, hm1, hm2⟩ := ph_put hfw hs hlf hkz hvz hsz hMN
  rw [hMN] at HPU hM
  have hck := ph_one SM hml hM
  have HSP := Lib.hid (fun W B1 d1 B2 d2 B3 d3 (h : No W B1 d1 B2 d2 B3 d3 MN) => split_no MN B1 d1 B2 d2 B3 d3 W h FM (.inr (by rw [hml]; exact hM)))
  have HCM := Lib.hid (fun W B1 d1 B2 d2 B3 d3 (h : No W B1 d1 B2 d2 B3 d3 MN) => check_any MN B1 d1 B2 d2 B3 d3 W h FM)
  rw [hck] at HCM
  rw [hfw] at HFW
  clear hno hf hp hs hsz hc hc1 hc2 hkz hvz SM FM hmz hck hMN
  simp only [nv8] at *
  rw [hlf] at *
  rw [hml] at HSP HCM
  generalize n.keys.length = nk at *
  generalize n.vals.length = nv at *
  generalize n.kids.length = nd at *
  generalize hmk : MN.keys.length = mk at *
  generalize hmv : MN.vals.length = mv at *
  generalize hmd : MN.kids.length = md at *
  go_enter Try.func7, Try.ntmps7
  go_wp2_with fail
  refine (HFW.out _).mono ?_
  rintro e w1 ⟨rfl, ht1⟩
  have T1 := Lib.hid (T0.out.trans ht1)
  have B1 := Lib.hid (B0.out.turn ht1 (fun h => h))
  clear ht1 T0 B0
  have y0 : (w1).cell? ⟨w.heap.size, 0, none⟩ = some (.bool true) := B1.out.cell 0
  have y1 : (w1).cell? ⟨w.heap.size, 1, none⟩ = some (.slice A1 nk c1) := B1.out.cell 1
  have y2 : (w1).cell? ⟨w.heap.size, 2, none⟩ = some (.slice A2 nv c2) := B1.out.cell 2
  have y3 : (w1).cell? ⟨w.heap.size, 3, none⟩ = some (.slice A3 nd c3) := B1.out.cell 3
  go_wp2_with fail
  refine (HCK.out _ T1.out).mono ?_
  rintro e w2 ⟨rfl, ht2⟩
  have T2 := Lib.hid (T1.out.trans ht2)
  have B2 := Lib.hid (B1.out.turn ht2 (fun h => h))
  clear ht2 T1 y0 y1 y2 y3
  have y0 : (w2).cell? ⟨w.heap.size, 0, none⟩ = some (.bool true) := B2.out.cell 0
  have y1 : (w2).cell? ⟨w.heap.size, 1, none⟩ = some (.slice A1 nk c1) := B2.out.cell 1
  have y2 : (w2).cell? ⟨w.heap.size, 2, none⟩ = some (.slice A2 nv c2) := B2.out.cell 2
  have y3 : (w2).cell? ⟨w.heap.size, 3, none⟩ = some (.slice A3 nd c3) := B2.out.cell 3
  go_wp2_with fail
  refine (HPU.out _ T2.out).mono ?_
  rintro e w3 ⟨vM, rfl, hnoM, ht3⟩
  obtain ⟨B1, d1, B2, d2, B3, d3, rfl, hnm, k1, k2, k3⟩ := hnoM
  have T3 := Lib.hid ((T2.out.trans ht3).alloc (.cells #[.bool true, .slice B1 mk d1, .slice B2 mv d2, .slice B3 md d3] 26))
  clear ht3 y0 y1 y2 y3
  simp only [nv8]
  rw [hml, hmk, hmv, hmd]
  rw [hmk] at k1
  rw [hmv] at k2
  rw [hmd] at k3
  have M3 := Lib.hid (Blk.new w3 26 [.bool true, .slice B1 mk d1, .slice B2 mv d2, .slice B3 md d3])
  have N3 := Lib.hid (hnm.turn ((Turn.refl _ w3).alloc (.cells #[.bool true, .slice B1 mk d1, .slice B2 mv d2, .slice B3 md d3] 26)))
  clear hnm
  go_wp2_with fail
  refine (HSP.out _ B1 d1 B2 d2 B3 d3 N3.out).mono ?_
  rintro e w4 ⟨rfl, ht4⟩
  have NB := Lib.hid (((Turn.refl (fun _ => False) w4).alloc (.cells #[(.bool false), (.slice none 0 0), (.slice none 0 0), (.slice none 0 0)] 26)).alloc (.cells #[(.bool false), (.slice none 0 0), (.slice none 0 0), (.slice none 0 0)] 26))
  have T4 := Lib.hid ((T3.out.trans ht4).trans NB.out)
  have M4 := Lib.hid ((M3.out.turn ht4 (fun h => h)).turn NB.out (fun h => h))
  have N4 := Lib.hid ((N3.out.turn ht4).turn NB.out)
  clear ht4 NB
  have m0 : (((w4.alloc (.cells #[(.bool false), (.slice none 0 0), (.slice none 0 0), (.slice none 0 0)] 26)).alloc (.cells #[(.bool false), (.slice none 0 0), (.slice none 0 0), (.slice none 0 0)] 26))).cell? ⟨w3.heap.size, 0, none⟩ = some (.bool true) := M4.out.cell 0
  have m1 : (((w4.alloc (.cells #[(.bool false), (.slice none 0 0), (.slice none 0 0), (.slice none 0 0)] 26)).alloc (.cells #[(.bool false), (.slice none 0 0), (.slice none 0 0), (.slice none 0 0)] 26))).cell? ⟨w3.heap.size, 1, none⟩ = some (.slice B1 mk d1) := M4.out.cell 1
  have m2 : (((w4.alloc (.cells #[(.bool false), (.slice none 0 0), (.slice none 0 0), (.slice none 0 0)] 26)).alloc (.cells #[(.bool false), (.slice none 0 0), (.slice none 0 0), (.slice none 0 0)] 26))).cell? ⟨w3.heap.size, 2, none⟩ = some (.slice B2 mv d2) := M4.out.cell 2
  have m3 : (((w4.alloc (.cells #[(.bool false), (.slice none 0 0), (.slice none 0 0), (.slice none 0 0)] 26)).alloc (.cells #[(.bool false), (.slice none 0 0), (.slice none 0 0), (.slice none 0 0)] 26))).cell? ⟨w3.heap.size, 3, none⟩ = some (.slice B3 md d3) := M4.out.cell 3
  have hmk1 : (mk : Int) < 2 := by omega
  go_wp2_with fail
  refine (HCM.out _ B1 d1 B2 d2 B3 d3 N4.out).mono ?_
  rintro e w6 ⟨rfl, ht6⟩
  have T6 := Lib.hid (T4.out.trans ht6)
  clear ht6
  go_wp2_with fail
  refine (HLV.out _).mono ?_
  rintro e w7 ⟨rfl, ht7⟩
  have T7 := Lib.hid ((T6.out).trans ht7)
  go_wp2_with fail
  go_ret
  exact ⟨rfl, turn_below8 T7.out⟩
end Go.Proofs.Ytpnnbfojdccfhaa
