/- The walk of ambrylaw08.PageTurns. -/
import Derived.Test.YtpnnbfojdccfhaaPgWd
namespace Go.Proofs.Ytpnnbfojdccfhaa
open Go.RowKit
set_option linter.unusedVariables false
set_option linter.unusedSimpArgs false
set_option maxRecDepth 100000

/-- What Put, and Drop, answer. -/
noncomputable def pm8 (n : Nd) (key val : ByteArray) : Nd := if pok8 n key val then put8 n (find8 n key).1 (gone8 (find8 n key).2) key val else nil8
noncomputable def pe8 (n : Nd) (key val : ByteArray) : Nat := if pok8 n key val then 0 else 2
noncomputable def dm8 (n : Nd) (key : ByteArray) : Nd := if (find8 n key).2 then drop8 n (find8 n key).1 else nil8
theorem nil_noO (w : World) : NoO w (.agg #[.bool false, .slice none 0 0, .slice none 0 0, .slice none 0 0]) nil8 := ⟨none, 0, none, 0, none, 0, rfl, ⟨sr_nil _ _, sr_nil _ _, nr_nil _ _⟩, ⟨Nat.le_refl _, by unfold maxLen; decide, fun _ => rfl⟩, ⟨Nat.le_refl _, by unfold maxLen; decide, fun _ => rfl⟩, ⟨Nat.le_refl _, by unfold maxLen; decide, fun _ => rfl⟩⟩
theorem put_all (n : Nd) (key val : ByteArray) (hkz : key.size ≤ 140737488351232) (hvz : val.size ≤ 140737488351232) (A1 : Option Addr) (c1 : Nat) (A2 : Option Addr) (c2 : Nat) (A3 : Option Addr) (c3 : Nat) (w : World) (h : No w A1 c1 A2 c2 A3 c3 n) (hc1 : Cp A1 n.keys.length c1) (hc2 : Cp A2 n.vals.length c2) (hf : Few8 n) :
    Calls Try.prog 16 #[nv8 A1 c1 A2 c2 A3 c3 n, .string key, .string val] w fun e w' => ∃ v, e = .returned (.tuple #[v, .int .i64 (pe8 n key val : Nat)]) ∧ NoO w' v (pm8 n key val) ∧ Turn (fun _ => False) w w' := by
  unfold pe8 pm8
  cases hp : pok8 n key val with
  | false =>
    refine (put_no n key val hkz hvz A1 c1 A2 c2 A3 c3 w h hf hp).mono ?_
    rintro e w' ⟨rfl, ht⟩
    exact ⟨_, rfl, nil_noO _, ht⟩
  | true =>
    exact put_yes n key val A1 c1 A2 c2 A3 c3 w h hc1 hc2 hf hp
theorem refPut_all (n : Nd) (key val : ByteArray) (hkz : key.size ≤ 140737488351232) (hvz : val.size ≤ 140737488351232) (A1 : Option Addr) (c1 : Nat) (A2 : Option Addr) (c2 : Nat) (A3 : Option Addr) (c3 : Nat) (w : World) (h : No w A1 c1 A2 c2 A3 c3 n) (hc1 : Cp A1 n.keys.length c1) (hc2 : Cp A2 n.vals.length c2) (hf : Few8 n) :
    Calls Try.prog 17 #[nv8 A1 c1 A2 c2 A3 c3 n, .string key, .string val] w fun e w' => ∃ v, e = .returned (.tuple #[v, .int .i64 (pe8 n key val : Nat)]) ∧ NoO w' v (pm8 n key val) ∧ Turn (fun _ => False) w w' := by
  unfold pe8 pm8
  cases hp : pok8 n key val with
  | false =>
    refine (refPut_no n key val hkz hvz A1 c1 A2 c2 A3 c3 w h hf hp).mono ?_
    rintro e w' ⟨rfl, ht⟩
    exact ⟨_, rfl, nil_noO _, ht⟩
  | true =>
    cases hq : (find8 n key).2 with
    | false => have := refPut_new n key val hkz A1 c1 A2 c2 A3 c3 w h hc1 hc2 hf hp hq; rw [hq] at this; exact this
    | true => have := refPut_old n key val hkz A1 c1 A2 c2 A3 c3 w h hc1 hc2 hf hp hq; rw [hq] at this; exact this
theorem drop_all (n : Nd) (key : ByteArray) (A1 : Option Addr) (c1 : Nat) (A2 : Option Addr) (c2 : Nat) (A3 : Option Addr) (c3 : Nat) (w : World) (h : No w A1 c1 A2 c2 A3 c3 n) (hc1 : Cp A1 n.keys.length c1) (hc2 : Cp A2 n.vals.length c2) (hf : Few8 n) :
    Calls Try.prog 18 #[nv8 A1 c1 A2 c2 A3 c3 n, .string key] w fun e w' => ∃ v, e = .returned (.tuple #[v, .bool (find8 n key).2]) ∧ NoO w' v (dm8 n key) ∧ Turn (fun _ => False) w w' := by
  unfold dm8
  cases hq : (find8 n key).2 with
  | false =>
    refine (drop_no n key A1 c1 A2 c2 A3 c3 w h hf hq).mono ?_
    rintro e w' ⟨rfl, ht⟩
    exact ⟨_, rfl, nil_noO _, ht⟩
  | true =>
    refine (drop_yes n key A1 c1 A2 c2 A3 c3 w h hc1 hc2 hf hq).mono ?_
    rintro e w' ⟨v, rfl, hn, ht⟩
    exact ⟨_, rfl, hn, ht⟩
theorem refDrop_all (n : Nd) (key : ByteArray) (hkz : key.size ≤ 140737488351232) (A1 : Option Addr) (c1 : Nat) (A2 : Option Addr) (c2 : Nat) (A3 : Option Addr) (c3 : Nat) (w : World) (h : No w A1 c1 A2 c2 A3 c3 n) (hc1 : Cp A1 n.keys.length c1) (hc2 : Cp A2 n.vals.length c2) (hf : Few8 n) :
    Calls Try.prog 19 #[nv8 A1 c1 A2 c2 A3 c3 n, .string key] w fun e w' => ∃ v, e = .returned (.tuple #[v, .bool (find8 n key).2]) ∧ NoO w' v (dm8 n key) ∧ Turn (fun _ => False) w w' := by
  unfold dm8
  cases hq : (find8 n key).2 with
  | false =>
    refine (refDrop_no n key hkz A1 c1 A2 c2 A3 c3 w h hf hq).mono ?_
    rintro e w' ⟨rfl, ht⟩
    exact ⟨_, rfl, nil_noO _, ht⟩
  | true =>
    refine (refDrop_yes n key hkz A1 c1 A2 c2 A3 c3 w h hc1 hc2 hf hq).mono ?_
    rintro e w' ⟨v, rfl, hn, ht⟩
    exact ⟨_, rfl, hn.o, ht⟩
theorem pm_len {n : Nd} {key val : ByteArray} (hf : Few8 n) : (pm8 n key val).keys.length ≤ 100000 ∧ (pm8 n key val).vals.length ≤ 100000 ∧ (pm8 n key val).kids.length ≤ 100000 := by
  have h1 := hf.nk
  have h2 := hf.nv
  have hl : ∀ (L : List ByteArray) (a g : Nat) (s : ByteArray), (chg8 L a g [s]).length ≤ L.length + 1 := fun L a g s => by unfold chg8; simp only [List.length_append, List.length_take, List.length_drop, List.length_cons, List.length_nil]; omega
  unfold pm8
  cases pok8 n key val with
  | false => rw [if_neg (by decide)]; exact ⟨by decide, by decide, by decide⟩
  | true =>
    rw [if_pos rfl]
    have e1 := hl n.keys (find8 n key).1 (gone8 (find8 n key).2) key
    have e2 := hl n.vals (find8 n key).1 (gone8 (find8 n key).2) val
    exact ⟨by show (chg8 _ _ _ _).length ≤ _; omega, by show (chg8 _ _ _ _).length ≤ _; omega, by show 0 ≤ 100000; omega⟩
theorem dm_len {n : Nd} {key : ByteArray} (hf : Few8 n) : (dm8 n key).keys.length ≤ 100000 ∧ (dm8 n key).vals.length ≤ 100000 ∧ (dm8 n key).kids.length ≤ 100000 := by
  unfold dm8
  cases (find8 n key).2 with
  | false => rw [if_neg (by decide)]; exact ⟨by decide, by decide, by decide⟩
  | true =>
    rw [if_pos rfl]
    have := few_drop hf (find8 n key).1
    exact ⟨by have := this.nk; omega, by have := this.nv; omega, by have := this.nd; omega⟩
theorem pageTurns_few (n : Nd) (key val : ByteArray) (w : World) (A1 : Option Addr) (c1 : Nat) (A2 : Option Addr) (c2 : Nat) (A3 : Option Addr) (c3 : Nat) (hfw : few8 n = false) :
    Calls Try.prog 4 #[nv8 A1 c1 A2 c2 A3 c3 n, .string key, .string val] w fun e w' => e = .returned (.bool true) ∧ Below w.heap.size w w' := by
  have HFW := Lib.hid (fun W => few_any n A1 c1 A2 c2 A3 c3 W)
  rw [hfw] at HFW
  have HLV := Lib.hid (fun W => lives8 W)
  have T0 := Lib.hid ((Turn.refl (fun _ => False) w).alloc (.cells #[.bool n.leaf, .slice A1 n.keys.length c1, .slice A2 n.vals.length c2, .slice A3 n.kids.length c3] 26))
  have B0_n := Lib.hid (Blk.new w 26 [.bool n.leaf, .slice A1 n.keys.length c1, .slice A2 n.vals.length c2, .slice A3 n.kids.length c3])
  simp only [nv8] at *
  generalize n.leaf = lf at *
  generalize n.keys.length = nk at *
  generalize n.vals.length = nv at *
  generalize n.kids.length = nd at *
  go_enter Try.func4, Try.ntmps4
  go_wp2_with fail
  refine (HFW.out _).mono ?_
  rintro e w1 ⟨rfl, ht⟩
  have T1 := Lib.hid (T0.out.trans ht)
  have B1_n := Lib.hid (B0_n.out.turn ht (fun h => h))
  clear ht  T0 B0_n 
  go_wp2_with fail
  refine (HLV.out _).mono ?_
  rintro e w2 ⟨rfl, ht⟩
  have T2 := Lib.hid (T1.out.trans ht)
  have B2_n := Lib.hid (B1_n.out.turn ht (fun h => h))
  clear ht  T1 B1_n 
  go_wp2_with fail
  go_ret
  exact ⟨rfl, turn_below8 T2.out⟩
set_option maxHeartbeats 8000000 in
theorem pageTurns_all (n : Nd) (key val : ByteArray) (hkz : key.size ≤ 140737488351232) (hvz : val.size ≤ 140737488351232) (w : World) (A1 : Option Addr) (c1 : Nat) (A2 : Option Addr) (c2 : Nat) (A3 : Option Addr) (c3 : Nat) (hfw : few8 n = true) (hno : No w A1 c1 A2 c2 A3 c3 n) (hc1 : Cp A1 n.keys.length c1) (hc2 : Cp A2 n.vals.length c2) (hf : Few8 n) :
    Calls Try.prog 4 #[nv8 A1 c1 A2 c2 A3 c3 n, .string key, .string val] w fun e w' => e = .returned (.bool true) ∧ Below w.heap.size w w' := by
  have HFW := Lib.hid (fun W => few_any n A1 c1 A2 c2 A3 c3 W)
  rw [hfw] at HFW
  have HLV := Lib.hid (fun W => lives8 W)
  have HF := Lib.hid (fun W (ht : Turn (fun _ => False) w W) => find_any n key A1 c1 A2 c2 A3 c3 W (hno.turn ht) hf)
  have HRF := Lib.hid (fun W (ht : Turn (fun _ => False) w W) => refFind_any n key hkz A1 c1 A2 c2 A3 c3 W (hno.turn ht) hf)
  have HP := Lib.hid (fun W (ht : Turn (fun _ => False) w W) => put_all n key val hkz hvz A1 c1 A2 c2 A3 c3 W (hno.turn ht) hc1 hc2 hf)
  have HRP := Lib.hid (fun W (ht : Turn (fun _ => False) w W) => refPut_all n key val hkz hvz A1 c1 A2 c2 A3 c3 W (hno.turn ht) hc1 hc2 hf)
  have HD := Lib.hid (fun W (ht : Turn (fun _ => False) w W) => drop_all n key A1 c1 A2 c2 A3 c3 W (hno.turn ht) hc1 hc2 hf)
  have HRD := Lib.hid (fun W (ht : Turn (fun _ => False) w W) => refDrop_all n key hkz A1 c1 A2 c2 A3 c3 W (hno.turn ht) hc1 hc2 hf)
  have HPL := pm_len (key := key) (val := val) hf
  have HDL := dm_len (key := key) hf
  have HSP := Lib.hid (fun W B1 d1 B2 d2 B3 d3 E1 e1 E2 e2 E3 e3 (h : No W B1 d1 B2 d2 B3 d3 (pm8 n key val)) (g : No W E1 e1 E2 e2 E3 e3 (pm8 n key val)) => refSame_any (pm8 n key val) B1 d1 B2 d2 B3 d3 E1 e1 E2 e2 E3 e3 W h g HPL.1 HPL.2.1 HPL.2.2)
  have HSD := Lib.hid (fun W B1 d1 B2 d2 B3 d3 E1 e1 E2 e2 E3 e3 (h : No W B1 d1 B2 d2 B3 d3 (dm8 n key)) (g : No W E1 e1 E2 e2 E3 e3 (dm8 n key)) => refSame_any (dm8 n key) B1 d1 B2 d2 B3 d3 E1 e1 E2 e2 E3 e3 W h g HDL.1 HDL.2.1 HDL.2.2)
  have T0 := Lib.hid ((Turn.refl (fun _ => False) w).alloc (.cells #[.bool n.leaf, .slice A1 n.keys.length c1, .slice A2 n.vals.length c2, .slice A3 n.kids.length c3] 26))
  have B0_n := Lib.hid (Blk.new w 26 [.bool n.leaf, .slice A1 n.keys.length c1, .slice A2 n.vals.length c2, .slice A3 n.kids.length c3])
  clear hno hc1 hc2 hf HPL HDL hkz hvz
  generalize pm8 n key val = MP at *
  generalize dm8 n key = MD at *
  generalize pe8 n key val = EP at *
  generalize (find8 n key).1 = P at *
  generalize (find8 n key).2 = FB at *
  simp only [nv8] at *
  generalize n.leaf = lf at *
  generalize n.keys.length = nk at *
  generalize n.vals.length = nv at *
  generalize n.kids.length = nd at *
  have q1 : ((P : Int) == (P : Int)) = true := by simp
  have q2 : (FB == FB) = true := by simp
  have q3 : ((EP : Int) == (EP : Int)) = true := by simp
  generalize hpf : MP.leaf = pf at *
  generalize hpk : MP.keys.length = pk at *
  generalize hpv : MP.vals.length = pv at *
  generalize hpd : MP.kids.length = pd at *
  generalize hdf : MD.leaf = df at *
  generalize hdk : MD.keys.length = dk at *
  generalize hdv : MD.vals.length = dv at *
  generalize hdd : MD.kids.length = dd at *
  have EE := Lib.hid (And.intro (And.intro hpf (And.intro hpk (And.intro hpv hpd))) (And.intro hdf (And.intro hdk (And.intro hdv hdd))))
  clear hpf hpk hpv hpd hdf hdk hdv hdd
  go_enter Try.func4, Try.ntmps4
  go_wp2_with fail
  refine (HFW.out _).mono ?_
  rintro e w1 ⟨rfl, ht⟩
  have T1 := Lib.hid (T0.out.trans ht)
  have B1_n := Lib.hid (B0_n.out.turn ht (fun h => h))
  clear ht  T0 B0_n 
  have yn0 : (w1).cell? ⟨w.heap.size, 0, none⟩ = some (.bool lf) := B1_n.out.cell 0
  have yn1 : (w1).cell? ⟨w.heap.size, 1, none⟩ = some (.slice A1 nk c1) := B1_n.out.cell 1
  have yn2 : (w1).cell? ⟨w.heap.size, 2, none⟩ = some (.slice A2 nv c2) := B1_n.out.cell 2
  have yn3 : (w1).cell? ⟨w.heap.size, 3, none⟩ = some (.slice A3 nd c3) := B1_n.out.cell 3
  go_wp2_with fail
  refine (HF.out _ T1.out).mono ?_
  rintro e w2 ⟨rfl, ht⟩
  have T2 := Lib.hid (T1.out.trans ht)
  have B2_n := Lib.hid (B1_n.out.turn ht (fun h => h))
  clear ht  T1 B1_n yn0 yn1 yn2 yn3 
  have yn0 : (w2).cell? ⟨w.heap.size, 0, none⟩ = some (.bool lf) := B2_n.out.cell 0
  have yn1 : (w2).cell? ⟨w.heap.size, 1, none⟩ = some (.slice A1 nk c1) := B2_n.out.cell 1
  have yn2 : (w2).cell? ⟨w.heap.size, 2, none⟩ = some (.slice A2 nv c2) := B2_n.out.cell 2
  have yn3 : (w2).cell? ⟨w.heap.size, 3, none⟩ = some (.slice A3 nd c3) := B2_n.out.cell 3
  go_wp2_with fail
  refine (HRF.out _ T2.out).mono ?_
  rintro e w3 ⟨rfl, ht⟩
  have T3 := Lib.hid (T2.out.trans ht)
  have B3_n := Lib.hid (B2_n.out.turn ht (fun h => h))
  clear ht  T2 B2_n yn0 yn1 yn2 yn3 
  have yn0 : (w3).cell? ⟨w.heap.size, 0, none⟩ = some (.bool lf) := B3_n.out.cell 0
  have yn1 : (w3).cell? ⟨w.heap.size, 1, none⟩ = some (.slice A1 nk c1) := B3_n.out.cell 1
  have yn2 : (w3).cell? ⟨w.heap.size, 2, none⟩ = some (.slice A2 nv c2) := B3_n.out.cell 2
  have yn3 : (w3).cell? ⟨w.heap.size, 3, none⟩ = some (.slice A3 nd c3) := B3_n.out.cell 3
  go_wp2_with fail
  refine (HP.out _ T3.out).mono ?_
  rintro e w4 ⟨v, rfl, hn, ht⟩
  obtain ⟨aA1, ac1, aA2, ac2, aA3, ac3, rfl, hn, _, _, _⟩ := hn
  simp only [nv8]
  rw [EE.out.1.1, EE.out.1.2.1, EE.out.1.2.2.1, EE.out.1.2.2.2]
  have hn1 := Lib.hid hn
  clear hn
  have al := ((Turn.refl (fun _ => False) w4).alloc (.cells #[.bool pf, .slice aA1 pk ac1, .slice aA2 pv ac2, .slice aA3 pd ac3] 26))
  have T4 := Lib.hid ((T3.out.trans ht).trans al)
  have B4_n := Lib.hid ((B3_n.out.turn ht (fun h => h)).turn al (fun h => h))
  have B4_a := Lib.hid (Blk.new w4 26 [.bool pf, .slice aA1 pk ac1, .slice aA2 pv ac2, .slice aA3 pd ac3])
  clear ht al T3 B3_n yn0 yn1 yn2 yn3 
  have N4_a := Lib.hid (hn1.out.turn ((Turn.refl (fun _ => False) w4).alloc (.cells #[.bool pf, .slice aA1 pk ac1, .slice aA2 pv ac2, .slice aA3 pd ac3] 26)))
  clear hn1
  have yn0 : ((w4.alloc (.cells #[.bool pf, .slice aA1 pk ac1, .slice aA2 pv ac2, .slice aA3 pd ac3] 26))).cell? ⟨w.heap.size, 0, none⟩ = some (.bool lf) := B4_n.out.cell 0
  have yn1 : ((w4.alloc (.cells #[.bool pf, .slice aA1 pk ac1, .slice aA2 pv ac2, .slice aA3 pd ac3] 26))).cell? ⟨w.heap.size, 1, none⟩ = some (.slice A1 nk c1) := B4_n.out.cell 1
  have yn2 : ((w4.alloc (.cells #[.bool pf, .slice aA1 pk ac1, .slice aA2 pv ac2, .slice aA3 pd ac3] 26))).cell? ⟨w.heap.size, 2, none⟩ = some (.slice A2 nv c2) := B4_n.out.cell 2
  have yn3 : ((w4.alloc (.cells #[.bool pf, .slice aA1 pk ac1, .slice aA2 pv ac2, .slice aA3 pd ac3] 26))).cell? ⟨w.heap.size, 3, none⟩ = some (.slice A3 nd c3) := B4_n.out.cell 3
  go_wp2_with fail
  refine (HRP.out _ T4.out).mono ?_
  rintro e w5 ⟨v, rfl, hn, ht⟩
  obtain ⟨bA1, bc1, bA2, bc2, bA3, bc3, rfl, hn, _, _, _⟩ := hn
  simp only [nv8]
  rw [EE.out.1.1, EE.out.1.2.1, EE.out.1.2.2.1, EE.out.1.2.2.2]
  have hn1 := Lib.hid hn
  clear hn
  have al := ((Turn.refl (fun _ => False) w5).alloc (.cells #[.bool pf, .slice bA1 pk bc1, .slice bA2 pv bc2, .slice bA3 pd bc3] 26))
  have T5 := Lib.hid ((T4.out.trans ht).trans al)
  have B5_n := Lib.hid ((B4_n.out.turn ht (fun h => h)).turn al (fun h => h))
  have B5_a := Lib.hid ((B4_a.out.turn ht (fun h => h)).turn al (fun h => h))
  have N5_a := Lib.hid ((N4_a.out.turn ht).turn al)
  have B5_b := Lib.hid (Blk.new w5 26 [.bool pf, .slice bA1 pk bc1, .slice bA2 pv bc2, .slice bA3 pd bc3])
  clear ht al T4 B4_n B4_a N4_a yn0 yn1 yn2 yn3 
  have N5_b := Lib.hid (hn1.out.turn ((Turn.refl (fun _ => False) w5).alloc (.cells #[.bool pf, .slice bA1 pk bc1, .slice bA2 pv bc2, .slice bA3 pd bc3] 26)))
  clear hn1
  have yn0 : ((w5.alloc (.cells #[.bool pf, .slice bA1 pk bc1, .slice bA2 pv bc2, .slice bA3 pd bc3] 26))).cell? ⟨w.heap.size, 0, none⟩ = some (.bool lf) := B5_n.out.cell 0
  have yn1 : ((w5.alloc (.cells #[.bool pf, .slice bA1 pk bc1, .slice bA2 pv bc2, .slice bA3 pd bc3] 26))).cell? ⟨w.heap.size, 1, none⟩ = some (.slice A1 nk c1) := B5_n.out.cell 1
  have yn2 : ((w5.alloc (.cells #[.bool pf, .slice bA1 pk bc1, .slice bA2 pv bc2, .slice bA3 pd bc3] 26))).cell? ⟨w.heap.size, 2, none⟩ = some (.slice A2 nv c2) := B5_n.out.cell 2
  have yn3 : ((w5.alloc (.cells #[.bool pf, .slice bA1 pk bc1, .slice bA2 pv bc2, .slice bA3 pd bc3] 26))).cell? ⟨w.heap.size, 3, none⟩ = some (.slice A3 nd c3) := B5_n.out.cell 3
  go_wp2_with fail
  refine (HD.out _ T5.out).mono ?_
  rintro e w6 ⟨v, rfl, hn, ht⟩
  obtain ⟨cA1, cc1, cA2, cc2, cA3, cc3, rfl, hn, _, _, _⟩ := hn
  simp only [nv8]
  rw [EE.out.2.1, EE.out.2.2.1, EE.out.2.2.2.1, EE.out.2.2.2.2]
  have hn1 := Lib.hid hn
  clear hn
  have al := ((Turn.refl (fun _ => False) w6).alloc (.cells #[.bool df, .slice cA1 dk cc1, .slice cA2 dv cc2, .slice cA3 dd cc3] 26))
  have T6 := Lib.hid ((T5.out.trans ht).trans al)
  have B6_n := Lib.hid ((B5_n.out.turn ht (fun h => h)).turn al (fun h => h))
  have B6_a := Lib.hid ((B5_a.out.turn ht (fun h => h)).turn al (fun h => h))
  have B6_b := Lib.hid ((B5_b.out.turn ht (fun h => h)).turn al (fun h => h))
  have N6_a := Lib.hid ((N5_a.out.turn ht).turn al)
  have N6_b := Lib.hid ((N5_b.out.turn ht).turn al)
  have B6_c := Lib.hid (Blk.new w6 26 [.bool df, .slice cA1 dk cc1, .slice cA2 dv cc2, .slice cA3 dd cc3])
  clear ht al T5 B5_n B5_a B5_b N5_a N5_b yn0 yn1 yn2 yn3 
  have N6_c := Lib.hid (hn1.out.turn ((Turn.refl (fun _ => False) w6).alloc (.cells #[.bool df, .slice cA1 dk cc1, .slice cA2 dv cc2, .slice cA3 dd cc3] 26)))
  clear hn1
  have yn0 : ((w6.alloc (.cells #[.bool df, .slice cA1 dk cc1, .slice cA2 dv cc2, .slice cA3 dd cc3] 26))).cell? ⟨w.heap.size, 0, none⟩ = some (.bool lf) := B6_n.out.cell 0
  have yn1 : ((w6.alloc (.cells #[.bool df, .slice cA1 dk cc1, .slice cA2 dv cc2, .slice cA3 dd cc3] 26))).cell? ⟨w.heap.size, 1, none⟩ = some (.slice A1 nk c1) := B6_n.out.cell 1
  have yn2 : ((w6.alloc (.cells #[.bool df, .slice cA1 dk cc1, .slice cA2 dv cc2, .slice cA3 dd cc3] 26))).cell? ⟨w.heap.size, 2, none⟩ = some (.slice A2 nv c2) := B6_n.out.cell 2
  have yn3 : ((w6.alloc (.cells #[.bool df, .slice cA1 dk cc1, .slice cA2 dv cc2, .slice cA3 dd cc3] 26))).cell? ⟨w.heap.size, 3, none⟩ = some (.slice A3 nd c3) := B6_n.out.cell 3
  go_wp2_with fail
  refine (HRD.out _ T6.out).mono ?_
  rintro e w7 ⟨v, rfl, hn, ht⟩
  obtain ⟨dA1, dc1, dA2, dc2, dA3, dc3, rfl, hn, _, _, _⟩ := hn
  simp only [nv8]
  rw [EE.out.2.1, EE.out.2.2.1, EE.out.2.2.2.1, EE.out.2.2.2.2]
  have hn1 := Lib.hid hn
  clear hn
  have al := ((Turn.refl (fun _ => False) w7).alloc (.cells #[.bool df, .slice dA1 dk dc1, .slice dA2 dv dc2, .slice dA3 dd dc3] 26))
  have T7 := Lib.hid ((T6.out.trans ht).trans al)
  have B7_n := Lib.hid ((B6_n.out.turn ht (fun h => h)).turn al (fun h => h))
  have B7_a := Lib.hid ((B6_a.out.turn ht (fun h => h)).turn al (fun h => h))
  have B7_b := Lib.hid ((B6_b.out.turn ht (fun h => h)).turn al (fun h => h))
  have B7_c := Lib.hid ((B6_c.out.turn ht (fun h => h)).turn al (fun h => h))
  have N7_a := Lib.hid ((N6_a.out.turn ht).turn al)
  have N7_b := Lib.hid ((N6_b.out.turn ht).turn al)
  have N7_c := Lib.hid ((N6_c.out.turn ht).turn al)
  have B7_d := Lib.hid (Blk.new w7 26 [.bool df, .slice dA1 dk dc1, .slice dA2 dv dc2, .slice dA3 dd dc3])
  clear ht al T6 B6_n B6_a B6_b B6_c N6_a N6_b N6_c yn0 yn1 yn2 yn3 
  have N7_d := Lib.hid (hn1.out.turn ((Turn.refl (fun _ => False) w7).alloc (.cells #[.bool df, .slice dA1 dk dc1, .slice dA2 dv dc2, .slice dA3 dd dc3] 26)))
  clear hn1
  have ya0 : ((w7.alloc (.cells #[.bool df, .slice dA1 dk dc1, .slice dA2 dv dc2, .slice dA3 dd dc3] 26))).cell? ⟨w4.heap.size, 0, none⟩ = some (.bool pf) := B7_a.out.cell 0
  have ya1 : ((w7.alloc (.cells #[.bool df, .slice dA1 dk dc1, .slice dA2 dv dc2, .slice dA3 dd dc3] 26))).cell? ⟨w4.heap.size, 1, none⟩ = some (.slice aA1 pk ac1) := B7_a.out.cell 1
  have ya2 : ((w7.alloc (.cells #[.bool df, .slice dA1 dk dc1, .slice dA2 dv dc2, .slice dA3 dd dc3] 26))).cell? ⟨w4.heap.size, 2, none⟩ = some (.slice aA2 pv ac2) := B7_a.out.cell 2
  have ya3 : ((w7.alloc (.cells #[.bool df, .slice dA1 dk dc1, .slice dA2 dv dc2, .slice dA3 dd dc3] 26))).cell? ⟨w4.heap.size, 3, none⟩ = some (.slice aA3 pd ac3) := B7_a.out.cell 3
  have yb0 : ((w7.alloc (.cells #[.bool df, .slice dA1 dk dc1, .slice dA2 dv dc2, .slice dA3 dd dc3] 26))).cell? ⟨w5.heap.size, 0, none⟩ = some (.bool pf) := B7_b.out.cell 0
  have yb1 : ((w7.alloc (.cells #[.bool df, .slice dA1 dk dc1, .slice dA2 dv dc2, .slice dA3 dd dc3] 26))).cell? ⟨w5.heap.size, 1, none⟩ = some (.slice bA1 pk bc1) := B7_b.out.cell 1
  have yb2 : ((w7.alloc (.cells #[.bool df, .slice dA1 dk dc1, .slice dA2 dv dc2, .slice dA3 dd dc3] 26))).cell? ⟨w5.heap.size, 2, none⟩ = some (.slice bA2 pv bc2) := B7_b.out.cell 2
  have yb3 : ((w7.alloc (.cells #[.bool df, .slice dA1 dk dc1, .slice dA2 dv dc2, .slice dA3 dd dc3] 26))).cell? ⟨w5.heap.size, 3, none⟩ = some (.slice bA3 pd bc3) := B7_b.out.cell 3
  go_wp2_with fail
  refine (HSP.out _ aA1 ac1 aA2 ac2 aA3 ac3 bA1 bc1 bA2 bc2 bA3 bc3 N7_a.out N7_b.out).mono ?_
  rintro e w8 ⟨rfl, ht⟩
  have T8 := Lib.hid (T7.out.trans ht)
  have B8_n := Lib.hid (B7_n.out.turn ht (fun h => h))
  have B8_a := Lib.hid (B7_a.out.turn ht (fun h => h))
  have B8_b := Lib.hid (B7_b.out.turn ht (fun h => h))
  have B8_c := Lib.hid (B7_c.out.turn ht (fun h => h))
  have B8_d := Lib.hid (B7_d.out.turn ht (fun h => h))
  have N8_a := Lib.hid (N7_a.out.turn ht)
  have N8_b := Lib.hid (N7_b.out.turn ht)
  have N8_c := Lib.hid (N7_c.out.turn ht)
  have N8_d := Lib.hid (N7_d.out.turn ht)
  clear ht  T7 B7_n B7_a B7_b B7_c B7_d N7_a N7_b N7_c N7_d ya0 ya1 ya2 ya3 yb0 yb1 yb2 yb3 
  have yc0 : (w8).cell? ⟨w6.heap.size, 0, none⟩ = some (.bool df) := B8_c.out.cell 0
  have yc1 : (w8).cell? ⟨w6.heap.size, 1, none⟩ = some (.slice cA1 dk cc1) := B8_c.out.cell 1
  have yc2 : (w8).cell? ⟨w6.heap.size, 2, none⟩ = some (.slice cA2 dv cc2) := B8_c.out.cell 2
  have yc3 : (w8).cell? ⟨w6.heap.size, 3, none⟩ = some (.slice cA3 dd cc3) := B8_c.out.cell 3
  have yd0 : (w8).cell? ⟨w7.heap.size, 0, none⟩ = some (.bool df) := B8_d.out.cell 0
  have yd1 : (w8).cell? ⟨w7.heap.size, 1, none⟩ = some (.slice dA1 dk dc1) := B8_d.out.cell 1
  have yd2 : (w8).cell? ⟨w7.heap.size, 2, none⟩ = some (.slice dA2 dv dc2) := B8_d.out.cell 2
  have yd3 : (w8).cell? ⟨w7.heap.size, 3, none⟩ = some (.slice dA3 dd dc3) := B8_d.out.cell 3
  go_wp2_with fail
  refine (HSD.out _ cA1 cc1 cA2 cc2 cA3 cc3 dA1 dc1 dA2 dc2 dA3 dc3 N8_c.out N8_d.out).mono ?_
  rintro e w9 ⟨rfl, ht⟩
  have T9 := Lib.hid (T8.out.trans ht)
  have B9_n := Lib.hid (B8_n.out.turn ht (fun h => h))
  have B9_a := Lib.hid (B8_a.out.turn ht (fun h => h))
  have B9_b := Lib.hid (B8_b.out.turn ht (fun h => h))
  have B9_c := Lib.hid (B8_c.out.turn ht (fun h => h))
  have B9_d := Lib.hid (B8_d.out.turn ht (fun h => h))
  have N9_a := Lib.hid (N8_a.out.turn ht)
  have N9_b := Lib.hid (N8_b.out.turn ht)
  have N9_c := Lib.hid (N8_c.out.turn ht)
  have N9_d := Lib.hid (N8_d.out.turn ht)
  clear ht  T8 B8_n B8_a B8_b B8_c B8_d N8_a N8_b N8_c N8_d yc0 yc1 yc2 yc3 yd0 yd1 yd2 yd3 
  go_wp2_with fail
  refine (HLV.out _).mono ?_
  rintro e w10 ⟨rfl, ht⟩
  have T10 := Lib.hid (T9.out.trans ht)
  have B10_n := Lib.hid (B9_n.out.turn ht (fun h => h))
  have B10_a := Lib.hid (B9_a.out.turn ht (fun h => h))
  have B10_b := Lib.hid (B9_b.out.turn ht (fun h => h))
  have B10_c := Lib.hid (B9_c.out.turn ht (fun h => h))
  have B10_d := Lib.hid (B9_d.out.turn ht (fun h => h))
  have N10_a := Lib.hid (N9_a.out.turn ht)
  have N10_b := Lib.hid (N9_b.out.turn ht)
  have N10_c := Lib.hid (N9_c.out.turn ht)
  have N10_d := Lib.hid (N9_d.out.turn ht)
  clear ht  T9 B9_n B9_a B9_b B9_c B9_d N9_a N9_b N9_c N9_d 
  go_wp2_with fail
  go_ret
  exact ⟨rfl, turn_below8 T10.out⟩
theorem pageTurns_walk (v : Value) (n : Nd) (key val : ByteArray) (w : World) (hv : NodeV w w.heap.size v n) (hb : (∀ s ∈ n.keys, s.size ≤ 140737488351232) ∧ ∀ s ∈ n.vals, s.size ≤ 140737488351232) (hkz : key.size ≤ 140737488351232) (hvz : val.size ≤ 140737488351232) :
    Calls Try.prog 4 #[v, .string key, .string val] w fun e w' => e = .returned (.bool true) ∧ Below w.heap.size w w' := by
  obtain ⟨A1, c1, A2, c2, A3, c3, rfl, hno, k1, k2, _⟩ := hv.no2 (Nat.le_refl _)
  cases hfw : few8 n with
  | false => exact pageTurns_few n key val w A1 c1 A2 c2 A3 c3 hfw
  | true => exact pageTurns_all n key val hkz hvz w A1 c1 A2 c2 A3 c3 hfw hno k1 k2 (few8_yes hfw hb.1 hb.2)
end Go.Proofs.Ytpnnbfojdccfhaa
