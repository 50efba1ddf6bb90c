/- The walk of ambrylaw08.PageSplits. -/
import Derived.Test.YtpnnbfojdccfhaaPgWf
import Derived.Test.YtpnnbfojdccfhaaPpA
namespace Go.Proofs.Ytpnnbfojdccfhaa
open Go.RowKit
set_option linter.unusedVariables false
set_option linter.unusedSimpArgs false
set_option maxRecDepth 100000

/-- What Split answers. -/
noncomputable def ss8 (n : Nd) : Bool := st8 n && decide (1 + bet8 n.leaf < n.keys.length)
noncomputable def sk8 (n : Nd) : Nat := @Classical.epsilon Nat ⟨0⟩ (Ks n)
theorem sk8_is {n : Nd} {k : Nat} (h : Ks n k) : sk8 n = k := (@Classical.epsilon_spec Nat (Ks n) ⟨k, h⟩).one h
noncomputable def sa8 (n : Nd) : Nd := if ss8 n then part8 n 0 (sk8 n) else nil8
noncomputable def sb8 (n : Nd) : Nd := if ss8 n then part8 n (sk8 n + bet8 n.leaf) n.keys.length else nil8
noncomputable def sx8 (n : Nd) : ByteArray := if ss8 n then key8 n.keys (sk8 n) else ⟨#[]⟩
theorem nil_noS (w : World) : NoO w (.agg #[.bool false, .slice none 0 0, .slice none 0 0, .slice none 0 0]) nil8 := ⟨none, 0, none, 0, none, 0, rfl, ⟨sr_nil _ _, sr_nil _ _, nr_nil _ _⟩, ⟨Nat.le_refl _, by unfold maxLen; decide, fun _ => rfl⟩, ⟨Nat.le_refl _, by unfold maxLen; decide, fun _ => rfl⟩, ⟨Nat.le_refl _, by unfold maxLen; decide, fun _ => rfl⟩⟩
theorem split_all (n : Nd) (A1 : Option Addr) (c1 : Nat) (A2 : Option Addr) (c2 : Nat) (A3 : Option Addr) (c3 : Nat) (w : World) (h : No w A1 c1 A2 c2 A3 c3 n) (hc1 : Cp A1 n.keys.length c1) (hc2 : Cp A2 n.vals.length c2) (hc3 : Cp A3 n.kids.length c3) (hf : Few8 n) :
    Calls Try.prog 20 #[nv8 A1 c1 A2 c2 A3 c3 n] w fun e w' => ∃ va vb, e = .returned (.tuple #[va, .string (sx8 n), vb, .bool (ss8 n)]) ∧ NoO w' va (sa8 n) ∧ NoO w' vb (sb8 n) ∧ Turn (fun _ => False) w w' := by
  unfold sx8 sa8 sb8
  cases hp : ss8 n with
  | false =>
    have hm : st8 n = false ∨ n.keys.length ≤ 1 + bet8 n.leaf := by
      unfold ss8 at hp
      cases hs : st8 n with
      | false => exact .inl rfl
      | true => rw [hs] at hp; simp at hp; exact .inr hp
    refine (split_no n A1 c1 A2 c2 A3 c3 w h hf hm).mono ?_
    rintro e w' ⟨rfl, ht⟩
    exact ⟨_, _, rfl, nil_noS _, nil_noS _, ht⟩
  | true =>
    unfold ss8 at hp
    simp only [Bool.and_eq_true, decide_eq_true_eq] at hp
    refine (split_yes n A1 c1 A2 c2 A3 c3 w h hc1 hc2 hc3 hf (st8_of hp.1) hp.2).mono ?_
    rintro e w' ⟨k, va, vb, rfl, hk, ha, hb, ht⟩
    have hk2 : Ks n k := hk
    rw [if_pos rfl, if_pos rfl, if_pos rfl, sk8_is hk2]
    exact ⟨va, vb, rfl, ha, hb, ht⟩
theorem refSplit_all (n : Nd) (A1 : Option Addr) (c1 : Nat) (A2 : Option Addr) (c2 : Nat) (A3 : Option Addr) (c3 : Nat) (w : World) (h : No w A1 c1 A2 c2 A3 c3 n) (hc1 : Cp A1 n.keys.length c1) (hc2 : Cp A2 n.vals.length c2) (hc3 : Cp A3 n.kids.length c3) (hf : Few8 n) :
    Calls Try.prog 21 #[nv8 A1 c1 A2 c2 A3 c3 n] w fun e w' => ∃ va vb, e = .returned (.tuple #[va, .string (sx8 n), vb, .bool (ss8 n)]) ∧ NoO w' va (sa8 n) ∧ NoO w' vb (sb8 n) ∧ Turn (fun _ => False) w w' := by
  unfold sx8 sa8 sb8
  cases hp : ss8 n with
  | false =>
    have hm : st8 n = false ∨ n.keys.length ≤ 1 + bet8 n.leaf := by
      unfold ss8 at hp
      cases hs : st8 n with
      | false => exact .inl rfl
      | true => rw [hs] at hp; simp at hp; exact .inr hp
    refine (refSplit_no n A1 c1 A2 c2 A3 c3 w h hf hm).mono ?_
    rintro e w' ⟨rfl, ht⟩
    exact ⟨_, _, rfl, nil_noS _, nil_noS _, ht⟩
  | true =>
    unfold ss8 at hp
    simp only [Bool.and_eq_true, decide_eq_true_eq] at hp
    refine (refSplit_yes n A1 c1 A2 c2 A3 c3 w h hc1 hc2 hc3 hf (st8_of hp.1) hp.2).mono ?_
    rintro e w' ⟨k, va, vb, rfl, hk, ha, hb, ht⟩
    have hk2 : Ks n k := hk
    rw [if_pos rfl, if_pos rfl, if_pos rfl, sk8_is hk2]
    exact ⟨va, vb, rfl, ha, hb, ht⟩
theorem sa_few {n : Nd} (hf : Few8 n) : Few8 (sa8 n) ∧ Few8 (sb8 n) := by
  unfold sa8 sb8
  have hn : Few8 nil8 := ⟨by decide, by decide, by decide, (fun s h => by cases h), (fun s h => by cases h)⟩
  cases ss8 n with
  | false => exact ⟨hn, hn⟩
  | true => exact ⟨few_part hf _ _, few_part hf _ _⟩
theorem pageSplits_few (n : Nd) (w : World) (A1 : Option Addr) (c1 : Nat) (A2 : Option Addr) (c2 : Nat) (A3 : Option Addr) (c3 : Nat) (hfw : few8 n = false) :
    Calls Try.prog 5 #[nv8 A1 c1 A2 c2 A3 c3 n] w fun e w' => e = .returned (.bool true) ∧ Below w.heap.size w w' := by
  have HFW := Lib.hid (fun W => few_any n A1 c1 A2 c2 A3 c3 W)
  rw [hfw] at HFW
  have HLV := Lib.hid (fun W => lives8 W)
  have T0 := Lib.hid ((Turn.refl (fun _ => False) w).alloc (.cells #[.bool n.leaf, .slice A1 n.keys.length c1, .slice A2 n.vals.length c2, .slice A3 n.kids.length c3] 26))
  have B0_n := Lib.hid (Blk.new w 26 [.bool n.leaf, .slice A1 n.keys.length c1, .slice A2 n.vals.length c2, .slice A3 n.kids.length c3])
  simp only [nv8] at *
  generalize n.leaf = lf at *
  generalize n.keys.length = nk at *
  generalize n.vals.length = nv at *
  generalize n.kids.length = nd at *
  go_enter Try.func5, Try.ntmps5
  go_wp2_with fail
  refine (HFW.out _).mono ?_
  rintro e w1 ⟨rfl, ht⟩
  have T1 := Lib.hid (T0.out.trans ht)
  have B1_n := Lib.hid (B0_n.out.turn ht (fun h => h))
  clear ht  T0 B0_n 
  go_wp2_with fail
  refine (HLV.out _).mono ?_
  rintro e w2 ⟨rfl, ht⟩
  have T2 := Lib.hid (T1.out.trans ht)
  have B2_n := Lib.hid (B1_n.out.turn ht (fun h => h))
  clear ht  T1 B1_n 
  go_wp2_with fail
  go_ret
  exact ⟨rfl, turn_below8 T2.out⟩
set_option maxHeartbeats 8000000 in
theorem pageSplits_all (n : Nd) (w : World) (A1 : Option Addr) (c1 : Nat) (A2 : Option Addr) (c2 : Nat) (A3 : Option Addr) (c3 : Nat) (hfw : few8 n = true) (hno : No w A1 c1 A2 c2 A3 c3 n) (hc1 : Cp A1 n.keys.length c1) (hc2 : Cp A2 n.vals.length c2) (hc3 : Cp A3 n.kids.length c3) (hf : Few8 n) :
    Calls Try.prog 5 #[nv8 A1 c1 A2 c2 A3 c3 n] w fun e w' => e = .returned (.bool true) ∧ Below w.heap.size w w' := by
  have HFW := Lib.hid (fun W => few_any n A1 c1 A2 c2 A3 c3 W)
  rw [hfw] at HFW
  have HLV := Lib.hid (fun W => lives8 W)
  have HP := Lib.hid (fun W (ht : Turn (fun _ => False) w W) => split_all n A1 c1 A2 c2 A3 c3 W (hno.turn ht) hc1 hc2 hc3 hf)
  have HR := Lib.hid (fun W (ht : Turn (fun _ => False) w W) => refSplit_all n A1 c1 A2 c2 A3 c3 W (hno.turn ht) hc1 hc2 hc3 hf)
  have hfs := sa_few hf
  have HSA := Lib.hid (fun W B1 d1 B2 d2 B3 d3 E1 e1 E2 e2 E3 e3 (h : No W B1 d1 B2 d2 B3 d3 (sa8 n)) (g : No W E1 e1 E2 e2 E3 e3 (sa8 n)) => refSame_any (sa8 n) B1 d1 B2 d2 B3 d3 E1 e1 E2 e2 E3 e3 W h g (by have := hfs.1.nk; omega) (by have := hfs.1.nv; omega) (by have := hfs.1.nd; omega))
  have HSB := Lib.hid (fun W B1 d1 B2 d2 B3 d3 E1 e1 E2 e2 E3 e3 (h : No W B1 d1 B2 d2 B3 d3 (sb8 n)) (g : No W E1 e1 E2 e2 E3 e3 (sb8 n)) => refSame_any (sb8 n) B1 d1 B2 d2 B3 d3 E1 e1 E2 e2 E3 e3 W h g (by have := hfs.2.nk; omega) (by have := hfs.2.nv; omega) (by have := hfs.2.nd; omega))
  have T0 := Lib.hid ((Turn.refl (fun _ => False) w).alloc (.cells #[.bool n.leaf, .slice A1 n.keys.length c1, .slice A2 n.vals.length c2, .slice A3 n.kids.length c3] 26))
  have B0_n := Lib.hid (Blk.new w 26 [.bool n.leaf, .slice A1 n.keys.length c1, .slice A2 n.vals.length c2, .slice A3 n.kids.length c3])
  clear hno hc1 hc2 hc3 hf hfs
  generalize sa8 n = MP at *
  generalize sb8 n = MD at *
  generalize sx8 n = KK at *
  generalize ss8 n = OK at *
  simp only [nv8] at *
  generalize n.leaf = lf at *
  generalize n.keys.length = nk at *
  generalize n.vals.length = nv at *
  generalize n.kids.length = nd at *
  have q2 : (OK == OK) = true := by simp
  have sk := str_same KK
  generalize hpf : MP.leaf = pf at *
  generalize hpk : MP.keys.length = pk at *
  generalize hpv : MP.vals.length = pv at *
  generalize hpd : MP.kids.length = pd at *
  generalize hdf : MD.leaf = df at *
  generalize hdk : MD.keys.length = dk at *
  generalize hdv : MD.vals.length = dv at *
  generalize hdd : MD.kids.length = dd at *
  have EE := Lib.hid (And.intro (And.intro hpf (And.intro hpk (And.intro hpv hpd))) (And.intro hdf (And.intro hdk (And.intro hdv hdd))))
  clear hpf hpk hpv hpd hdf hdk hdv hdd
  go_enter Try.func5, Try.ntmps5
  go_wp2_with fail
  refine (HFW.out _).mono ?_
  rintro e w1 ⟨rfl, ht⟩
  have T1 := Lib.hid (T0.out.trans ht)
  have B1_n := Lib.hid (B0_n.out.turn ht (fun h => h))
  clear ht  T0 B0_n 
  have yn0 : (w1).cell? ⟨w.heap.size, 0, none⟩ = some (.bool lf) := B1_n.out.cell 0
  have yn1 : (w1).cell? ⟨w.heap.size, 1, none⟩ = some (.slice A1 nk c1) := B1_n.out.cell 1
  have yn2 : (w1).cell? ⟨w.heap.size, 2, none⟩ = some (.slice A2 nv c2) := B1_n.out.cell 2
  have yn3 : (w1).cell? ⟨w.heap.size, 3, none⟩ = some (.slice A3 nd c3) := B1_n.out.cell 3
  go_wp2_with fail
  refine (HP.out _ T1.out).mono ?_
  rintro e w2 ⟨va, vb, rfl, hna, hnb, ht⟩
  obtain ⟨aA1, ac1, aA2, ac2, aA3, ac3, rfl, hna, _, _, _⟩ := hna
  obtain ⟨bA1, bc1, bA2, bc2, bA3, bc3, rfl, hnb, _, _, _⟩ := hnb
  simp only [nv8]
  rw [EE.out.1.1, EE.out.1.2.1, EE.out.1.2.2.1, EE.out.1.2.2.2, EE.out.2.1, EE.out.2.2.1, EE.out.2.2.2.1, EE.out.2.2.2.2]
  have hn1 := Lib.hid hna
  have hn2 := Lib.hid hnb
  clear hna hnb
  have al := (((Turn.refl (fun _ => False) w2).alloc (.cells #[.bool pf, .slice aA1 pk ac1, .slice aA2 pv ac2, .slice aA3 pd ac3] 26)).alloc (.cells #[.bool df, .slice bA1 dk bc1, .slice bA2 dv bc2, .slice bA3 dd bc3] 26))
  have T2 := Lib.hid ((T1.out.trans ht).trans al)
  have B2_n := Lib.hid ((B1_n.out.turn ht (fun h => h)).turn al (fun h => h))
  have B2_a := Lib.hid (box_two w2 [.bool pf, .slice aA1 pk ac1, .slice aA2 pv ac2, .slice aA3 pd ac3] [.bool df, .slice bA1 dk bc1, .slice bA2 dv bc2, .slice bA3 dd bc3]).1
  have B2_b := Lib.hid (box_two w2 [.bool pf, .slice aA1 pk ac1, .slice aA2 pv ac2, .slice aA3 pd ac3] [.bool df, .slice bA1 dk bc1, .slice bA2 dv bc2, .slice bA3 dd bc3]).2
  clear ht al T1 B1_n yn0 yn1 yn2 yn3 
  have N2_a := Lib.hid (hn1.out.turn (((Turn.refl (fun _ => False) w2).alloc (.cells #[.bool pf, .slice aA1 pk ac1, .slice aA2 pv ac2, .slice aA3 pd ac3] 26)).alloc (.cells #[.bool df, .slice bA1 dk bc1, .slice bA2 dv bc2, .slice bA3 dd bc3] 26)))
  have N2_b := Lib.hid (hn2.out.turn (((Turn.refl (fun _ => False) w2).alloc (.cells #[.bool pf, .slice aA1 pk ac1, .slice aA2 pv ac2, .slice aA3 pd ac3] 26)).alloc (.cells #[.bool df, .slice bA1 dk bc1, .slice bA2 dv bc2, .slice bA3 dd bc3] 26)))
  clear hn1 hn2
  have yn0 : (((w2.alloc (.cells #[.bool pf, .slice aA1 pk ac1, .slice aA2 pv ac2, .slice aA3 pd ac3] 26)).alloc (.cells #[.bool df, .slice bA1 dk bc1, .slice bA2 dv bc2, .slice bA3 dd bc3] 26))).cell? ⟨w.heap.size, 0, none⟩ = some (.bool lf) := B2_n.out.cell 0
  have yn1 : (((w2.alloc (.cells #[.bool pf, .slice aA1 pk ac1, .slice aA2 pv ac2, .slice aA3 pd ac3] 26)).alloc (.cells #[.bool df, .slice bA1 dk bc1, .slice bA2 dv bc2, .slice bA3 dd bc3] 26))).cell? ⟨w.heap.size, 1, none⟩ = some (.slice A1 nk c1) := B2_n.out.cell 1
  have yn2 : (((w2.alloc (.cells #[.bool pf, .slice aA1 pk ac1, .slice aA2 pv ac2, .slice aA3 pd ac3] 26)).alloc (.cells #[.bool df, .slice bA1 dk bc1, .slice bA2 dv bc2, .slice bA3 dd bc3] 26))).cell? ⟨w.heap.size, 2, none⟩ = some (.slice A2 nv c2) := B2_n.out.cell 2
  have yn3 : (((w2.alloc (.cells #[.bool pf, .slice aA1 pk ac1, .slice aA2 pv ac2, .slice aA3 pd ac3] 26)).alloc (.cells #[.bool df, .slice bA1 dk bc1, .slice bA2 dv bc2, .slice bA3 dd bc3] 26))).cell? ⟨w.heap.size, 3, none⟩ = some (.slice A3 nd c3) := B2_n.out.cell 3
  go_wp2_with fail
  refine (HR.out _ T2.out).mono ?_
  rintro e w3 ⟨va, vb, rfl, hna, hnb, ht⟩
  obtain ⟨cA1, cc1, cA2, cc2, cA3, cc3, rfl, hna, _, _, _⟩ := hna
  obtain ⟨dA1, dc1, dA2, dc2, dA3, dc3, rfl, hnb, _, _, _⟩ := hnb
  simp only [nv8]
  rw [EE.out.1.1, EE.out.1.2.1, EE.out.1.2.2.1, EE.out.1.2.2.2, EE.out.2.1, EE.out.2.2.1, EE.out.2.2.2.1, EE.out.2.2.2.2]
  have hn1 := Lib.hid hna
  have hn2 := Lib.hid hnb
  clear hna hnb
  have al := (((Turn.refl (fun _ => False) w3).alloc (.cells #[.bool pf, .slice cA1 pk cc1, .slice cA2 pv cc2, .slice cA3 pd cc3] 26)).alloc (.cells #[.bool df, .slice dA1 dk dc1, .slice dA2 dv dc2, .slice dA3 dd dc3] 26))
  have T3 := Lib.hid ((T2.out.trans ht).trans al)
  have B3_n := Lib.hid ((B2_n.out.turn ht (fun h => h)).turn al (fun h => h))
  have B3_a := Lib.hid ((B2_a.out.turn ht (fun h => h)).turn al (fun h => h))
  have B3_b := Lib.hid ((B2_b.out.turn ht (fun h => h)).turn al (fun h => h))
  have N3_a := Lib.hid ((N2_a.out.turn ht).turn al)
  have N3_b := Lib.hid ((N2_b.out.turn ht).turn al)
  have B3_c := Lib.hid (box_two w3 [.bool pf, .slice cA1 pk cc1, .slice cA2 pv cc2, .slice cA3 pd cc3] [.bool df, .slice dA1 dk dc1, .slice dA2 dv dc2, .slice dA3 dd dc3]).1
  have B3_d := Lib.hid (box_two w3 [.bool pf, .slice cA1 pk cc1, .slice cA2 pv cc2, .slice cA3 pd cc3] [.bool df, .slice dA1 dk dc1, .slice dA2 dv dc2, .slice dA3 dd dc3]).2
  clear ht al T2 B2_n B2_a B2_b N2_a N2_b yn0 yn1 yn2 yn3 
  have N3_c := Lib.hid (hn1.out.turn (((Turn.refl (fun _ => False) w3).alloc (.cells #[.bool pf, .slice cA1 pk cc1, .slice cA2 pv cc2, .slice cA3 pd cc3] 26)).alloc (.cells #[.bool df, .slice dA1 dk dc1, .slice dA2 dv dc2, .slice dA3 dd dc3] 26)))
  have N3_d := Lib.hid (hn2.out.turn (((Turn.refl (fun _ => False) w3).alloc (.cells #[.bool pf, .slice cA1 pk cc1, .slice cA2 pv cc2, .slice cA3 pd cc3] 26)).alloc (.cells #[.bool df, .slice dA1 dk dc1, .slice dA2 dv dc2, .slice dA3 dd dc3] 26)))
  clear hn1 hn2
  have ya0 : (((w3.alloc (.cells #[.bool pf, .slice cA1 pk cc1, .slice cA2 pv cc2, .slice cA3 pd cc3] 26)).alloc (.cells #[.bool df, .slice dA1 dk dc1, .slice dA2 dv dc2, .slice dA3 dd dc3] 26))).cell? ⟨w2.heap.size, 0, none⟩ = some (.bool pf) := B3_a.out.cell 0
  have ya1 : (((w3.alloc (.cells #[.bool pf, .slice cA1 pk cc1, .slice cA2 pv cc2, .slice cA3 pd cc3] 26)).alloc (.cells #[.bool df, .slice dA1 dk dc1, .slice dA2 dv dc2, .slice dA3 dd dc3] 26))).cell? ⟨w2.heap.size, 1, none⟩ = some (.slice aA1 pk ac1) := B3_a.out.cell 1
  have ya2 : (((w3.alloc (.cells #[.bool pf, .slice cA1 pk cc1, .slice cA2 pv cc2, .slice cA3 pd cc3] 26)).alloc (.cells #[.bool df, .slice dA1 dk dc1, .slice dA2 dv dc2, .slice dA3 dd dc3] 26))).cell? ⟨w2.heap.size, 2, none⟩ = some (.slice aA2 pv ac2) := B3_a.out.cell 2
  have ya3 : (((w3.alloc (.cells #[.bool pf, .slice cA1 pk cc1, .slice cA2 pv cc2, .slice cA3 pd cc3] 26)).alloc (.cells #[.bool df, .slice dA1 dk dc1, .slice dA2 dv dc2, .slice dA3 dd dc3] 26))).cell? ⟨w2.heap.size, 3, none⟩ = some (.slice aA3 pd ac3) := B3_a.out.cell 3
  have yb0 : (((w3.alloc (.cells #[.bool pf, .slice cA1 pk cc1, .slice cA2 pv cc2, .slice cA3 pd cc3] 26)).alloc (.cells #[.bool df, .slice dA1 dk dc1, .slice dA2 dv dc2, .slice dA3 dd dc3] 26))).cell? ⟨(w2.heap.size + 1), 0, none⟩ = some (.bool df) := B3_b.out.cell 0
  have yb1 : (((w3.alloc (.cells #[.bool pf, .slice cA1 pk cc1, .slice cA2 pv cc2, .slice cA3 pd cc3] 26)).alloc (.cells #[.bool df, .slice dA1 dk dc1, .slice dA2 dv dc2, .slice dA3 dd dc3] 26))).cell? ⟨(w2.heap.size + 1), 1, none⟩ = some (.slice bA1 dk bc1) := B3_b.out.cell 1
  have yb2 : (((w3.alloc (.cells #[.bool pf, .slice cA1 pk cc1, .slice cA2 pv cc2, .slice cA3 pd cc3] 26)).alloc (.cells #[.bool df, .slice dA1 dk dc1, .slice dA2 dv dc2, .slice dA3 dd dc3] 26))).cell? ⟨(w2.heap.size + 1), 2, none⟩ = some (.slice bA2 dv bc2) := B3_b.out.cell 2
  have yb3 : (((w3.alloc (.cells #[.bool pf, .slice cA1 pk cc1, .slice cA2 pv cc2, .slice cA3 pd cc3] 26)).alloc (.cells #[.bool df, .slice dA1 dk dc1, .slice dA2 dv dc2, .slice dA3 dd dc3] 26))).cell? ⟨(w2.heap.size + 1), 3, none⟩ = some (.slice bA3 dd bc3) := B3_b.out.cell 3
  have yc0 : (((w3.alloc (.cells #[.bool pf, .slice cA1 pk cc1, .slice cA2 pv cc2, .slice cA3 pd cc3] 26)).alloc (.cells #[.bool df, .slice dA1 dk dc1, .slice dA2 dv dc2, .slice dA3 dd dc3] 26))).cell? ⟨w3.heap.size, 0, none⟩ = some (.bool pf) := B3_c.out.cell 0
  have yc1 : (((w3.alloc (.cells #[.bool pf, .slice cA1 pk cc1, .slice cA2 pv cc2, .slice cA3 pd cc3] 26)).alloc (.cells #[.bool df, .slice dA1 dk dc1, .slice dA2 dv dc2, .slice dA3 dd dc3] 26))).cell? ⟨w3.heap.size, 1, none⟩ = some (.slice cA1 pk cc1) := B3_c.out.cell 1
  have yc2 : (((w3.alloc (.cells #[.bool pf, .slice cA1 pk cc1, .slice cA2 pv cc2, .slice cA3 pd cc3] 26)).alloc (.cells #[.bool df, .slice dA1 dk dc1, .slice dA2 dv dc2, .slice dA3 dd dc3] 26))).cell? ⟨w3.heap.size, 2, none⟩ = some (.slice cA2 pv cc2) := B3_c.out.cell 2
  have yc3 : (((w3.alloc (.cells #[.bool pf, .slice cA1 pk cc1, .slice cA2 pv cc2, .slice cA3 pd cc3] 26)).alloc (.cells #[.bool df, .slice dA1 dk dc1, .slice dA2 dv dc2, .slice dA3 dd dc3] 26))).cell? ⟨w3.heap.size, 3, none⟩ = some (.slice cA3 pd cc3) := B3_c.out.cell 3
  have yd0 : (((w3.alloc (.cells #[.bool pf, .slice cA1 pk cc1, .slice cA2 pv cc2, .slice cA3 pd cc3] 26)).alloc (.cells #[.bool df, .slice dA1 dk dc1, .slice dA2 dv dc2, .slice dA3 dd dc3] 26))).cell? ⟨(w3.heap.size + 1), 0, none⟩ = some (.bool df) := B3_d.out.cell 0
  have yd1 : (((w3.alloc (.cells #[.bool pf, .slice cA1 pk cc1, .slice cA2 pv cc2, .slice cA3 pd cc3] 26)).alloc (.cells #[.bool df, .slice dA1 dk dc1, .slice dA2 dv dc2, .slice dA3 dd dc3] 26))).cell? ⟨(w3.heap.size + 1), 1, none⟩ = some (.slice dA1 dk dc1) := B3_d.out.cell 1
  have yd2 : (((w3.alloc (.cells #[.bool pf, .slice cA1 pk cc1, .slice cA2 pv cc2, .slice cA3 pd cc3] 26)).alloc (.cells #[.bool df, .slice dA1 dk dc1, .slice dA2 dv dc2, .slice dA3 dd dc3] 26))).cell? ⟨(w3.heap.size + 1), 2, none⟩ = some (.slice dA2 dv dc2) := B3_d.out.cell 2
  have yd3 : (((w3.alloc (.cells #[.bool pf, .slice cA1 pk cc1, .slice cA2 pv cc2, .slice cA3 pd cc3] 26)).alloc (.cells #[.bool df, .slice dA1 dk dc1, .slice dA2 dv dc2, .slice dA3 dd dc3] 26))).cell? ⟨(w3.heap.size + 1), 3, none⟩ = some (.slice dA3 dd dc3) := B3_d.out.cell 3
  go_wp2_with fail
  refine (HSA.out _ aA1 ac1 aA2 ac2 aA3 ac3 cA1 cc1 cA2 cc2 cA3 cc3 N3_a.out N3_c.out).mono ?_
  rintro e w4 ⟨rfl, ht⟩
  have T4 := Lib.hid (T3.out.trans ht)
  have B4_n := Lib.hid (B3_n.out.turn ht (fun h => h))
  have B4_a := Lib.hid (B3_a.out.turn ht (fun h => h))
  have B4_b := Lib.hid (B3_b.out.turn ht (fun h => h))
  have B4_c := Lib.hid (B3_c.out.turn ht (fun h => h))
  have B4_d := Lib.hid (B3_d.out.turn ht (fun h => h))
  have N4_a := Lib.hid (N3_a.out.turn ht)
  have N4_b := Lib.hid (N3_b.out.turn ht)
  have N4_c := Lib.hid (N3_c.out.turn ht)
  have N4_d := Lib.hid (N3_d.out.turn ht)
  clear ht  T3 B3_n B3_a B3_b B3_c B3_d N3_a N3_b N3_c N3_d ya0 ya1 ya2 ya3 yb0 yb1 yb2 yb3 yc0 yc1 yc2 yc3 yd0 yd1 yd2 yd3 
  have yb0 : (w4).cell? ⟨(w2.heap.size + 1), 0, none⟩ = some (.bool df) := B4_b.out.cell 0
  have yb1 : (w4).cell? ⟨(w2.heap.size + 1), 1, none⟩ = some (.slice bA1 dk bc1) := B4_b.out.cell 1
  have yb2 : (w4).cell? ⟨(w2.heap.size + 1), 2, none⟩ = some (.slice bA2 dv bc2) := B4_b.out.cell 2
  have yb3 : (w4).cell? ⟨(w2.heap.size + 1), 3, none⟩ = some (.slice bA3 dd bc3) := B4_b.out.cell 3
  have yd0 : (w4).cell? ⟨(w3.heap.size + 1), 0, none⟩ = some (.bool df) := B4_d.out.cell 0
  have yd1 : (w4).cell? ⟨(w3.heap.size + 1), 1, none⟩ = some (.slice dA1 dk dc1) := B4_d.out.cell 1
  have yd2 : (w4).cell? ⟨(w3.heap.size + 1), 2, none⟩ = some (.slice dA2 dv dc2) := B4_d.out.cell 2
  have yd3 : (w4).cell? ⟨(w3.heap.size + 1), 3, none⟩ = some (.slice dA3 dd dc3) := B4_d.out.cell 3
  go_wp2_with fail
  refine (HSB.out _ bA1 bc1 bA2 bc2 bA3 bc3 dA1 dc1 dA2 dc2 dA3 dc3 N4_b.out N4_d.out).mono ?_
  rintro e w5 ⟨rfl, ht⟩
  have T5 := Lib.hid (T4.out.trans ht)
  have B5_n := Lib.hid (B4_n.out.turn ht (fun h => h))
  have B5_a := Lib.hid (B4_a.out.turn ht (fun h => h))
  have B5_b := Lib.hid (B4_b.out.turn ht (fun h => h))
  have B5_c := Lib.hid (B4_c.out.turn ht (fun h => h))
  have B5_d := Lib.hid (B4_d.out.turn ht (fun h => h))
  have N5_a := Lib.hid (N4_a.out.turn ht)
  have N5_b := Lib.hid (N4_b.out.turn ht)
  have N5_c := Lib.hid (N4_c.out.turn ht)
  have N5_d := Lib.hid (N4_d.out.turn ht)
  clear ht  T4 B4_n B4_a B4_b B4_c B4_d N4_a N4_b N4_c N4_d yb0 yb1 yb2 yb3 yd0 yd1 yd2 yd3 
  go_wp2_with fail
  refine (HLV.out _).mono ?_
  rintro e w6 ⟨rfl, ht⟩
  have T6 := Lib.hid (T5.out.trans ht)
  have B6_n := Lib.hid (B5_n.out.turn ht (fun h => h))
  have B6_a := Lib.hid (B5_a.out.turn ht (fun h => h))
  have B6_b := Lib.hid (B5_b.out.turn ht (fun h => h))
  have B6_c := Lib.hid (B5_c.out.turn ht (fun h => h))
  have B6_d := Lib.hid (B5_d.out.turn ht (fun h => h))
  have N6_a := Lib.hid (N5_a.out.turn ht)
  have N6_b := Lib.hid (N5_b.out.turn ht)
  have N6_c := Lib.hid (N5_c.out.turn ht)
  have N6_d := Lib.hid (N5_d.out.turn ht)
  clear ht  T5 B5_n B5_a B5_b B5_c B5_d N5_a N5_b N5_c N5_d 
  go_wp2_with fail
  go_ret
  exact ⟨rfl, turn_below8 T6.out⟩
theorem pageSplits_walk (v : Value) (n : Nd) (w : World) (hv : NodeV w w.heap.size v n) (hb : (∀ s ∈ n.keys, s.size ≤ 140737488351232) ∧ ∀ s ∈ n.vals, s.size ≤ 140737488351232) :
    Calls Try.prog 5 #[v] w fun e w' => e = .returned (.bool true) ∧ Below w.heap.size w w' := by
  obtain ⟨A1, c1, A2, c2, A3, c3, rfl, hno, k1, k2, k3⟩ := hv.no2 (Nat.le_refl _)
  cases hfw : few8 n with
  | false => exact pageSplits_few n w A1 c1 A2 c2 A3 c3 hfw
  | true => exact pageSplits_all n w A1 c1 A2 c2 A3 c3 hfw hno k1 k2 k3 (few8_yes hfw hb.1 hb.2)
end Go.Proofs.Ytpnnbfojdccfhaa
