/- The walk of ambrylaw08.PageHalves: the early ways. -/
import Derived.Test.YtpnnbfojdccfhaaPpA
import Derived.Test.YtpnnbfojdccfhaaPgZa
import Derived.Test.YtpnnbfojdccfhaaPgY
namespace Go.Proofs.Ytpnnbfojdccfhaa
open Go.RowKit
set_option linter.unusedVariables false
set_option maxRecDepth 100000

theorem pageHalves_few (n : Nd) (key val : ByteArray) (w : World) (A1 : Option Addr) (c1 : Nat) (A2 : Option Addr) (c2 : Nat) (A3 : Option Addr) (c3 : Nat) (hfw : few8 n = false) :
    Calls Try.prog 7 #[nv8 A1 c1 A2 c2 A3 c3 n, .string key, .string val] w fun e w' => e = .returned (.bool true) ∧ Below w.heap.size w w' := by
  have HFW := Lib.hid (fun W => few_any n A1 c1 A2 c2 A3 c3 W)
  have T0 := Lib.hid ((Turn.refl (fun _ => False) w).alloc (.cells #[.bool n.leaf, .slice A1 n.keys.length c1, .slice A2 n.vals.length c2, .slice A3 n.kids.length c3] 26))
  have B0 := Lib.hid (Blk.new w 26 [.bool n.leaf, .slice A1 n.keys.length c1, .slice A2 n.vals.length c2, .slice A3 n.kids.length c3])
  have HLV := Lib.hid (fun W => lives8 W)
  rw [hfw] at HFW
  simp only [nv8] at *
  generalize n.leaf = lf at *
  generalize n.keys.length = nk at *
  generalize n.vals.length = nv at *
  generalize n.kids.length = nd at *
  go_enter Try.func7, Try.ntmps7
  go_wp2_with fail
  refine (HFW.out _).mono ?_
  rintro e w1 ⟨rfl, ht1⟩
  have T1 := Lib.hid (T0.out.trans ht1)
  have B1 := Lib.hid (B0.out.turn ht1 (fun h => h))
  clear ht1 T0 B0
  go_wp2_with fail
  refine (HLV.out _).mono ?_
  rintro e w2 ⟨rfl, ht2⟩
  have T2 := Lib.hid ((T1.out).trans ht2)
  go_wp2_with fail
  go_ret
  exact ⟨rfl, turn_below8 T2.out⟩
theorem pageHalves_kids (n : Nd) (key val : ByteArray) (w : World) (A1 : Option Addr) (c1 : Nat) (A2 : Option Addr) (c2 : Nat) (A3 : Option Addr) (c3 : Nat) (hfw : few8 n = true) (hlf : n.leaf = false) :
    Calls Try.prog 7 #[nv8 A1 c1 A2 c2 A3 c3 n, .string key, .string val] w fun e w' => e = .returned (.bool true) ∧ Below w.heap.size w w' := by
  have HFW := Lib.hid (fun W => few_any n A1 c1 A2 c2 A3 c3 W)
  have T0 := Lib.hid ((Turn.refl (fun _ => False) w).alloc (.cells #[.bool n.leaf, .slice A1 n.keys.length c1, .slice A2 n.vals.length c2, .slice A3 n.kids.length c3] 26))
  have B0 := Lib.hid (Blk.new w 26 [.bool n.leaf, .slice A1 n.keys.length c1, .slice A2 n.vals.length c2, .slice A3 n.kids.length c3])
  have HLV := Lib.hid (fun W => lives8 W)
  rw [hfw] at HFW
  simp only [nv8] at *
  rw [hlf] at *
  generalize n.keys.length = nk at *
  generalize n.vals.length = nv at *
  generalize n.kids.length = nd at *
  go_enter Try.func7, Try.ntmps7
  go_wp2_with fail
  refine (HFW.out _).mono ?_
  rintro e w1 ⟨rfl, ht1⟩
  have T1 := Lib.hid (T0.out.trans ht1)
  have B1 := Lib.hid (B0.out.turn ht1 (fun h => h))
  clear ht1 T0 B0
  have y0 : (w1).cell? ⟨w.heap.size, 0, none⟩ = some (.bool false) := B1.out.cell 0
  have y1 : (w1).cell? ⟨w.heap.size, 1, none⟩ = some (.slice A1 nk c1) := B1.out.cell 1
  have y2 : (w1).cell? ⟨w.heap.size, 2, none⟩ = some (.slice A2 nv c2) := B1.out.cell 2
  have y3 : (w1).cell? ⟨w.heap.size, 3, none⟩ = some (.slice A3 nd c3) := B1.out.cell 3
  go_wp2_with fail
  refine (HLV.out _).mono ?_
  rintro e w2 ⟨rfl, ht2⟩
  have T2 := Lib.hid ((T1.out).trans ht2)
  go_wp2_with fail
  go_ret
  exact ⟨rfl, turn_below8 T2.out⟩
set_option maxHeartbeats 2000000 in
theorem pageHalves_wrong (n : Nd) (key val : ByteArray) (w : World) (A1 : Option Addr) (c1 : Nat) (A2 : Option Addr) (c2 : Nat) (A3 : Option Addr) (c3 : Nat) (hfw : few8 n = true) (hlf : n.leaf = true) (hno : No w A1 c1 A2 c2 A3 c3 n) (hf : Few8 n) (hc : check8 n ≠ 0) :
    Calls Try.prog 7 #[nv8 A1 c1 A2 c2 A3 c3 n, .string key, .string val] w fun e w' => e = .returned (.bool true) ∧ Below w.heap.size w w' := by
  have HFW := Lib.hid (fun W => few_any n A1 c1 A2 c2 A3 c3 W)
  have T0 := Lib.hid ((Turn.refl (fun _ => False) w).alloc (.cells #[.bool n.leaf, .slice A1 n.keys.length c1, .slice A2 n.vals.length c2, .slice A3 n.kids.length c3] 26))
  have B0 := Lib.hid (Blk.new w 26 [.bool n.leaf, .slice A1 n.keys.length c1, .slice A2 n.vals.length c2, .slice A3 n.kids.length c3])
  have HLV := Lib.hid (fun W => lives8 W)
  have HCK := Lib.hid (fun W (ht : Turn (fun _ => False) w W) => check_any n A1 c1 A2 c2 A3 c3 W (hno.turn ht) hf)
  clear hno hf
  generalize check8 n = C at *
  have hC : ((C : Int) == 0) = false := by simp; omega
  rw [hfw] at HFW
  simp only [nv8] at *
  rw [hlf] at *
  generalize n.keys.length = nk at *
  generalize n.vals.length = nv at *
  generalize n.kids.length = nd at *
  go_enter Try.func7, Try.ntmps7
  go_wp2_with fail
  refine (HFW.out _).mono ?_
  rintro e w1 ⟨rfl, ht1⟩
  have T1 := Lib.hid (T0.out.trans ht1)
  have B1 := Lib.hid (B0.out.turn ht1 (fun h => h))
  clear ht1 T0 B0
  have y0 : (w1).cell? ⟨w.heap.size, 0, none⟩ = some (.bool true) := B1.out.cell 0
  have y1 : (w1).cell? ⟨w.heap.size, 1, none⟩ = some (.slice A1 nk c1) := B1.out.cell 1
  have y2 : (w1).cell? ⟨w.heap.size, 2, none⟩ = some (.slice A2 nv c2) := B1.out.cell 2
  have y3 : (w1).cell? ⟨w.heap.size, 3, none⟩ = some (.slice A3 nd c3) := B1.out.cell 3
  go_wp2_with fail
  refine (HCK.out _ T1.out).mono ?_
  rintro e w2 ⟨rfl, ht2⟩
  have T2 := Lib.hid (T1.out.trans ht2)
  have B2 := Lib.hid (B1.out.turn ht2 (fun h => h))
  clear ht2 T1 y0 y1 y2 y3
  go_wp2_with fail
  refine (HLV.out _).mono ?_
  rintro e w3 ⟨rfl, ht3⟩
  have T3 := Lib.hid ((T2.out).trans ht3)
  go_wp2_with fail
  go_ret
  exact ⟨rfl, turn_below8 T3.out⟩
set_option maxHeartbeats 2000000 in
theorem pageHalves_long (n : Nd) (key val : ByteArray) (hkz : key.size ≤ 140737488351232) (hvz : val.size ≤ 140737488351232) (w : World) (A1 : Option Addr) (c1 : Nat) (A2 : Option Addr) (c2 : Nat) (A3 : Option Addr) (c3 : Nat) (hfw : few8 n = true) (hlf : n.leaf = true) (hno : No w A1 c1 A2 c2 A3 c3 n) (hf : Few8 n) (hc : check8 n = 0) (hp : pok8 n key val = false) :
    Calls Try.prog 7 #[nv8 A1 c1 A2 c2 A3 c3 n, .string key, .string val] w fun e w' => e = .returned (.bool true) ∧ Below w.heap.size w w' := by
  have HFW := Lib.hid (fun W => few_any n A1 c1 A2 c2 A3 c3 W)
  have T0 := Lib.hid ((Turn.refl (fun _ => False) w).alloc (.cells #[.bool n.leaf, .slice A1 n.keys.length c1, .slice A2 n.vals.length c2, .slice A3 n.kids.length c3] 26))
  have B0 := Lib.hid (Blk.new w 26 [.bool n.leaf, .slice A1 n.keys.length c1, .slice A2 n.vals.length c2, .slice A3 n.kids.length c3])
  have HLV := Lib.hid (fun W => lives8 W)
  have hs : Stands8 n := by
    by_cases h : st8 n = true
    · exact st8_of h
    · unfold check8 at hc; rw [if_neg h] at hc; cases hc
  have hsz : size8 n ≤ 1024 := by
    unfold check8 at hc
    rw [st8_yes hs, if_pos rfl] at hc
    by_cases h : size8 n ≤ 1024
    · exact h
    · rw [if_neg h] at hc; cases hc
  have HCK := Lib.hid (fun W (ht : Turn (fun _ => False) w W) => check_any n A1 c1 A2 c2 A3 c3 W (hno.turn ht) hf)
  rw [hc] at HCK
  have hlong : 128 < key.size ∨ 200 < val.size := by
    unfold pok8 at hp
    rw [st8_yes hs, hlf] at hp
    simp at hp
    omega
  have HP := Lib.hid (fun W (ht : Turn (fun _ => False) w W) => put_no n key val hkz hvz A1 c1 A2 c2 A3 c3 W (hno.turn ht) hf hp)
  have hkv : (¬ key.size ≤ 128) ∨ (key.size ≤ 128 ∧ 200 < val.size) := by omega
  clear hno hf hp hs hsz hlong hc
  rw [hfw] at HFW
  simp only [nv8] at *
  rw [hlf] at *
  generalize n.keys.length = nk at *
  generalize n.vals.length = nv at *
  generalize n.kids.length = nd at *
  go_enter Try.func7, Try.ntmps7
  go_wp2_with fail
  refine (HFW.out _).mono ?_
  rintro e w1 ⟨rfl, ht1⟩
  have T1 := Lib.hid (T0.out.trans ht1)
  have B1 := Lib.hid (B0.out.turn ht1 (fun h => h))
  clear ht1 T0 B0
  have y0 : (w1).cell? ⟨w.heap.size, 0, none⟩ = some (.bool true) := B1.out.cell 0
  have y1 : (w1).cell? ⟨w.heap.size, 1, none⟩ = some (.slice A1 nk c1) := B1.out.cell 1
  have y2 : (w1).cell? ⟨w.heap.size, 2, none⟩ = some (.slice A2 nv c2) := B1.out.cell 2
  have y3 : (w1).cell? ⟨w.heap.size, 3, none⟩ = some (.slice A3 nd c3) := B1.out.cell 3
  go_wp2_with fail
  refine (HCK.out _ T1.out).mono ?_
  rintro e w2 ⟨rfl, ht2⟩
  have T2 := Lib.hid (T1.out.trans ht2)
  have B2 := Lib.hid (B1.out.turn ht2 (fun h => h))
  clear ht2 T1 y0 y1 y2 y3
  have y0 : (w2).cell? ⟨w.heap.size, 0, none⟩ = some (.bool true) := B2.out.cell 0
  have y1 : (w2).cell? ⟨w.heap.size, 1, none⟩ = some (.slice A1 nk c1) := B2.out.cell 1
  have y2 : (w2).cell? ⟨w.heap.size, 2, none⟩ = some (.slice A2 nv c2) := B2.out.cell 2
  have y3 : (w2).cell? ⟨w.heap.size, 3, none⟩ = some (.slice A3 nd c3) := B2.out.cell 3
  go_wp2_with fail
  refine (HP.out _ T2.out).mono ?_
  rintro e w3 ⟨rfl, ht3⟩
  have T3 := Lib.hid (T2.out.trans ht3)
  clear ht3 y0 y1 y2 y3
  rcases hkv with hk | ⟨hk, hv⟩
  · have hk1 : (128 : Int) < (key.size : Int) := by omega
    clear hk
    go_wp2_with fail
    refine (HLV.out _).mono ?_
    rintro e w4 ⟨rfl, ht4⟩
    have T4 := Lib.hid ((T3.out.alloc _).trans ht4)
    go_wp2_with fail
    go_ret
    exact ⟨rfl, turn_below8 T4.out⟩
  · have hk1 : ¬ (128 : Int) < (key.size : Int) := by omega
    have hv1 : (200 : Int) < (val.size : Int) := by omega
    clear hk hv
    go_wp2_with fail
    refine (HLV.out _).mono ?_
    rintro e w4 ⟨rfl, ht4⟩
    have T4 := Lib.hid ((T3.out.alloc _).trans ht4)
    go_wp2_with fail
    go_ret
    exact ⟨rfl, turn_below8 T4.out⟩
end Go.Proofs.Ytpnnbfojdccfhaa
