/- The walk of ambrylaw08.PageKids: the early ways. -/
import Derived.Test.YtpnnbfojdccfhaaPpA
import Derived.Test.YtpnnbfojdccfhaaPgZc
import Derived.Test.YtpnnbfojdccfhaaPgY
namespace Go.Proofs.Ytpnnbfojdccfhaa
open Go.RowKit
set_option linter.unusedVariables false
set_option linter.unusedSimpArgs false
set_option maxRecDepth 100000

theorem pageKids_few (n : Nd) (key : ByteArray) (kid : Int) (w : World) (A1 : Option Addr) (c1 : Nat) (A2 : Option Addr) (c2 : Nat) (A3 : Option Addr) (c3 : Nat) (hfw : few8 n = false) :
    Calls Try.prog 8 #[nv8 A1 c1 A2 c2 A3 c3 n, .string key, .int .i64 kid] w fun e w' => e = .returned (.bool true) ∧ Below w.heap.size w w' := by
  have HFW := Lib.hid (fun W => few_any n A1 c1 A2 c2 A3 c3 W)
  rw [hfw] at HFW
  have HLV := Lib.hid (fun W => lives8 W)
  have T0 := Lib.hid ((Turn.refl (fun _ => False) w).alloc (.cells #[.bool n.leaf, .slice A1 n.keys.length c1, .slice A2 n.vals.length c2, .slice A3 n.kids.length c3] 26))
  have B0_n := Lib.hid (Blk.new w 26 [.bool n.leaf, .slice A1 n.keys.length c1, .slice A2 n.vals.length c2, .slice A3 n.kids.length c3])
  simp only [nv8] at *
  generalize n.leaf = lf at *
  generalize n.keys.length = nk at *
  generalize n.vals.length = nv at *
  generalize n.kids.length = nd at *
  go_enter Try.func8, Try.ntmps8
  go_wp2_with fail
  refine (HFW.out _).mono ?_
  rintro e w1 ⟨rfl, ht⟩
  have T1 := Lib.hid (T0.out.trans ht)
  have B1_n := Lib.hid (B0_n.out.turn ht (fun h => h))
  clear ht  T0 B0_n 
  go_wp2_with fail
  refine (HLV.out _).mono ?_
  rintro e w2 ⟨rfl, ht⟩
  have T2 := Lib.hid (T1.out.trans ht)
  have B2_n := Lib.hid (B1_n.out.turn ht (fun h => h))
  clear ht  T1 B1_n 
  go_wp2_with fail
  go_ret
  exact ⟨rfl, turn_below8 T2.out⟩
theorem pageKids_leaf (n : Nd) (key : ByteArray) (kid : Int) (w : World) (A1 : Option Addr) (c1 : Nat) (A2 : Option Addr) (c2 : Nat) (A3 : Option Addr) (c3 : Nat) (hfw : few8 n = true) (hlf : n.leaf = true) :
    Calls Try.prog 8 #[nv8 A1 c1 A2 c2 A3 c3 n, .string key, .int .i64 kid] w fun e w' => e = .returned (.bool true) ∧ Below w.heap.size w w' := by
  have HFW := Lib.hid (fun W => few_any n A1 c1 A2 c2 A3 c3 W)
  rw [hfw] at HFW
  have HLV := Lib.hid (fun W => lives8 W)
  have T0 := Lib.hid ((Turn.refl (fun _ => False) w).alloc (.cells #[.bool n.leaf, .slice A1 n.keys.length c1, .slice A2 n.vals.length c2, .slice A3 n.kids.length c3] 26))
  have B0_n := Lib.hid (Blk.new w 26 [.bool n.leaf, .slice A1 n.keys.length c1, .slice A2 n.vals.length c2, .slice A3 n.kids.length c3])
  simp only [nv8] at *
  rw [hlf] at HFW T0 B0_n ⊢
  generalize n.keys.length = nk at *
  generalize n.vals.length = nv at *
  generalize n.kids.length = nd at *
  go_enter Try.func8, Try.ntmps8
  go_wp2_with fail
  refine (HFW.out _).mono ?_
  rintro e w1 ⟨rfl, ht⟩
  have T1 := Lib.hid (T0.out.trans ht)
  have B1_n := Lib.hid (B0_n.out.turn ht (fun h => h))
  clear ht  T0 B0_n 
  have yn0 : (w1).cell? ⟨w.heap.size, 0, none⟩ = some (.bool true) := B1_n.out.cell 0
  have yn1 : (w1).cell? ⟨w.heap.size, 1, none⟩ = some (.slice A1 nk c1) := B1_n.out.cell 1
  have yn2 : (w1).cell? ⟨w.heap.size, 2, none⟩ = some (.slice A2 nv c2) := B1_n.out.cell 2
  have yn3 : (w1).cell? ⟨w.heap.size, 3, none⟩ = some (.slice A3 nd c3) := B1_n.out.cell 3
  go_wp2_with fail
  refine (HLV.out _).mono ?_
  rintro e w2 ⟨rfl, ht⟩
  have T2 := Lib.hid (T1.out.trans ht)
  have B2_n := Lib.hid (B1_n.out.turn ht (fun h => h))
  clear ht  T1 B1_n yn0 yn1 yn2 yn3 
  go_wp2_with fail
  go_ret
  exact ⟨rfl, turn_below8 T2.out⟩
set_option maxHeartbeats 2000000 in
theorem pageKids_wrong (n : Nd) (key : ByteArray) (kid : Int) (w : World) (A1 : Option Addr) (c1 : Nat) (A2 : Option Addr) (c2 : Nat) (A3 : Option Addr) (c3 : Nat) (hfw : few8 n = true) (hlf : n.leaf = false) (hno : No w A1 c1 A2 c2 A3 c3 n) (hf : Few8 n) (hc : check8 n ≠ 0) :
    Calls Try.prog 8 #[nv8 A1 c1 A2 c2 A3 c3 n, .string key, .int .i64 kid] w fun e w' => e = .returned (.bool true) ∧ Below w.heap.size w w' := by
  have HFW := Lib.hid (fun W => few_any n A1 c1 A2 c2 A3 c3 W)
  rw [hfw] at HFW
  have HLV := Lib.hid (fun W => lives8 W)
  have T0 := Lib.hid ((Turn.refl (fun _ => False) w).alloc (.cells #[.bool n.leaf, .slice A1 n.keys.length c1, .slice A2 n.vals.length c2, .slice A3 n.kids.length c3] 26))
  have B0_n := Lib.hid (Blk.new w 26 [.bool n.leaf, .slice A1 n.keys.length c1, .slice A2 n.vals.length c2, .slice A3 n.kids.length c3])
  have HCK := Lib.hid (fun W (ht : Turn (fun _ => False) w W) => check_any n A1 c1 A2 c2 A3 c3 W (hno.turn ht) hf)
  clear hno hf
  generalize check8 n = C at *
  have hC : ((C : Int) == 0) = false := by simp; omega
  simp only [nv8] at *
  rw [hlf] at HFW T0 B0_n HCK ⊢
  generalize n.keys.length = nk at *
  generalize n.vals.length = nv at *
  generalize n.kids.length = nd at *
  go_enter Try.func8, Try.ntmps8
  go_wp2_with fail
  refine (HFW.out _).mono ?_
  rintro e w1 ⟨rfl, ht⟩
  have T1 := Lib.hid (T0.out.trans ht)
  have B1_n := Lib.hid (B0_n.out.turn ht (fun h => h))
  clear ht  T0 B0_n 
  have yn0 : (w1).cell? ⟨w.heap.size, 0, none⟩ = some (.bool false) := B1_n.out.cell 0
  have yn1 : (w1).cell? ⟨w.heap.size, 1, none⟩ = some (.slice A1 nk c1) := B1_n.out.cell 1
  have yn2 : (w1).cell? ⟨w.heap.size, 2, none⟩ = some (.slice A2 nv c2) := B1_n.out.cell 2
  have yn3 : (w1).cell? ⟨w.heap.size, 3, none⟩ = some (.slice A3 nd c3) := B1_n.out.cell 3
  go_wp2_with fail
  refine (HCK.out _ T1.out).mono ?_
  rintro e w2 ⟨rfl, ht⟩
  have T2 := Lib.hid (T1.out.trans ht)
  have B2_n := Lib.hid (B1_n.out.turn ht (fun h => h))
  clear ht  T1 B1_n yn0 yn1 yn2 yn3 
  go_wp2_with fail
  refine (HLV.out _).mono ?_
  rintro e w3 ⟨rfl, ht⟩
  have T3 := Lib.hid (T2.out.trans ht)
  have B3_n := Lib.hid (B2_n.out.turn ht (fun h => h))
  clear ht  T2 B2_n 
  go_wp2_with fail
  go_ret
  exact ⟨rfl, turn_below8 T3.out⟩
set_option maxHeartbeats 2000000 in
theorem pageKids_neg (n : Nd) (key : ByteArray) (kid : Int) (w : World) (A1 : Option Addr) (c1 : Nat) (A2 : Option Addr) (c2 : Nat) (A3 : Option Addr) (c3 : Nat) (hfw : few8 n = true) (hlf : n.leaf = false) (hno : No w A1 c1 A2 c2 A3 c3 n) (hf : Few8 n) (hc : check8 n = 0) (hk : kid < 0) :
    Calls Try.prog 8 #[nv8 A1 c1 A2 c2 A3 c3 n, .string key, .int .i64 kid] w fun e w' => e = .returned (.bool true) ∧ Below w.heap.size w w' := by
  have HFW := Lib.hid (fun W => few_any n A1 c1 A2 c2 A3 c3 W)
  rw [hfw] at HFW
  have HLV := Lib.hid (fun W => lives8 W)
  have T0 := Lib.hid ((Turn.refl (fun _ => False) w).alloc (.cells #[.bool n.leaf, .slice A1 n.keys.length c1, .slice A2 n.vals.length c2, .slice A3 n.kids.length c3] 26))
  have B0_n := Lib.hid (Blk.new w 26 [.bool n.leaf, .slice A1 n.keys.length c1, .slice A2 n.vals.length c2, .slice A3 n.kids.length c3])
  have HCK := Lib.hid (fun W (ht : Turn (fun _ => False) w W) => check_any n A1 c1 A2 c2 A3 c3 W (hno.turn ht) hf)
  rw [hc] at HCK
  clear hno hf hc
  simp only [nv8] at *
  rw [hlf] at HFW T0 B0_n HCK ⊢
  generalize n.keys.length = nk at *
  generalize n.vals.length = nv at *
  generalize n.kids.length = nd at *
  go_enter Try.func8, Try.ntmps8
  go_wp2_with fail
  refine (HFW.out _).mono ?_
  rintro e w1 ⟨rfl, ht⟩
  have T1 := Lib.hid (T0.out.trans ht)
  have B1_n := Lib.hid (B0_n.out.turn ht (fun h => h))
  clear ht  T0 B0_n 
  have yn0 : (w1).cell? ⟨w.heap.size, 0, none⟩ = some (.bool false) := B1_n.out.cell 0
  have yn1 : (w1).cell? ⟨w.heap.size, 1, none⟩ = some (.slice A1 nk c1) := B1_n.out.cell 1
  have yn2 : (w1).cell? ⟨w.heap.size, 2, none⟩ = some (.slice A2 nv c2) := B1_n.out.cell 2
  have yn3 : (w1).cell? ⟨w.heap.size, 3, none⟩ = some (.slice A3 nd c3) := B1_n.out.cell 3
  go_wp2_with fail
  refine (HCK.out _ T1.out).mono ?_
  rintro e w2 ⟨rfl, ht⟩
  have T2 := Lib.hid (T1.out.trans ht)
  have B2_n := Lib.hid (B1_n.out.turn ht (fun h => h))
  clear ht  T1 B1_n yn0 yn1 yn2 yn3 
  go_wp2_with fail
  refine (HLV.out _).mono ?_
  rintro e w3 ⟨rfl, ht⟩
  have T3 := Lib.hid (T2.out.trans ht)
  have B3_n := Lib.hid (B2_n.out.turn ht (fun h => h))
  clear ht  T2 B2_n 
  go_wp2_with fail
  go_ret
  exact ⟨rfl, turn_below8 T3.out⟩
set_option maxHeartbeats 2000000 in
theorem pageKids_big (n : Nd) (key : ByteArray) (kid : Int) (w : World) (A1 : Option Addr) (c1 : Nat) (A2 : Option Addr) (c2 : Nat) (A3 : Option Addr) (c3 : Nat) (hfw : few8 n = true) (hlf : n.leaf = false) (hno : No w A1 c1 A2 c2 A3 c3 n) (hf : Few8 n) (hc : check8 n = 0) (hk : 16384 ≤ kid) :
    Calls Try.prog 8 #[nv8 A1 c1 A2 c2 A3 c3 n, .string key, .int .i64 kid] w fun e w' => e = .returned (.bool true) ∧ Below w.heap.size w w' := by
  have HFW := Lib.hid (fun W => few_any n A1 c1 A2 c2 A3 c3 W)
  rw [hfw] at HFW
  have HLV := Lib.hid (fun W => lives8 W)
  have T0 := Lib.hid ((Turn.refl (fun _ => False) w).alloc (.cells #[.bool n.leaf, .slice A1 n.keys.length c1, .slice A2 n.vals.length c2, .slice A3 n.kids.length c3] 26))
  have B0_n := Lib.hid (Blk.new w 26 [.bool n.leaf, .slice A1 n.keys.length c1, .slice A2 n.vals.length c2, .slice A3 n.kids.length c3])
  have HCK := Lib.hid (fun W (ht : Turn (fun _ => False) w W) => check_any n A1 c1 A2 c2 A3 c3 W (hno.turn ht) hf)
  rw [hc] at HCK
  clear hno hf hc
  simp only [nv8] at *
  rw [hlf] at HFW T0 B0_n HCK ⊢
  have hk0 : decide (kid < 0) = false := decide_eq_false (by omega)
  generalize n.keys.length = nk at *
  generalize n.vals.length = nv at *
  generalize n.kids.length = nd at *
  go_enter Try.func8, Try.ntmps8
  go_wp2_with fail
  refine (HFW.out _).mono ?_
  rintro e w1 ⟨rfl, ht⟩
  have T1 := Lib.hid (T0.out.trans ht)
  have B1_n := Lib.hid (B0_n.out.turn ht (fun h => h))
  clear ht  T0 B0_n 
  have yn0 : (w1).cell? ⟨w.heap.size, 0, none⟩ = some (.bool false) := B1_n.out.cell 0
  have yn1 : (w1).cell? ⟨w.heap.size, 1, none⟩ = some (.slice A1 nk c1) := B1_n.out.cell 1
  have yn2 : (w1).cell? ⟨w.heap.size, 2, none⟩ = some (.slice A2 nv c2) := B1_n.out.cell 2
  have yn3 : (w1).cell? ⟨w.heap.size, 3, none⟩ = some (.slice A3 nd c3) := B1_n.out.cell 3
  go_wp2_with fail
  refine (HCK.out _ T1.out).mono ?_
  rintro e w2 ⟨rfl, ht⟩
  have T2 := Lib.hid (T1.out.trans ht)
  have B2_n := Lib.hid (B1_n.out.turn ht (fun h => h))
  clear ht  T1 B1_n yn0 yn1 yn2 yn3 
  go_wp2_with fail
  refine (HLV.out _).mono ?_
  rintro e w3 ⟨rfl, ht⟩
  have T3 := Lib.hid (T2.out.trans ht)
  have B3_n := Lib.hid (B2_n.out.turn ht (fun h => h))
  clear ht  T2 B2_n 
  go_wp2_with fail
  go_ret
  exact ⟨rfl, turn_below8 T3.out⟩
set_option maxHeartbeats 2000000 in
theorem pageKids_long (n : Nd) (key : ByteArray) (kid : Int) (w : World) (A1 : Option Addr) (c1 : Nat) (A2 : Option Addr) (c2 : Nat) (A3 : Option Addr) (c3 : Nat) (hfw : few8 n = true) (hlf : n.leaf = false) (hno : No w A1 c1 A2 c2 A3 c3 n) (hf : Few8 n) (hc : check8 n = 0) (hk0 : 0 ≤ kid) (hk1 : kid < 16384) (hk : 128 < key.size) :
    Calls Try.prog 8 #[nv8 A1 c1 A2 c2 A3 c3 n, .string key, .int .i64 kid] w fun e w' => e = .returned (.bool true) ∧ Below w.heap.size w w' := by
  have HFW := Lib.hid (fun W => few_any n A1 c1 A2 c2 A3 c3 W)
  rw [hfw] at HFW
  have HLV := Lib.hid (fun W => lives8 W)
  have T0 := Lib.hid ((Turn.refl (fun _ => False) w).alloc (.cells #[.bool n.leaf, .slice A1 n.keys.length c1, .slice A2 n.vals.length c2, .slice A3 n.kids.length c3] 26))
  have B0_n := Lib.hid (Blk.new w 26 [.bool n.leaf, .slice A1 n.keys.length c1, .slice A2 n.vals.length c2, .slice A3 n.kids.length c3])
  have HCK := Lib.hid (fun W (ht : Turn (fun _ => False) w W) => check_any n A1 c1 A2 c2 A3 c3 W (hno.turn ht) hf)
  rw [hc] at HCK
  clear hno hf hc
  simp only [nv8] at *
  rw [hlf] at HFW T0 B0_n HCK ⊢
  have g1 : decide (kid < 0) = false := decide_eq_false (by omega)
  have g2 : decide ((16384 : Int) ≤ kid) = false := decide_eq_false (by omega)
  have g3 : (128 : Int) < (key.size : Int) := by omega
  clear hk0 hk1 hk
  generalize n.keys.length = nk at *
  generalize n.vals.length = nv at *
  generalize n.kids.length = nd at *
  go_enter Try.func8, Try.ntmps8
  go_wp2_with fail
  refine (HFW.out _).mono ?_
  rintro e w1 ⟨rfl, ht⟩
  have T1 := Lib.hid (T0.out.trans ht)
  have B1_n := Lib.hid (B0_n.out.turn ht (fun h => h))
  clear ht  T0 B0_n 
  have yn0 : (w1).cell? ⟨w.heap.size, 0, none⟩ = some (.bool false) := B1_n.out.cell 0
  have yn1 : (w1).cell? ⟨w.heap.size, 1, none⟩ = some (.slice A1 nk c1) := B1_n.out.cell 1
  have yn2 : (w1).cell? ⟨w.heap.size, 2, none⟩ = some (.slice A2 nv c2) := B1_n.out.cell 2
  have yn3 : (w1).cell? ⟨w.heap.size, 3, none⟩ = some (.slice A3 nd c3) := B1_n.out.cell 3
  go_wp2_with fail
  refine (HCK.out _ T1.out).mono ?_
  rintro e w2 ⟨rfl, ht⟩
  have T2 := Lib.hid (T1.out.trans ht)
  have B2_n := Lib.hid (B1_n.out.turn ht (fun h => h))
  clear ht  T1 B1_n yn0 yn1 yn2 yn3 
  go_wp2_with fail
  refine (HLV.out _).mono ?_
  rintro e w3 ⟨rfl, ht⟩
  have T3 := Lib.hid (T2.out.trans ht)
  have B3_n := Lib.hid (B2_n.out.turn ht (fun h => h))
  clear ht  T2 B2_n 
  go_wp2_with fail
  go_ret
  exact ⟨rfl, turn_below8 T3.out⟩
end Go.Proofs.Ytpnnbfojdccfhaa
