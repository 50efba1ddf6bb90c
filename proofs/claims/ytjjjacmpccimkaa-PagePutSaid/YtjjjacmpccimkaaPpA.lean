/- The walk of ambrylaw08.PagePut. -/
import Derived.Test.YtjjjacmpccimkaaPgT
import Derived.Test.YtjjjacmpccimkaaPageWritesW
namespace Go.Proofs.Ytjjjacmpccimkaa
open Go.RowKit
set_option linter.unusedVariables false
set_option maxRecDepth 100000

theorem few8_of {n : Nd} (hs : Stands8 n) (hl : n.leaf = true) (h : n.keys.length ≤ 2000) : Few8 n := by
  obtain ⟨h1, h2, h3, h4, h5⟩ := (stands_leaf2 hl).1 hs
  exact ⟨h, by omega, by rw [h5]; simp, fun s hs => Nat.le_trans (h1 s hs) (by decide), fun s hs => Nat.le_trans (h3 s hs) (by decide)⟩
theorem same_nil (w : World) : Calls Try.prog 21 #[.agg #[.bool false, .slice none 0 0, .slice none 0 0, .slice none 0 0], .agg #[.bool false, .slice none 0 0, .slice none 0 0, .slice none 0 0]] w fun e w' => e = .returned (.bool true) ∧ Turn (fun _ => False) w w' :=
  refSame_any nil8 none 0 none 0 none 0 none 0 none 0 none 0 w ⟨sr_nil _ _, sr_nil _ _, nr_nil _ _⟩ ⟨sr_nil _ _, sr_nil _ _, nr_nil _ _⟩ (by decide) (by decide) (by decide)
theorem pagePut_few (v : Value) (n : Nd) (key val other : ByteArray) (w : World) (A1 : Option Addr) (c1 : Nat) (A2 : Option Addr) (c2 : Nat) (A3 : Option Addr) (c3 : Nat) (hfw : few8 n = false) :
    Calls Try.prog 10 #[nv8 A1 c1 A2 c2 A3 c3 n, .string key, .string val, .string other] w fun e w' => e = .returned (.bool true) ∧ Below w.heap.size w w' := by
  have HFW := Lib.hid (fun W => few_any n A1 c1 A2 c2 A3 c3 W)
  have T0 := Lib.hid ((Turn.refl (fun _ => False) w).alloc (.cells #[.bool n.leaf, .slice A1 n.keys.length c1, .slice A2 n.vals.length c2, .slice A3 n.kids.length c3] 25))
  rw [hfw] at HFW
  have HLV := Lib.hid (fun W => lives8 W)
  obtain ⟨leaf, K, V, Z⟩ := n
  simp only [nv8] at *
  generalize K.length = nk at *
  generalize V.length = nv at *
  generalize Z.length = nd at *
  go_enter Try.func10, Try.ntmps10
  go_wp2_with fail
  refine (HFW.out _).mono ?_
  rintro e w1 ⟨rfl, ht1⟩
  have T1 := Lib.hid (T0.out.trans ht1)
  go_wp2_with fail
  refine (HLV.out _).mono ?_
  rintro e w2 ⟨rfl, ht2⟩
  have T2 := Lib.hid (T1.out.trans ht2)
  go_wp2_with fail
  go_ret
  exact ⟨rfl, turn_below8 T2.out⟩
set_option maxHeartbeats 2000000 in
theorem pagePut_bad (n : Nd) (key val other : ByteArray) (hkz : key.size ≤ 140737488351232) (hvz : val.size ≤ 140737488351232) (w : World) (A1 : Option Addr) (c1 : Nat) (A2 : Option Addr) (c2 : Nat) (A3 : Option Addr) (c3 : Nat) (hfw : few8 n = true) (hno : No w A1 c1 A2 c2 A3 c3 n) (hf : Few8 n) (hp : pok8 n key val = false) :
    Calls Try.prog 10 #[nv8 A1 c1 A2 c2 A3 c3 n, .string key, .string val, .string other] w fun e w' => e = .returned (.bool true) ∧ Below w.heap.size w w' := by
  have HFW := Lib.hid (fun W => few_any n A1 c1 A2 c2 A3 c3 W)
  have T0 := Lib.hid ((Turn.refl (fun _ => False) w).alloc (.cells #[.bool n.leaf, .slice A1 n.keys.length c1, .slice A2 n.vals.length c2, .slice A3 n.kids.length c3] 25))
  have B0 := Lib.hid (Blk.new w 25 [.bool n.leaf, .slice A1 n.keys.length c1, .slice A2 n.vals.length c2, .slice A3 n.kids.length c3])
  rw [hfw] at HFW
  have HLV := Lib.hid (fun W => lives8 W)
  have HP := Lib.hid (fun W (ht : Turn (fun _ => False) w W) => put_no n key val hkz hvz A1 c1 A2 c2 A3 c3 W (hno.turn ht) hf hp)
  clear hno hf hp hfw
  obtain ⟨leaf, K, V, Z⟩ := n
  simp only [nv8] at *
  generalize K.length = nk at *
  generalize V.length = nv at *
  generalize Z.length = nd at *
  go_enter Try.func10, Try.ntmps10
  go_wp2_with fail
  refine (HFW.out _).mono ?_
  rintro e w1 ⟨rfl, ht1⟩
  have T1 := Lib.hid (T0.out.trans ht1)
  have B1 := Lib.hid (B0.out.turn ht1 (fun h => h))
  clear ht1 T0 B0
  have y0 : w1.cell? ⟨w.heap.size, 0, none⟩ = some (.bool leaf) := B1.out.cell 0
  have y1 : w1.cell? ⟨w.heap.size, 1, none⟩ = some (.slice A1 nk c1) := B1.out.cell 1
  have y2 : w1.cell? ⟨w.heap.size, 2, none⟩ = some (.slice A2 nv c2) := B1.out.cell 2
  have y3 : w1.cell? ⟨w.heap.size, 3, none⟩ = some (.slice A3 nd c3) := B1.out.cell 3
  go_wp2_with fail
  refine (HP.out _ T1.out).mono ?_
  rintro e w2 ⟨rfl, ht2⟩
  have T2 := Lib.hid (T1.out.trans ht2)
  clear ht2 y0 y1 y2 y3
  go_wp2_with fail
  refine (same_nil _).mono ?_
  rintro e w3 ⟨rfl, ht3⟩
  have T3 := Lib.hid ((T2.out.alloc _).trans ht3)
  clear ht3
  go_wp2_with fail
  refine (HLV.out _).mono ?_
  rintro e w4 ⟨rfl, ht4⟩
  have T4 := Lib.hid (T3.out.trans ht4)
  go_wp2_with fail
  go_ret
  exact ⟨rfl, turn_below8 T4.out⟩
theorem few_drop {n : Nd} (h : Few8 n) (P : Nat) : Few8 (drop8 n P) := by
  have hl : ∀ (L : List ByteArray) (a g : Nat), (chg8 L a g []).length ≤ L.length := fun L a g => by unfold chg8; simp only [List.length_append, List.length_take, List.length_drop, List.length_nil]; omega
  have hm : ∀ (L : List ByteArray) (a g : Nat) (s : ByteArray), s ∈ chg8 L a g [] → s ∈ L := fun L a g s hs => by
    rcases mem_chg.1 hs with h | h | h
    · exact List.mem_of_mem_take h
    · cases h
    · exact List.mem_of_mem_drop h
  exact ⟨Nat.le_trans (hl _ _ _) h.nk, Nat.le_trans (hl _ _ _) h.nv, by show 0 ≤ 2000; omega, fun s hs => h.ks s (hm _ _ _ _ hs), fun s hs => h.vs s (hm _ _ _ _ hs)⟩
end Go.Proofs.Ytjjjacmpccimkaa
