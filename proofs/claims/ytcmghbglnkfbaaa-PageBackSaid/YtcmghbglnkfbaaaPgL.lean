/- Layer 8: the chapter's example; few. -/
import Derived.Test.YtcmghbglnkfbaaaPgK
namespace Go.Proofs.Ytcmghbglnkfbaaa
open Go.RowKit
set_option linter.unusedVariables false
set_option maxRecDepth 100000

def kA : ByteArray := ⟨#[97]⟩
def kB : ByteArray := ⟨#[98]⟩
def kD : ByteArray := ⟨#[100]⟩
def kZ : ByteArray := ⟨#[122]⟩
def k1 : ByteArray := ⟨#[49]⟩
def N1 : Nd := ⟨true, [kA], [k1], []⟩
def M1 : Nd := ⟨false, [kB, kD], [], [5, 6, 7]⟩
theorem stands_N1 : Stands8 N1 := by
  refine (stands_leaf _ _ _).2 ⟨fun j hj => ?_, fun j hj => ?_, rfl, rfl⟩
  · obtain rfl : j = 0 := by simp at hj; omega
    exact ⟨by decide, fun h => absurd h (Nat.lt_irrefl _)⟩
  · obtain rfl : j = 0 := by simp at hj; omega
    decide
theorem stands_M1 : Stands8 M1 := by
  refine (stands_kids _ _ _).2 ⟨fun j hj => ?_, fun j hj => ?_, rfl, rfl⟩
  · have h : j = 0 ∨ j = 1 := by simp at hj; omega
    rcases h with rfl | rfl
    · exact ⟨by decide, fun h => absurd h (Nat.lt_irrefl _)⟩
    · exact ⟨by decide, fun _ => by decide⟩
  · have h : j = 0 ∨ j = 1 ∨ j = 2 := by simp at hj; omega
    rcases h with rfl | rfl | rfl <;> decide
theorem size_N1 : size8 N1 = 8 := by decide
theorem check_N1 : check8 N1 = 0 := by unfold check8; rw [st8_yes stands_N1, if_pos rfl, if_pos (by rw [size_N1]; decide)]
theorem find_N1 : find8 N1 kB = (1, false) := by unfold find8; rw [st8_yes stands_N1, if_pos rfl]; decide +kernel
theorem find_MB : find8 M1 kB = (1, false) := by unfold find8; rw [st8_yes stands_M1, if_pos rfl]; decide +kernel
theorem find_MA : find8 M1 kA = (0, false) := by unfold find8; rw [st8_yes stands_M1, if_pos rfl]; decide +kernel
theorem find_MZ : find8 M1 kZ = (2, false) := by unfold find8; rw [st8_yes stands_M1, if_pos rfl]; decide +kernel
def l9 : List UInt8 := [76, 0, 1, 1, 97, 0, 1, 49, 0]
theorem raw_N1 : raw8 N1 = [76, 0, 1, 1, 97, 0, 1, 49] := by decide +kernel
theorem pgb_N1 : pgb N1 = l9 ++ List.replicate 1015 0 := by
  unfold pgb
  rw [raw_N1]
  show [76, 0, 1, 1, 97, 0, 1, 49] ++ List.replicate (1015 + 1) 0 = _
  rw [List.replicate_succ]; rfl
theorem few_N1 : Few8 N1 := ⟨by decide, by decide, by decide, by intro s hs; simp [N1] at hs; subst hs; decide, by intro s hs; simp [N1] at hs; subst hs; decide⟩
theorem few_M1 : Few8 M1 := ⟨by decide, by decide, by decide, by intro s hs; simp [M1] at hs; rcases hs with rfl | rfl <;> decide, by intro s hs; simp [M1] at hs⟩
theorem sr_of_blk {w : World} {g t : Nat} {L : List ByteArray} (h : Blk w g t (L.map Value.string)) : Sr w (some ⟨g, 0, none⟩) L := fun hp => ⟨g, 0, rfl, h.lt, fun X hX j s hj => by
  have := (h.turn hX (fun h => h)).cell j
  rw [List.getElem?_map, hj] at this
  rw [Nat.zero_add]; exact this⟩
theorem nr_of_blk {w : World} {g t : Nat} {L : List Int} (h : Blk w g t (L.map (Value.int .i64))) : Nr w (some ⟨g, 0, none⟩) L := fun hp => ⟨g, 0, rfl, h.lt, fun X hX j s hj => by
  have := (h.turn hX (fun h => h)).cell j
  rw [List.getElem?_map, hj] at this
  rw [Nat.zero_add]; exact this⟩
theorem sr_nil (w : World) (A : Option Addr) : Sr w A [] := fun h => absurd h (by simp)
theorem nr_nil (w : World) (A : Option Addr) : Nr w A [] := fun h => absurd h (by simp)
set_option maxHeartbeats 4000000 in
theorem lives8 (w : World) : Calls Try.prog 8 #[] w fun e w' => e = .returned (.bool true) ∧ Turn (fun _ => False) w w' := by
  obtain ⟨W, hW⟩ : ∃ W, W = (((((w.alloc (.cells #[.string { data := #[97] }] 9)).alloc (.cells #[.string { data := #[49] }] 9)).alloc (.cells #[.bool true, .slice (some { block := w.heap.size, off := 0 }) 1 1, .slice (some { block := w.heap.size + 1, off := 0 }) 1 1, .slice none 0 0] 26)).alloc (.cells #[.string { data := #[98] }, .string { data := #[100] }] 9)).alloc (.cells #[.int .i64 5, .int .i64 6, .int .i64 7] 3)).alloc (.cells #[.bool false, .slice (some { block := w.heap.size + 1 + 1 + 1, off := 0 }) 2 2, .slice none 0 0, .slice (some { block := w.heap.size + 1 + 1 + 1 + 1, off := 0 }) 3 3] 26) := ⟨_, rfl⟩
  have s1 : ∀ (w : World) o, (w.alloc o).heap.size = w.heap.size + 1 := fun w o => by simp
  have HT : Hid (Turn (fun _ => False) w W) := Lib.hid (by rw [hW]; exact ((((((Turn.refl _ w).alloc _).alloc _).alloc _).alloc _).alloc _).alloc _)
  have b0 : Hid (Blk W w.heap.size 9 ([kA].map Value.string)) := Lib.hid (by rw [hW]; exact (((((Blk.new w _ _).alloc _).alloc _).alloc _).alloc _).alloc _)
  have b1 : Hid (Blk W (w.heap.size + 1) 9 ([k1].map Value.string)) := Lib.hid (by rw [hW]; have := Blk.new (w.alloc (.cells #[.string { data := #[97] }] 9)) 9 ([k1].map Value.string); rw [s1] at this; exact (((this.alloc _).alloc _).alloc _).alloc _)
  have b2 : Hid (Blk W (w.heap.size + 1 + 1) 26 [.bool true, .slice (some { block := w.heap.size, off := 0 }) 1 1, .slice (some { block := w.heap.size + 1, off := 0 }) 1 1, .slice none 0 0]) := Lib.hid (by rw [hW]; have := Blk.new ((w.alloc (.cells #[.string { data := #[97] }] 9)).alloc (.cells #[.string { data := #[49] }] 9)) 26 [.bool true, .slice (some { block := w.heap.size, off := 0 }) 1 1, .slice (some { block := w.heap.size + 1, off := 0 }) 1 1, .slice none 0 0]; rw [s1, s1] at this; exact ((this.alloc _).alloc _).alloc _)
  have b3 : Hid (Blk W (w.heap.size + 1 + 1 + 1) 9 ([kB, kD].map Value.string)) := Lib.hid (by rw [hW]; have := Blk.new (((w.alloc (.cells #[.string { data := #[97] }] 9)).alloc (.cells #[.string { data := #[49] }] 9)).alloc (.cells #[.bool true, .slice (some { block := w.heap.size, off := 0 }) 1 1, .slice (some { block := w.heap.size + 1, off := 0 }) 1 1, .slice none 0 0] 26)) 9 ([kB, kD].map Value.string); rw [s1, s1, s1] at this; exact (this.alloc _).alloc _)
  have b4 : Hid (Blk W (w.heap.size + 1 + 1 + 1 + 1) 3 (([5, 6, 7] : List Int).map (Value.int .i64))) := Lib.hid (by rw [hW]; have := Blk.new ((((w.alloc (.cells #[.string { data := #[97] }] 9)).alloc (.cells #[.string { data := #[49] }] 9)).alloc (.cells #[.bool true, .slice (some { block := w.heap.size, off := 0 }) 1 1, .slice (some { block := w.heap.size + 1, off := 0 }) 1 1, .slice none 0 0] 26)).alloc (.cells #[.string { data := #[98] }, .string { data := #[100] }] 9)) 3 (([5, 6, 7] : List Int).map (Value.int .i64)); rw [s1, s1, s1, s1] at this; exact this.alloc _)
  have b5 : Hid (Blk W (w.heap.size + 1 + 1 + 1 + 1 + 1) 26 [.bool false, .slice (some { block := w.heap.size + 1 + 1 + 1, off := 0 }) 2 2, .slice none 0 0, .slice (some { block := w.heap.size + 1 + 1 + 1 + 1, off := 0 }) 3 3]) := Lib.hid (by rw [hW]; have := Blk.new (((((w.alloc (.cells #[.string { data := #[97] }] 9)).alloc (.cells #[.string { data := #[49] }] 9)).alloc (.cells #[.bool true, .slice (some { block := w.heap.size, off := 0 }) 1 1, .slice (some { block := w.heap.size + 1, off := 0 }) 1 1, .slice none 0 0] 26)).alloc (.cells #[.string { data := #[98] }, .string { data := #[100] }] 9)).alloc (.cells #[.int .i64 5, .int .i64 6, .int .i64 7] 3)) 26 [.bool false, .slice (some { block := w.heap.size + 1 + 1 + 1, off := 0 }) 2 2, .slice none 0 0, .slice (some { block := w.heap.size + 1 + 1 + 1 + 1, off := 0 }) 3 3]; rw [s1, s1, s1, s1, s1] at this; exact this)
  have HN : Hid (No W (some ⟨w.heap.size, 0, none⟩) 1 (some ⟨w.heap.size + 1, 0, none⟩) 1 none 0 N1) := Lib.hid ⟨sr_of_blk b0.out, sr_of_blk b1.out, nr_nil _ _⟩
  have HM : Hid (No W (some ⟨w.heap.size + 1 + 1 + 1, 0, none⟩) 2 none 0 (some ⟨w.heap.size + 1 + 1 + 1 + 1, 0, none⟩) 3 M1) := Lib.hid ⟨sr_of_blk b3.out, sr_nil _ _, nr_of_blk b4.out⟩
  have HF1 : Hid (∀ X, Turn (fun _ => False) W X → Calls Try.prog 20 #[.agg #[.bool true, .slice (some { block := w.heap.size, off := 0 }) 1 1, .slice (some { block := w.heap.size + 1, off := 0 }) 1 1, .slice none 0 0], .string { data := #[98] }] X fun e w' => e = .returned (.tuple #[.int .i64 1, .bool false]) ∧ Turn (fun _ => False) X w') := Lib.hid (fun X hX => by
    have := find_any N1 kB _ _ _ _ _ _ X (HN.out.turn hX) few_N1; rw [find_N1] at this; exact this)
  have HFM : Hid (∀ X, Turn (fun _ => False) W X → ∀ k, Calls Try.prog 20 #[.agg #[.bool false, .slice (some { block := w.heap.size + 1 + 1 + 1, off := 0 }) 2 2, .slice none 0 0, .slice (some { block := w.heap.size + 1 + 1 + 1 + 1, off := 0 }) 3 3], .string k] X fun e w' => e = .returned (.tuple #[.int .i64 (find8 M1 k).1, .bool (find8 M1 k).2]) ∧ Turn (fun _ => False) X w') := Lib.hid (fun X hX k => find_any M1 k _ _ _ _ _ _ X (HM.out.turn hX) few_M1)
  have HFB : Hid (∀ X, Turn (fun _ => False) W X → Calls Try.prog 20 #[.agg #[.bool false, .slice (some { block := w.heap.size + 1 + 1 + 1, off := 0 }) 2 2, .slice none 0 0, .slice (some { block := w.heap.size + 1 + 1 + 1 + 1, off := 0 }) 3 3], .string { data := #[98] }] X fun e w' => e = .returned (.tuple #[.int .i64 1, .bool false]) ∧ Turn (fun _ => False) X w') := Lib.hid (fun X hX => by have := HFM.out X hX kB; rw [find_MB] at this; exact this)
  have HFA : Hid (∀ X, Turn (fun _ => False) W X → Calls Try.prog 20 #[.agg #[.bool false, .slice (some { block := w.heap.size + 1 + 1 + 1, off := 0 }) 2 2, .slice none 0 0, .slice (some { block := w.heap.size + 1 + 1 + 1 + 1, off := 0 }) 3 3], .string { data := #[97] }] X fun e w' => e = .returned (.tuple #[.int .i64 0, .bool false]) ∧ Turn (fun _ => False) X w') := Lib.hid (fun X hX => by have := HFM.out X hX kA; rw [find_MA] at this; exact this)
  have HFZ : Hid (∀ X, Turn (fun _ => False) W X → Calls Try.prog 20 #[.agg #[.bool false, .slice (some { block := w.heap.size + 1 + 1 + 1, off := 0 }) 2 2, .slice none 0 0, .slice (some { block := w.heap.size + 1 + 1 + 1 + 1, off := 0 }) 3 3], .string { data := #[122] }] X fun e w' => e = .returned (.tuple #[.int .i64 2, .bool false]) ∧ Turn (fun _ => False) X w') := Lib.hid (fun X hX => by have := HFM.out X hX kZ; rw [find_MZ] at this; exact this)
  have HZ : Hid (∀ X, Turn (fun _ => False) W X → Calls Try.prog 21 #[.agg #[.bool true, .slice (some { block := w.heap.size, off := 0 }) 1 1, .slice (some { block := w.heap.size + 1, off := 0 }) 1 1, .slice none 0 0]] X fun e w' => e = .returned (.int .i64 8) ∧ Turn (fun _ => False) X w') := Lib.hid (fun X hX => by
    have := size_any N1 _ _ _ _ _ _ X (HN.out.turn hX) few_N1; rw [size_N1] at this; exact this)
  have HB : Hid (Calls Try.prog 10 #[.agg #[.bool true, .slice (some { block := w.heap.size, off := 0 }) 1 1, .slice (some { block := w.heap.size + 1, off := 0 }) 1 1, .slice none 0 0]] W fun e w' => ∃ g cap, e = .returned (.tuple #[.slice (some ⟨g, 0, none⟩) 1024 cap, .int .i64 0]) ∧ 1024 ≤ cap ∧ (∀ X, Turn (fun _ => False) w' X → (convert 22 9 (.slice (some ⟨g, 0, none⟩) 9 cap)).run Try.prog X = .ok (.string { data := #[76, 0, 1, 1, 97, 0, 1, 49, 0] }) X) ∧ Turn (fun _ => False) W w') := Lib.hid (by
    refine (bytes_any N1 _ _ _ _ _ _ W HN.out few_N1).mono ?_
    rintro e w' ⟨v, rfl, h1, _, h3⟩
    have h1' := h1 check_N1
    obtain ⟨hx, ⟨_, h0⟩ | ⟨g, cap, cur, rfl, hg, hh, hle, _⟩⟩ := h1 check_N1
    · cases h0
    · refine ⟨g, cap, by rw [check_N1]; rfl, hle, fun X hX => ?_, h3⟩
      have h5 := own_turn8 h1' hX
      refine run_str X _ _ 5 _ _ l9 Try.underlying22 Try.underlying5 Try.underlying9 fun _ => ⟨_, rfl, fun j c hj => ?_⟩
      refine h5.cells (g := g) rfl j (u8v c) ?_
      rw [bv_at, pgb_N1, List.getElem?_append_left (by rcases Nat.lt_or_ge j l9.length with h | h; exact h; rw [List.getElem?_eq_none h] at hj; cases hj), hj]; rfl)
  clear s1
  go_enter Try.func8, Try.ntmps8
  go_wp2_with fail
  rw [← hW]
  refine HB.out.mono ?_
  rintro e w1 ⟨g, cap, rfl, hcap, hcv, ht1⟩
  have HCV := Lib.hid hcv
  have T1 := Lib.hid ht1
  have B2 := Lib.hid (b2.out.turn ht1 (fun h => h))
  have B5 := Lib.hid (b5.out.turn ht1 (fun h => h))
  clear hcv hW ht1
  have y0 := B2.out.cell 0
  have y1 := B2.out.cell 1
  have y2 := B2.out.cell 2
  have y3 := B2.out.cell 3
  simp only [List.getElem?_cons_zero, List.getElem?_cons_succ] at y0 y1 y2 y3
  go_wp2_with fail
  refine (HF1.out _ T1.out).mono ?_
  rintro e w2 ⟨rfl, ht2⟩
  have T2 := Lib.hid (T1.out.trans ht2)
  have V2 := Lib.hid ht2
  have C5 := Lib.hid (B5.out.turn ht2 (fun h => h))
  clear ht2 y0 y1 y2 y3
  have x0 := C5.out.cell 0
  have x1 := C5.out.cell 1
  have x2 := C5.out.cell 2
  have x3 := C5.out.cell 3
  simp only [List.getElem?_cons_zero, List.getElem?_cons_succ] at x0 x1 x2 x3
  go_wp2_with fail
  refine (HFB.out _ T2.out).mono ?_
  rintro e w3 ⟨rfl, ht3⟩
  have T3 := Lib.hid (T2.out.trans ht3)
  have V3 := Lib.hid (V2.out.trans ht3)
  have D5 := Lib.hid (C5.out.turn ht3 (fun h => h))
  clear ht3 x0 x1 x2 x3
  have x0 := D5.out.cell 0
  have x1 := D5.out.cell 1
  have x2 := D5.out.cell 2
  have x3 := D5.out.cell 3
  simp only [List.getElem?_cons_zero, List.getElem?_cons_succ] at x0 x1 x2 x3
  go_wp2_with fail
  refine (HFA.out _ T3.out).mono ?_
  rintro e w4 ⟨rfl, ht4⟩
  have T4 := Lib.hid (T3.out.trans ht4)
  have V4 := Lib.hid (V3.out.trans ht4)
  have E5 := Lib.hid (D5.out.turn ht4 (fun h => h))
  clear ht4 x0 x1 x2 x3
  have x0 := E5.out.cell 0
  have x1 := E5.out.cell 1
  have x2 := E5.out.cell 2
  have x3 := E5.out.cell 3
  simp only [List.getElem?_cons_zero, List.getElem?_cons_succ] at x0 x1 x2 x3
  go_wp2_with fail
  refine (HFZ.out _ T4.out).mono ?_
  rintro e w5 ⟨rfl, ht5⟩
  have T5 := Lib.hid (T4.out.trans ht5)
  have V5 := Lib.hid (V4.out.trans ht5)
  have Z2 := Lib.hid ((b2.out.turn T5.out (fun h => h)))
  clear ht5 x0 x1 x2 x3
  have y0 := Z2.out.cell 0
  have y1 := Z2.out.cell 1
  have y2 := Z2.out.cell 2
  have y3 := Z2.out.cell 3
  simp only [List.getElem?_cons_zero, List.getElem?_cons_succ] at y0 y1 y2 y3
  have hcv := HCV.out _ V5.out
  have hcap2 : (9 : Int) ≤ (cap : Int) := by omega
  have hcap3 : 9 ≤ cap := by omega
  go_wp2_with fail
  refine (HZ.out _ T5.out).mono ?_
  rintro e w6 ⟨rfl, ht6⟩
  have T6 := Lib.hid (T5.out.trans ht6)
  clear ht6 y0 y1 y2 y3
  go_wp2_with fail
  go_ret
  exact ⟨rfl, HT.out.trans T6.out⟩
def few8 (n : Nd) : Bool := decide (n.keys.length ≤ 500) && decide (n.vals.length ≤ 500) && decide (n.kids.length ≤ 500)
theorem few_any (n : Nd) (A1 : Option Addr) (c1 : Nat) (A2 : Option Addr) (c2 : Nat) (A3 : Option Addr) (c3 : Nat) (w : World) :
    Calls Try.prog 9 #[nv8 A1 c1 A2 c2 A3 c3 n] w fun e w' => e = .returned (.bool (few8 n)) ∧ Turn (fun _ => False) w w' := by
  obtain ⟨leaf, K, V, Z⟩ := n
  simp only [nv8, few8] at *
  generalize K.length = nk
  generalize V.length = nv
  generalize Z.length = nd
  have e1 : decide ((nk : Int) ≤ 500) = decide (nk ≤ 500) := by rw [decide_eq_decide]; omega
  have e2 : decide ((nv : Int) ≤ 500) = decide (nv ≤ 500) := by rw [decide_eq_decide]; omega
  have e3 : decide ((nd : Int) ≤ 500) = decide (nd ≤ 500) := by rw [decide_eq_decide]; omega
  generalize decide (nk ≤ 500) = d1 at *
  generalize decide (nv ≤ 500) = d2 at *
  generalize decide (nd ≤ 500) = d3 at *
  cases d1 <;> cases d2 <;> cases d3
  all_goals
    go_enter Try.func9, Try.ntmps9
    go_wp2_with fail
    go_ret
    exact ⟨rfl, (Turn.refl _ w).alloc _⟩
theorem few8_yes {n : Nd} (h : few8 n = true) (hk : ∀ s ∈ n.keys, s.size ≤ 140737488351232) (hv : ∀ s ∈ n.vals, s.size ≤ 140737488351232) : Few8 n := by
  unfold few8 at h
  simp at h
  exact ⟨by omega, by omega, by omega, hk, hv⟩
end Go.Proofs.Ytcmghbglnkfbaaa
