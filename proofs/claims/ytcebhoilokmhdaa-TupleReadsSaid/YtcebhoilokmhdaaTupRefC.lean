/- Layer 2: the document's answer: turned, part, Encode. -/
import Derived.Test.YtcebhoilokmhdaaTupRefB
import Derived.Laws.IdiomStrings
import Derived.Laws.BitsAllLaws
namespace Go.Proofs.Ytcebhoilokmhdaa
open Go.RowKit
set_option linter.unusedVariables false

/-- A row of bytes that a conversion has made: its first cells are these, and can be written. -/
def ArrB (w : World) (g cap : Nat) (l : List UInt8) : Prop := ∃ C : Array Value, w.heap[g]? = some (.cells C 5 (C.size, C.size + 1)) ∧ l.length ≤ C.size ∧ ∀ (j : Nat) (c : UInt8), l[j]? = some c → C[j]? = some (u8v c)
theorem ArrB.lt {w : World} {g cap : Nat} {l : List UInt8} (h : ArrB w g cap l) : g < w.heap.size := by
  obtain ⟨C, h, _⟩ := h
  exact (Array.getElem?_eq_some_iff.1 h).1
theorem ArrB.cell {w : World} {g cap : Nat} {l : List UInt8} (h : ArrB w g cap l) {j : Nat} {c : UInt8} (hj : l[j]? = some c) : w.cell? ⟨g, j, none⟩ = some (u8v c) := by
  obtain ⟨C, h, _, hc⟩ := h
  simp [World.cell?, h, hc j c hj]
theorem ArrB.free {w : World} {g cap : Nat} {l : List UInt8} (h : ArrB w g cap l) {j : Nat} (hj : j < l.length) : w.frozen? ⟨g, j, none⟩ = false := by
  obtain ⟨C, h, hl, _⟩ := h
  simp [World.frozen?, h]
  omega
theorem ArrB.put {w : World} {g cap : Nat} {l : List UInt8} (h : ArrB w g cap l) {j : Nat} (hj : j < l.length) (c : UInt8) : ArrB (w.setCell ⟨g, j, none⟩ (u8v c)) g cap (l.set j c) := by
  obtain ⟨C, h, hl, hc⟩ := h
  refine ⟨C.setIfInBounds j (u8v c), ?_, by simpa using hl, fun i d hi => ?_⟩
  · simp [World.setCell, Array.getElem?_modify, h]
  · rw [List.getElem?_set] at hi
    rw [Array.getElem?_setIfInBounds]
    split at hi
    · rename_i e
      subst e
      cases hi
      rw [if_pos rfl, if_pos (by omega)]
    · rename_i e
      rw [if_neg e]
      exact hc i d hi
theorem ArrB.drew {w : World} {g cap : Nat} {l : List UInt8} (h : ArrB w g cap l) : ArrB w.drew g cap l := h
theorem arr_str {w : World} {g cap : Nat} {l : List UInt8} (h : ArrB w g cap l) (n c : Nat) (hn : l.length = n) : (convert 22 9 (.slice (some ⟨g, 0, none⟩) n c)).run Try.prog w = .ok (.string ⟨l.toArray⟩) w := by
  subst hn
  refine run_str w 22 9 5 _ c l Try.underlying22 Try.underlying5 Try.underlying9 fun _ => ⟨_, rfl, fun j d hj => ?_⟩
  rw [show (⟨g, 0, none⟩ : Addr).add j = ⟨g, j, none⟩ from by unfold Addr.add; split <;> simp_all]
  exact h.cell hj
theorem arr_new (w : World) (s : ByteArray) : ∃ c w', (convert 9 22 (.string s)).run Try.prog w = .ok (.slice (some ⟨w.heap.size, 0, none⟩) s.size c) w' ∧ ArrB w' w.heap.size c s.data.toList ∧ Below w.heap.size w w' := by
  refine ⟨_, _, run_bytes_of_string w 9 22 5 s Try.underlying9 Try.underlying22 Try.underlying5, ?_, (Below.refl _ _).drew.alloc (Nat.le_refl _) _⟩
  refine ⟨bytesRow s (grownCap w s.size 0 5), heap_alloc_new _ _, by simp [bytesRow], fun j d hj => ?_⟩
  unfold bytesRow
  have hjs : j < s.data.size := by
    rcases Nat.lt_or_ge j s.data.size with h | h
    · exact h
    · rw [List.getElem?_eq_none (by simpa using h)] at hj; cases hj
  rw [Array.getElem?_append_left (by simpa using hjs), Array.getElem?_map, ← Array.getElem?_toList, hj]; rfl

theorem xor128 (x : Nat) (hx : x < 256) : x ^^^ 128 = (x + 128) % 256 := by
  have key : ∀ y, y < 256 → y ^^^ 128 = (y + 128) % 256 := by decide +kernel
  exact key x hx
/-- A byte turned, and all bits turned. -/
def flip8 (c : UInt8) : UInt8 := UInt8.ofNat ((c.toNat + 128) % 256)
def not8 (c : UInt8) : UInt8 := UInt8.ofNat (255 - c.toNat)
theorem u8v_flip (c : UInt8) : Value.int .u8 (bits .xor .u8 (c.toNat : Int) 128) = u8v (flip8 c) := by
  have h := c.toNat_lt
  unfold u8v flip8
  rw [UInt8.toNat_ofNat', Nat.mod_mod]
  congr 1
  have := u8_xor_nat c.toNat 128 (by omega) (by omega)
  rw [show ((128 : Nat) : Int) = 128 from rfl] at this
  rw [this, xor128 _ (by omega)]
theorem u8v_not (c : UInt8) : Value.int .u8 (255 - (c.toNat : Int)) = u8v (not8 c) := by
  have h := c.toNat_lt
  unfold u8v not8
  rw [UInt8.toNat_ofNat']
  congr 1
  omega
def turnedL (l : List UInt8) (down : Bool) : List UInt8 :=
  let m := l.set 0 (flip8 (l.headD 0))
  if down then m.map not8 else m
theorem fbyte_flip (n : Int) : flip8 (fbyte 8 n 0) = fbyte 8 (n + 9223372036854775808) 0 := by
  unfold flip8 fbyte
  rw [UInt8.toNat_ofNat']
  congr 1
  simp only [Nat.reduceMul, Nat.reduceSub, Int.reducePow]
  omega
theorem fbyte_same (n : Int) (i : Nat) (h0 : 0 < i) (hi : i < 8) : fbyte 8 n i = fbyte 8 (n + 9223372036854775808) i := by
  unfold fbyte
  have hc : i = 1 ∨ i = 2 ∨ i = 3 ∨ i = 4 ∨ i = 5 ∨ i = 6 ∨ i = 7 := by omega
  rcases hc with rfl | rfl | rfl | rfl | rfl | rfl | rfl
  all_goals
    simp only [Nat.reduceMul, Nat.reduceSub, Int.reducePow]
    congr 2
    omega
theorem fbyte_not (n : Int) (i : Nat) (hi : i < 8) : not8 (fbyte 8 n i) = fbyte 8 (-1 - n) i := by
  unfold not8 fbyte
  rw [UInt8.toNat_ofNat']
  congr 1
  have hc : i = 0 ∨ i = 1 ∨ i = 2 ∨ i = 3 ∨ i = 4 ∨ i = 5 ∨ i = 6 ∨ i = 7 := by omega
  rcases hc with rfl | rfl | rfl | rfl | rfl | rfl | rfl | rfl
  all_goals
    simp only [Nat.reduceMul, Nat.reduceSub, Int.reducePow]
    omega
theorem fld8_list (n : Int) : fld 8 n = [fbyte 8 n 0, fbyte 8 n 1, fbyte 8 n 2, fbyte 8 n 3, fbyte 8 n 4, fbyte 8 n 5, fbyte 8 n 6, fbyte 8 n 7] := rfl
theorem turned_up (n : Int) : turnedL (fld 8 n) false = fld 8 (tn 2 n) := by
  rw [show tn 2 n = n + 9223372036854775808 from rfl, fld8_list, fld8_list]
  show [flip8 (fbyte 8 n 0), _, _, _, _, _, _, _] = _
  rw [fbyte_flip, fbyte_same n 1 (by omega) (by omega), fbyte_same n 2 (by omega) (by omega), fbyte_same n 3 (by omega) (by omega), fbyte_same n 4 (by omega) (by omega), fbyte_same n 5 (by omega) (by omega), fbyte_same n 6 (by omega) (by omega), fbyte_same n 7 (by omega) (by omega)]
theorem turned_down (n : Int) : turnedL (fld 8 n) true = fld 8 (tn 3 n) := by
  have h : turnedL (fld 8 n) true = (fld 8 (n + 9223372036854775808)).map not8 := by
    rw [show n + 9223372036854775808 = tn 2 n from rfl, ← turned_up]; rfl
  rw [h, ← fld_wrap 8 (by omega) (tn 3 n), show tn 3 n % 18446744073709551616 = (-1 - (n + 9223372036854775808)) % 18446744073709551616 from by
    show (9223372036854775807 - n) % _ = _; omega, fld_wrap 8 (by omega), fld8_list, fld8_list]
  show [not8 _, not8 _, not8 _, not8 _, not8 _, not8 _, not8 _, not8 _] = _
  simp only [fbyte_not _ _ (show (0:Nat) < 8 by omega), fbyte_not _ 1 (by omega), fbyte_not _ 2 (by omega), fbyte_not _ 3 (by omega), fbyte_not _ 4 (by omega), fbyte_not _ 5 (by omega), fbyte_not _ 6 (by omega), fbyte_not _ 7 (by omega)]

theorem headD_of {l : List UInt8} {c : UInt8} (h : l[0]? = some c) : l.headD 0 = c := by
  cases l with
  | nil => cases h
  | cons a l => cases h; rfl
theorem notStep (m : List UInt8) (j : Nat) (c : UInt8) (h : m[j]? = some c) : ((m.take j).map not8 ++ m.drop j).set j (not8 c) = (m.take (j + 1)).map not8 ++ m.drop (j + 1) := by
  obtain ⟨hj, e⟩ := List.getElem?_eq_some_iff.1 h
  have hl : ((m.take j).map not8).length = j := by simp; omega
  rw [List.set_append_right _ _ (by omega), hl, Nat.sub_self, List.drop_eq_getElem_cons hj, List.set_cons_zero, List.take_add_one, h]
  simp
theorem notAt (m : List UInt8) (j : Nat) (c : UInt8) (h : m[j]? = some c) : ((m.take j).map not8 ++ m.drop j)[j]? = some c := by
  obtain ⟨hj, e⟩ := List.getElem?_eq_some_iff.1 h
  have hl : ((m.take j).map not8).length = j := by simp; omega
  rw [List.getElem?_append_right (by omega), hl, Nat.sub_self, List.getElem?_drop, Nat.add_zero, h]

set_option maxRecDepth 100000 in
set_option maxHeartbeats 1000000 in
theorem refTurned_any (S : ByteArray) (l : List UInt8) (hS : S = ⟨l.toArray⟩) (hl : l.length = 8) (down : Bool) (w : World) :
    Calls Try.prog 96 #[.string S, .bool down] w fun e w' => e = .returned (.string ⟨(turnedL l down).toArray⟩) ∧ Below w.heap.size w w' := by
  obtain ⟨c, w1, hcv, harr, hb1⟩ := arr_new w S
  have hsz : S.size = 8 := by rw [hS]; simpa [ByteArray.size] using hl
  rw [hsz] at hcv
  have e0 : S.data.toList = l := by rw [hS]
  rw [e0] at harr
  obtain ⟨c0, hc0⟩ : ∃ c0, l[0]? = some c0 := ⟨_, List.getElem?_eq_getElem (by omega)⟩
  have hcell : w1.cell? ⟨w.heap.size, 0, none⟩ = some (.int .u8 (c0.toNat : Int)) := harr.cell hc0
  have hfree : w1.frozen? ⟨w.heap.size, 0, none⟩ = false := harr.free (by omega)
  have hlt := harr.lt
  obtain ⟨M, hM⟩ : ∃ M, l.set 0 (flip8 c0) = M := ⟨_, rfl⟩
  have hML : M.length = 8 := by rw [← hM]; simpa using hl
  have HB1 := Lib.hid hb1
  have hput := harr.put (j := 0) (by omega) (flip8 c0)
  rw [← u8v_flip, hM] at hput
  have HPUT := Lib.hid hput
  have HML := Lib.hid hML
  have HT := Lib.hid (show turnedL l down = if down then M.map not8 else M from by unfold turnedL; rw [headD_of hc0, hM])
  clear harr e0 hS hsz hput hM hML hl hc0 hb1
  cases down
  · go_enter Try.func96, Try.ntmps96
    go_wp2
    go_loopw [6] (fun i wr => i = .int .i64 0 ∧ ArrB wr w.heap.size c M ∧ Below w.heap.size w wr) (fun _ _ => 0)
    case atStart => exact ⟨rfl, HPUT.out, HB1.out.setCell (Nat.le_refl _) _⟩
    case round =>
      obtain ⟨rfl, ha, hb⟩ := hrel
      have hcs := arr_str ha 8 c HML.out
      clear ha
      go_wp2
      go_ret
      rw [HT.out]
      exact ⟨rfl, hb⟩
  · go_enter Try.func96, Try.ntmps96
    go_wp2
    go_loopw [6] (fun i wr => ∃ j : Nat, j ≤ 8 ∧ i = .int .i64 j ∧ ArrB wr w.heap.size c ((M.take j).map not8 ++ M.drop j) ∧ Below w.heap.size w wr) (fun i _ => 8 - (intOf i).toNat)
    case atStart => exact ⟨0, by omega, rfl, HPUT.out, HB1.out.setCell (Nat.le_refl _) _⟩
    case round =>
      obtain ⟨j, hj, rfl, ha, hb⟩ := hrel
      have HA := Lib.hid ha
      by_cases hlt8 : j < 8
      · obtain ⟨d, hd⟩ : ∃ d, M[j]? = some d := ⟨_, List.getElem?_eq_getElem (by have := HML.out; omega)⟩
        have hcl : wr.cell? ⟨w.heap.size, j, none⟩ = some (.int .u8 (d.toNat : Int)) := ha.cell (notAt M j d hd)
        have hml : ((M.take j).map not8 ++ M.drop j).length = 8 := by have := HML.out; simp; omega
        have hfr : wr.frozen? ⟨w.heap.size, j, none⟩ = false := ha.free (by omega)
        have hput := ha.put (j := j) (by omega) (not8 d)
        rw [notStep M j d hd, ← u8v_not] at hput
        have HP := Lib.hid hput
        have hd0 : (0 : Int) ≤ (d.toNat : Int) := by omega
        have hd1 : (d.toNat : Int) ≤ 255 := by have := d.toNat_lt; omega
        have hltw := ha.lt
        clear ha hput hd hml
        go_wp2
        go_roundw
        case rel => exact ⟨j + 1, by omega, by go_num, HP.out, hb.setCell (Nat.le_refl _) _⟩
        case measure => simp [intOf]; omega
      · obtain rfl : j = 8 := by omega
        have hcs := arr_str ha 8 c (by have := HML.out; simp; omega)
        rw [show (M.take 8).map not8 ++ M.drop 8 = M.map not8 from by rw [List.take_of_length_le (by have := HML.out; omega), List.drop_eq_nil_of_le (by have := HML.out; omega), List.append_nil]] at hcs
        clear ha
        go_wp2
        go_ret
        rw [HT.out]
        exact ⟨rfl, hb⟩
end Go.Proofs.Ytcebhoilokmhdaa
