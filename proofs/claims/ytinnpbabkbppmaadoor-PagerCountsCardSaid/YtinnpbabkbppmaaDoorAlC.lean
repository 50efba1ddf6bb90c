/- Layer 7: an alloc in its blocks. -/
import Derived.Test.YtinnpbabkbppmaaDoorAlB
import Derived.Test.YtinnpbabkbppmaaDoorAlP
namespace Go.Proofs.YtinnpbabkbppmaaDoor
open Go.RowKit
set_option linter.unusedVariables false
set_option maxRecDepth 100000

/-- The words' cells. -/
def words (l : List Bool) : List Value := (List.range (l.length / 64 + 1)).map fun k => .int .u64 ((wd l k : Nat) : Int)
theorem len_words (l : List Bool) : (words l).length = l.length / 64 + 1 := by simp [words]
theorem words_at (l : List Bool) (k : Nat) (hk : k < l.length / 64 + 1) : (words l)[k]? = some (.int .u64 ((wd l k : Nat) : Int)) := by simp [words, hk]
theorem words_set (l : List Bool) (i : Nat) (b : Bool) (hi : i < l.length) : (words l).set (i / 64) (.int .u64 ((wd (l.set i b) (i / 64) : Nat) : Int)) = words (l.set i b) := by
  apply List.ext_getElem (by simp [words])
  intro k h1 h2
  rw [List.getElem_set]
  simp only [words, List.getElem_map, List.getElem_range, List.length_set]
  split
  · rename_i e; rw [e]
  · rename_i e; rw [wd_other l i k b hi (fun h => e h.symm)]
/-- An alloc with these flags, free or not, in blocks p and g. -/
def Al (w : World) (p g : Nat) (l : List Bool) : Prop := ∃ (c : Nat) (rest : List Value), Blk w p 111 [.int .i64 l.length, .slice (some ⟨g, 0, none⟩) (l.length / 64 + 1) c] ∧ Blk w g 122 (words l ++ rest) ∧
  0 < l.length ∧ l.length ≤ 16384 ∧ p ≠ 0 ∧ g ≠ 0 ∧ p ≠ g ∧ Tb w ∧ l.length / 64 + 1 ≤ c ∧ c ≤ maxLen
section
variable {w w' : World} {p g : Nat} {l : List Bool} {S : Nat → Prop}
theorem Al.turn (h : Al w p g l) (ht : Turn S w w') (hp : ¬ S p) (hg : ¬ S g) (h0 : ¬ S 0) : Al w' p g l := by
  obtain ⟨c, rest, h1, h2, h3, h4, h5, h6, h7, h8, h9⟩ := h
  exact ⟨c, rest, h1.turn ht hp, h2.turn ht hg, h3, h4, h5, h6, h7, h8.turn ht h0, h9⟩
theorem Al.still (h : Al w p g l) (ht : Turn (fun _ => False) w w') : Al w' p g l := h.turn ht (fun h => h) (fun h => h) (fun h => h)
theorem Al.drew (h : Al w p g l) : Al w.drew p g l := h
theorem Al.pos (h : Al w p g l) : 0 < l.length := by obtain ⟨c, rest, h1, h2, h3, h4, h5⟩ := h; exact h3
theorem Al.le (h : Al w p g l) : l.length ≤ 16384 := by obtain ⟨c, rest, h1, h2, h3, h4, h5⟩ := h; exact h4
theorem Al.tb (h : Al w p g l) : Tb w := by obtain ⟨c, rest, h1, h2, h3, h4, h5, h6, h7, h8, h9⟩ := h; exact h8
theorem Al.ltp (h : Al w p g l) : p < w.heap.size := by obtain ⟨c, rest, h1, h2, h3⟩ := h; exact h1.lt
theorem Al.ltg (h : Al w p g l) : g < w.heap.size := by obtain ⟨c, rest, h1, h2, h3⟩ := h; exact h2.lt
end
theorem made7 {w : World} {p g : Nat} {l : List Bool} (h : Al w p g l) :
    Calls Tryd.prog 69 #[.pointer (some ⟨p, 0, none⟩)] w fun r w' => r = .returned (.bool true) ∧ w' = w := by
  obtain ⟨c, rest, h1, h2, h3, h4, h5⟩ := h
  have x0 := h1.cell 0
  simp only [List.getElem?_cons_zero] at x0
  have h3i : (0 : Int) < (l.length : Int) := by omega
  clear h1 h2 h5
  go_enter Tryd.func69, Tryd.ntmps69
  go_wp2
  go_ret
  exact ⟨rfl, rfl⟩
/-- Of no alloc. -/
def Noa (w : World) (v : Value) : Prop := v = .pointer none ∨ ∃ p, v = .pointer (some ⟨p, 0, none⟩) ∧ w.cell? ⟨p, 0, none⟩ = some (.int .i64 0)
theorem made7_no {w : World} {v : Value} (h : Noa w v) :
    Calls Tryd.prog 69 #[v] w fun r w' => r = .returned (.bool false) ∧ w' = w := by
  rcases h with rfl | ⟨p, rfl, x0⟩
  · go_enter Tryd.func69, Tryd.ntmps69
    go_wp2
    go_ret
    exact ⟨rfl, rfl⟩
  · go_enter Tryd.func69, Tryd.ntmps69
    go_wp2
    go_ret
    exact ⟨rfl, rfl⟩
theorem taken7 {w : World} {p g : Nat} {l : List Bool} (h : Al w p g l) (i : Nat) (hi : i < l.length) :
    Calls Tryd.prog 70 #[.pointer (some ⟨p, 0, none⟩), .int .i64 i] w fun r w' => r = .returned (.bool (!l.getD i false)) ∧ w' = w.drew := by
  obtain ⟨c, rest, h1, h2, h3, h4, h5⟩ := h
  have x1 := h1.drew.cell 1
  simp only [List.getElem?_cons_zero, List.getElem?_cons_succ] at x1
  have hlt : i / 64 < l.length / 64 + 1 := by omega
  have x2 := h2.drew.cell (i / 64)
  rw [List.getElem?_append_left (by rw [len_words]; exact hlt), words_at l _ hlt] at x2
  have hwd := wd_lt l (i / 64)
  have hm : i % 64 < 64 := Nat.mod_lt _ (by decide)
  have hp2 : 2 ^ (i % 64) < 18446744073709551616 := Nat.pow_lt_pow_right (by decide) hm
  have ha := bits_and_u64_nat (wd l (i / 64)) (2 ^ (i % 64)) hwd hp2
  have hz := wd_and l i
  have hP := place7 i (by omega) w
  have ei : ((i / 64 : Nat) : Int) < ((l.length / 64 + 1 : Nat) : Int) := by omega
  have hb : (((wd l (i / 64) &&& 2 ^ (i % 64) : Nat) : Int) == 0) = !l.getD i false := by
    rw [Bool.eq_iff_iff]
    simp only [beq_iff_eq, Bool.not_eq_true']
    rw [← hz]
    omega
  have HP := Lib.hid hP
  generalize l.length / 64 + 1 = N at *
  generalize i / 64 = k at *
  generalize 2 ^ (i % 64) = P at *
  generalize wd l k = W at *
  generalize (!l.getD i false) = res at *
  clear h1 h2 h5 hP hz hm
  go_enter Tryd.func70, Tryd.ntmps70
  go_wp2_with (go_at_call 75; refine HP.out.mono ?_; rintro e w' ⟨rfl, rfl⟩)
  go_ret
  exact ⟨rfl, rfl⟩
end Go.Proofs.YtinnpbabkbppmaaDoor
