/- Layer 9: a pager in memory, and its small calls. -/
import Derived.Test.YtigkhpencobalaaDoorPrA
import Derived.Test.YtigkhpencobalaaDoorOwn1
import Derived.Test.YtigkhpencobalaaDoorAlK
import Derived.Test.YtigkhpencobalaaDoorBlkK
import Derived.BigQuiet
namespace Go.Proofs.YtigkhpencobalaaDoor
open Go.RowKit
set_option linter.unusedVariables false
set_option linter.unusedSimpArgs false
set_option maxRecDepth 100000

def sv9 (x : Nat) : Value := .int .i64 (x : Int)
/-- A pager's blocks: of the pages st, over the free bits l. -/
structure Pm (w : World) (p pd pa ga gr fr : Nat) (st : List Nat) (l : List Bool) : Prop where
  bx : Blk w p 80 [.pointer (some ⟨pd, 0, none⟩), .int .i64 fr, .pointer (some ⟨pa, 0, none⟩), .slice (some ⟨gr, 0, none⟩) st.length st.length]
  row : Blk w gr 91 (st.map sv9)
  al : Al w pa ga l
  len : l.length = st.length
  d1 : p ≠ gr
  d2 : p ≠ pa
  d3 : p ≠ ga
  d4 : gr ≠ pa
  d5 : gr ≠ ga
  p0 : p ≠ 0
  g0 : gr ≠ 0
variable {w w' : World} {p pd pa ga gr fr : Nat} {st : List Nat} {l : List Bool} {S : Nat → Prop}
theorem Pm.turn (h : Pm w p pd pa ga gr fr st l) (ht : Turn S w w') (h1 : ¬ S p) (h2 : ¬ S pa) (h3 : ¬ S ga) (h4 : ¬ S gr) (h0 : ¬ S 0) : Pm w' p pd pa ga gr fr st l :=
  ⟨h.bx.turn ht h1, h.row.turn ht h4, h.al.turn ht h2 h3 h0, h.len, h.d1, h.d2, h.d3, h.d4, h.d5, h.p0, h.g0⟩
theorem Pm.still (h : Pm w p pd pa ga gr fr st l) (ht : Turn (fun _ => False) w w') : Pm w' p pd pa ga gr fr st l := h.turn ht (fun h => h) (fun h => h) (fun h => h) (fun h => h) (fun h => h)
theorem Pm.pos (h : Pm w p pd pa ga gr fr st l) : 0 < st.length := by have := h.al.pos; rw [h.len] at this; exact this
theorem Pm.le (h : Pm w p pd pa ga gr fr st l) : st.length ≤ 16384 := by have := h.al.le; rw [h.len] at this; exact this
/-- No pager, or one that nothing made. -/
def Nop (w : World) (v : Value) : Prop := v = .pointer none ∨ ∃ p, v = .pointer (some ⟨p, 0, none⟩) ∧ w.cell? ⟨p, 0, none⟩ = some (.pointer none)
theorem Nop.turn {v : Value} (h : Nop w v) (ht : Turn (fun _ => False) w w') : Nop w' v := by
  rcases h with h | ⟨p, h1, h2⟩
  · exact .inl h
  · exact .inr ⟨p, h1, (World.cell?_of_block (w := w) (a := ⟨p, 0, none⟩) (ht.block p (cell_lt h2) (fun h => h))).trans h2⟩
theorem made9 (h : Pm w p pd pa ga gr fr st l) :
    Calls Tryd.prog 45 #[.pointer (some ⟨p, 0, none⟩)] w fun r w' => r = .returned (.bool true) ∧ w' = w := by
  have c0 := h.bx.cell 0
  simp only [List.getElem?_cons_zero] at c0
  clear h
  go_enter Tryd.func45, Tryd.ntmps45
  go_wp2
  go_ret
  exact ⟨rfl, rfl⟩
theorem made9_no {v : Value} (h : Nop w v) :
    Calls Tryd.prog 45 #[v] w fun r w' => r = .returned (.bool false) ∧ w' = w := by
  rcases h with rfl | ⟨p, rfl, c0⟩
  · go_enter Tryd.func45, Tryd.ntmps45
    go_wp2
    go_ret
    exact ⟨rfl, rfl⟩
  · go_enter Tryd.func45, Tryd.ntmps45
    go_wp2
    go_ret
    exact ⟨rfl, rfl⟩
def has9 (st : List Nat) (i : Int) : Bool := decide (0 ≤ i) && decide (i < st.length)
def is9 (st : List Nat) (i : Int) (s : Nat) : Bool := has9 st i && (st.getD i.toNat 0 == s)
theorem has9_any (h : Pm w p pd pa ga gr fr st l) (i : Int) :
    Calls Tryd.prog 49 #[.pointer (some ⟨p, 2, none⟩), .int .i64 i] w fun r w' => r = .returned (.bool (has9 st i)) ∧ w' = w := by
  have c3 := h.bx.cell 3
  simp only [List.getElem?_cons_succ, List.getElem?_cons_zero] at c3
  clear h
  generalize hn : st.length = n at *
  by_cases h0 : 0 ≤ i
  · by_cases h1 : i < n
    · rw [show has9 st i = true by unfold has9; rw [hn]; simp [h0, h1]]
      clear hn
      go_enter Tryd.func49, Tryd.ntmps49
      go_wp2
      go_ret
      exact ⟨rfl, rfl⟩
    · rw [show has9 st i = false by unfold has9; rw [hn]; simp [h1]]
      clear hn
      go_enter Tryd.func49, Tryd.ntmps49
      go_wp2
      go_ret
      exact ⟨rfl, rfl⟩
  · rw [show has9 st i = false by unfold has9; simp [h0]]
    clear hn
    go_enter Tryd.func49, Tryd.ntmps49
    go_wp2
    go_ret
    exact ⟨rfl, rfl⟩
theorem is9_any (h : Pm w p pd pa ga gr fr st l) (i : Int) (s : Nat) :
    Calls Tryd.prog 46 #[.pointer (some ⟨p, 2, none⟩), .int .i64 i, .int .i64 s] w fun r w' => r = .returned (.bool (is9 st i s)) ∧ w' = w := by
  have HH := Lib.hid (has9_any h i)
  have c3 := h.bx.cell 3
  simp only [List.getElem?_cons_succ, List.getElem?_cons_zero] at c3
  by_cases hb : has9 st i = true
  · rw [hb] at HH
    have hi : 0 ≤ i ∧ i < st.length := by unfold has9 at hb; simpa using hb
    obtain ⟨k, rfl⟩ : ∃ k : Nat, i = k := ⟨i.toNat, by omega⟩
    have hk : k < st.length := by omega
    have r0 : w.cell? ⟨gr, k, none⟩ = some (.int .i64 ((st.getD k 0 : Nat) : Int)) := by
      rw [h.row.cell k, List.getElem?_map, List.getElem?_eq_getElem hk, List.getD_eq_getElem?_getD, List.getElem?_eq_getElem hk]; rfl
    have hv : is9 st k s = decide (((st.getD k 0 : Nat) : Int) = (s : Int)) := by
      unfold is9
      rw [hb, Int.toNat_natCast, Bool.true_and]
      by_cases e : st.getD k 0 = s
      · rw [e]; simp
      · rw [decide_eq_false (by omega)]; simpa using e
    rw [hv]
    have h1 : (k : Int) < (st.length : Int) := by omega
    have h2 : (0 : Int) ≤ (k : Int) := by omega
    generalize st.getD k 0 = X at *
    have he : ((X : Int) == (s : Int)) = decide ((X : Int) = (s : Int)) := rfl
    clear h hb hv hi
    generalize st.length = n at *
    go_enter Tryd.func46, Tryd.ntmps46
    go_wp2_with fail
    refine HH.out.mono ?_
    rintro e w1 ⟨rfl, rfl⟩
    go_wp2
    go_ret
    exact ⟨rfl, rfl⟩
  · have hb : has9 st i = false := by simpa using hb
    rw [hb] at HH
    rw [show is9 st i s = false by unfold is9; rw [hb]; rfl]
    clear h c3 hb
    go_enter Tryd.func46, Tryd.ntmps46
    go_wp2_with fail
    refine HH.out.mono ?_
    rintro e w1 ⟨rfl, rfl⟩
    go_wp2
    go_ret
    exact ⟨rfl, rfl⟩
end Go.Proofs.YtigkhpencobalaaDoor
