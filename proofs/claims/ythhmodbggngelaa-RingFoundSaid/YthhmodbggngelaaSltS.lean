/- Layer 5: the law's examples (lives). -/
import Derived.Test.YthhmodbggngelaaSltR
namespace Go.Proofs.Ythhmodbggngelaa
open Go.RowKit
set_option linter.unusedVariables false
set_option maxRecDepth 100000

def z109 : ByteArray := ⟨(List.replicate 109 (0 : UInt8)).toArray⟩
def z108 : ByteArray := ⟨(List.replicate 108 (0 : UInt8)).toArray⟩
def z1 : ByteArray := ⟨#[0]⟩
theorem lv5_a : mk5 (raw5 1 5 (pcs5 ⟨#[]⟩)) = [⟨1, 5, true, true, ⟨#[]⟩⟩] ∧ ok5 (raw5 1 5 (pcs5 ⟨#[]⟩)) = true ∧ (raw5 1 5 (pcs5 ⟨#[]⟩)).length = 1 := by
  have h : pcs5 ⟨#[]⟩ = [⟨#[]⟩] := pcs5_last (by decide)
  rw [h]
  exact ⟨by kernel_rfl, by decide +kernel, rfl⟩
theorem lv5_p : pcs5 z109 = [z108, z1] := by
  rw [pcs5_more (by decide +kernel), pcs5_last (by decide +kernel)]
  have h1 : z109.extract 0 108 = z108 := by decide +kernel
  have h2 : z109.extract 108 z109.size = z1 := by decide +kernel
  rw [h1, h2]
theorem lv5_b : mk5 (raw5 1 6 (pcs5 z109)) = [⟨1, 6, true, false, z108⟩, ⟨1, 7, false, true, z1⟩] ∧ ok5 (raw5 1 6 (pcs5 z109)) = true ∧ (raw5 1 6 (pcs5 z109)).length = 2 := by
  rw [lv5_p]
  exact ⟨by kernel_rfl, by decide +kernel, rfl⟩
def lvR : List St := [⟨1, 5, true, true, ⟨#[]⟩⟩, ⟨1, 6, true, false, z108⟩]
theorem lv5_adv : adv5 lvR 0 = true ∧ adv5 lvR 1 = true ∧ adv5 lvR 2 = false := by decide +kernel
theorem lv5_j : jn5 (lvR.take 2) [] [] 5 false = ([⟨5, 6, ⟨#[]⟩⟩], 6) := by kernel_rfl

theorem own_form5 {w : World} {base e size n : Nat} {v : Value} {xs : List Value} (h : w.ownsRow base e size v n xs) (hn : 0 < n) : ∃ b c, v = .slice (some ⟨b, 0, none⟩) n c ∧ base ≤ b ∧ b < w.heap.size ∧ n ≤ c := by
  rcases h.2 with ⟨_, h0⟩ | ⟨g, cap, cur, rfl, hb, hh, hc, _⟩
  · omega
  · exact ⟨g, cap, rfl, hb, (Array.getElem?_eq_some_iff.1 hh).1, hc⟩
theorem own_cells5 {w : World} {base n b c : Nat} {R : List St} (h : w.ownsRow base 81 5 (.slice (some ⟨b, 0, none⟩) n c) n (R.flatMap scells)) (hn : R.length = n) (j : Nat) (s : St) (hs : R[j]? = some s) (i : Nat) (hi : i < 5) : w.cell? ⟨b, j * 5 + i, none⟩ = (scells s)[i]? := by
  rcases h.2 with ⟨h1, h2⟩ | ⟨g, cap, cur, h1, hb, hh, hc, _, _, ht⟩
  · cases h1
  · injection h1 with h1 _ _
    injection h1 with h1
    injection h1 with h1 _
    subst h1
    exact row5_cell hh ht hn j s hs i hi
theorem rc_cells {w : World} {base b c n : Nat} {l : List Rc} (h : w.ownsRow base 70 3 (.slice (some ⟨b, 0, none⟩) n c) n (l.flatMap rcells)) (j : Nat) (hj : j < n * 3) : w.cell? ⟨b, j, none⟩ = (l.flatMap rcells)[j]? := by
  rcases h.2 with ⟨h1, h2⟩ | ⟨g, cap, cur, h1, hb, hh, hc, _, _, ht⟩
  · cases h1
  · injection h1 with h1 _ _
    injection h1 with h1
    injection h1 with h1 _
    subst h1
    have hB : Blk w b 70 cur.toList := by unfold Blk; simpa using hh
    rw [hB.cell, ← ht, List.getElem?_take_of_lt hj]
end Go.Proofs.Ythhmodbggngelaa
