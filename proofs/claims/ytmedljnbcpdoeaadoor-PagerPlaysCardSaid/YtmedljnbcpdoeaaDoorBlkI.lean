/- Layer 4: Flush. -/
import Derived.Test.YtmedljnbcpdoeaaDoorBlkH
namespace Go.Proofs.YtmedljnbcpdoeaaDoor
open Go.RowKit Go.Maps
set_option linter.unusedVariables false

def Dsk.keepAll (D : Dsk) (l : List (Nat × List UInt8)) : Dsk := l.foldl Dsk.keepW D
theorem keepAll_snoc (D : Dsk) (l : List (Nat × List UInt8)) (x : Nat × List UInt8) : D.keepAll (l ++ [x]) = (D.keepAll l).keepW x := by simp [Dsk.keepAll]
theorem keepAll_nil (D : Dsk) : D.keepAll [] = D := rfl
theorem keepAll_same (l : List (Nat × List UInt8)) : ∀ D : Dsk, (D.keepAll l).pend = D.pend ∧ (D.keepAll l).fuse = D.fuse ∧ (D.keepAll l).dead = D.dead ∧ (D.keepAll l).kept.length = D.kept.length := by
  induction l with
  | nil => intro D; exact ⟨rfl, rfl, rfl, rfl⟩
  | cons x l ih =>
    intro D
    obtain ⟨h1, h2, h3, h4⟩ := ih (D.keepW x)
    refine ⟨h1, h2, h3, h4.trans ?_⟩
    simp [Dsk.keepW]
theorem Dsk.Ok.keepAll {l : List (Nat × List UInt8)} : ∀ {D : Dsk}, D.Ok → (∀ x ∈ l, x.2.length = 128) → (D.keepAll l).Ok := by
  induction l with
  | nil => intro D h _; exact h
  | cons x l ih => intro D h hl; exact ih (h.keepW (hl x (by simp))) (fun y hy => hl y (by simp [hy]))
/-- What a sector that is kept has behind. -/
theorem keepAll_at (l : List (Nat × List UInt8)) : ∀ (D : Dsk) (i : Nat), i < D.kept.length → (D.keepAll l).kept.getD i [] = overw l i (D.kept.getD i []) := by
  induction l with
  | nil => intro D i _; rfl
  | cons x l ih =>
    intro D i hi
    have := ih (D.keepW x) i (by simpa [Dsk.keepW] using hi)
    rw [overw_cons]
    refine Eq.trans this ?_
    congr 1
    simp only [Dsk.keepW, List.getD_eq_getElem?_getD, List.getElem?_set]
    split
    · rename_i e; subst e; rw [if_pos hi]; rfl
    · rfl
theorem Dsk.Ok.lost {D : Dsk} (h : D.Ok) : D.lost.Ok := ⟨h.pos, h.most, h.kept, fun x hx => (by cases hx), h.fuse⟩
def Dsk.flushed (D : Dsk) : Dsk := (D.burnt.keepAll D.pend).lost
theorem take_snoc_ {α : Type} {l : List α} {j : Nat} {x : α} (h : l[j]? = some x) : l.take (j + 1) = l.take j ++ [x] := by
  obtain ⟨hj, e⟩ := List.getElem?_eq_some_iff.1 h
  rw [List.take_succ_eq_append_getElem hj, e]
end Go.Proofs.YtmedljnbcpdoeaaDoor
