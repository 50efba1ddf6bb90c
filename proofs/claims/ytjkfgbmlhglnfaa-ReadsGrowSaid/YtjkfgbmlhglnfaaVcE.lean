/- Layer 13: the document's Vacuum, Add, Same. -/
import Derived.Test.YtjkfgbmlhglnfaaVcD
namespace Go.Proofs.Ytjkfgbmlhglnfaa
open Go.RowKit
set_option linter.unusedVariables false
set_option linter.unusedSimpArgs false
set_option maxRecDepth 100000

def vacf : List Vn → Int → List Vn
  | [], _ => []
  | x :: l, m => if x.t ≤ m then (if x.d then [] else [x]) else x :: vacf l m
def vac13 (L : List Vn) (m : Int) : List Vn := if chn L then vacf L m else []
theorem vacf_at {m : Int} : ∀ {L : List Vn} {i : Nat} {x : Vn}, (∀ (j : Nat) (y : Vn), j < i → L[j]? = some y → ¬ y.t ≤ m) → L[i]? = some x → x.t ≤ m → vacf L m = L.take i ++ (if x.d then [] else [x])
  | [], i, x, _, h, _ => by simp at h
  | a :: L, 0, x, _, h, hp => by
    simp at h; subst h
    rw [vacf, if_pos hp]; simp
  | a :: L, i + 1, x, h0, h, hp => by
    rw [vacf, if_neg (h0 0 a (by omega) rfl), vacf_at (i := i) (fun j y hj hy => h0 (j + 1) y (by omega) (by simpa using hy)) (by simpa using h) hp]
    simp
theorem vacf_all {m : Int} : ∀ {L : List Vn}, (∀ (j : Nat) (y : Vn), L[j]? = some y → ¬ y.t ≤ m) → vacf L m = L
  | [], _ => rfl
  | a :: L, h => by rw [vacf, if_neg (h 0 a rfl), vacf_all (fun j y hy => h (j + 1) y (by simpa using hy))]
theorem take_next {α : Type} {L : List α} {i : Nat} {x : α} (h : L[i]? = some x) : L.take (i + 1) = L.take i ++ [x] := by rw [List.take_add_one, h]; rfl
end Go.Proofs.Ytjkfgbmlhglnfaa
