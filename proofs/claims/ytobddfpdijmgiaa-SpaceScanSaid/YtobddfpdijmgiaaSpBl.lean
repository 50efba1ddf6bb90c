/- Layer 14, plain: what Scan tells of less; where each key's pair stands. -/
import Derived.Test.YtobddfpdijmgiaaSpBi
namespace Go.Proofs.Ytobddfpdijmgiaa
open Go.RowKit Go.Shelf
set_option linter.unusedVariables false
set_option linter.unusedSimpArgs false

theorem scsI_take {a b : ByteArray} {t most : Int} (h : 0 ≤ most) (acc : List Pq2) (x : Itm) : scsI a b t most (acc.take most.toNat) x = (scsI a b t (-1) acc x).take most.toNat := by
  unfold scsI
  cases h1 : (at13 x.vs t).2 <;> cases h2 : win x.k a b <;> simp
  by_cases hl : acc.length < most.toNat
  · rw [List.take_of_length_le (by omega : acc.length ≤ most.toNat)]
    rw [if_pos (by omega), List.take_of_length_le (by simp; omega)]
  · rw [if_neg (by omega), List.take_append_of_le_length (by omega)]
theorem foldI_take {a b : ByteArray} {t most : Int} (h : 0 ≤ most) : ∀ (I : List Itm) (acc : List Pq2), I.foldl (scsI a b t most) (acc.take most.toNat) = (I.foldl (scsI a b t (-1)) acc).take most.toNat
  | [], _ => rfl
  | x :: I, acc => by rw [List.foldl_cons, List.foldl_cons, scsI_take h, foldI_take h I]
theorem scl_most (M : List (Itm × Value)) (a b : ByteArray) (t : Int) {most : Int} (h : 0 ≤ most) : scl M a b t most = (scl M a b t (-1)).take most.toNat := by
  rw [scl_map14, scl_map14, ← foldI_take h]
  simp
theorem scl_neg (M : List (Itm × Value)) (a b : ByteArray) (t : Int) {most : Int} (h : most < 0) : scl M a b t most = scl M a b t (-1) := by
  unfold scl
  congr 1
  funext acc p
  unfold scs
  simp [h]
/-- How many of the first items' keys have something. -/
def pk14 (I : List Itm) (a b : ByteArray) (t : Int) (i : Nat) : Nat := ((row14 (I.take i) t).filter (fun p => win p.k a b)).length
theorem pk_zero (I : List Itm) (a b : ByteArray) (t : Int) : pk14 I a b t 0 = 0 := rfl
theorem pk_split {I : List Itm} {i : Nat} {x : Itm} (h : I[i]? = some x) (a b : ByteArray) (t : Int) : (row14 I t).filter (fun p => win p.k a b) = (row14 (I.take i) t).filter (fun p => win p.k a b) ++ ((ct14 t x).filter (fun p => win p.k a b) ++ (row14 (I.drop (i + 1)) t).filter (fun p => win p.k a b)) := by
  have e : I = I.take i ++ ([x] ++ I.drop (i + 1)) := by
    have hl : i < I.length := (List.getElem?_eq_some_iff.1 h).1
    rw [← (List.getElem?_eq_some_iff.1 h).2]
    simp
  conv => lhs; rw [e]
  unfold row14
  rw [List.flatMap_append, List.flatMap_append, List.filter_append, List.filter_append]
  simp
theorem pk_next {I : List Itm} {i : Nat} {x : Itm} (h : I[i]? = some x) (a b : ByteArray) (t : Int) : pk14 I a b t (i + 1) = pk14 I a b t i + (if (at13 x.vs t).2 && win x.k a b then 1 else 0) := by
  unfold pk14 row14
  rw [take_next h, List.flatMap_append, List.filter_append, List.length_append]
  congr 1
  unfold ct14
  cases h1 : (at13 x.vs t).2 <;> cases h2 : win x.k a b <;> simp [h1, h2]
theorem pk_at {I : List Itm} {i : Nat} {x : Itm} (h : I[i]? = some x) {a b : ByteArray} {t : Int} (h1 : (at13 x.vs t).2 = true) (h2 : win x.k a b = true) : ((row14 I t).filter (fun p => win p.k a b))[pk14 I a b t i]? = some ⟨x.k, (at13 x.vs t).1⟩ := by
  rw [pk_split h]
  unfold pk14
  rw [List.getElem?_append_right (Nat.le_refl _), Nat.sub_self]
  have : (ct14 t x).filter (fun p => win p.k a b) = [⟨x.k, (at13 x.vs t).1⟩] := by
    unfold ct14
    rw [h1]
    simp [h2]
  rw [this]
  rfl
theorem pk_all (I : List Itm) (a b : ByteArray) (t : Int) : pk14 I a b t I.length = ((row14 I t).filter (fun p => win p.k a b)).length := by
  unfold pk14
  rw [List.take_length]
theorem fndI_at : ∀ {I : List Itm} (hr : risK (I.map (·.k))) {i : Nat} {x : Itm} (h : I[i]? = some x), fndI I x.k = x.vs
  | [], _, _, _, h => by simp at h
  | y :: I, hr, 0, x, h => by
    rw [List.getElem?_cons_zero] at h
    cases h
    rw [fndI_cons]
    simp
  | y :: I, hr, i + 1, x, h => by
    have hr2 := List.pairwise_cons.1 (show List.Pairwise (fun a b => lt14 a b = true) (y.k :: I.map (·.k)) from hr)
    rw [List.getElem?_cons_succ] at h
    rw [fndI_cons, lt14_neq (hr2.1 _ (List.mem_map.2 ⟨x, List.mem_of_getElem? h, rfl⟩))]
    exact fndI_at hr2.2 h
end Go.Proofs.Ytobddfpdijmgiaa
