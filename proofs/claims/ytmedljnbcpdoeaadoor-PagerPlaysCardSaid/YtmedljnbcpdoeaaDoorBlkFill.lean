/- Layer 4: a slice literal of one struct of many cells, as a step of a region that draws its order. -/
import Derived.Test.YtmedljnbcpdoeaaDoorBlkG
import Derived.Great.BuildSlice
namespace Go.Proofs.YtmedljnbcpdoeaaDoor
open Go.RowKit Go.Maps
set_option linter.unusedVariables false

theorem foldl_set (l : List Value) : ∀ (k : Nat) (C : Array Value), k + l.length ≤ C.size → ((l.zipIdx k).foldl (fun (cs : Array Value) (x : Value × Nat) => cs.setIfInBounds (0 + x.2) x.1) C).toList = C.toList.take k ++ l ++ C.toList.drop (k + l.length) := by
  induction l with
  | nil => intro k C h; simp
  | cons v l ih =>
    intro k C h
    rw [List.zipIdx_cons, List.foldl_cons, ih (k + 1) _ (by simp at h ⊢; omega)]
    simp only [Nat.zero_add, Array.toList_setIfInBounds, List.length_cons] at h ⊢
    rw [List.take_succ_eq_append_getElem (by simp; omega), List.getElem_set_self, List.take_set_of_le (by omega), List.drop_set_of_lt (by omega)]
    simp [show k + 1 + l.length = k + (l.length + 1) from by omega]
theorem fill_one (n : Nat) (C : Array Value) (cs : List Value) (hC : C.size = n) (hc : cs.length = n) : Instr.fill (fun i => some (i * n, n)) C [(0, .agg cs.toArray)] = some cs.toArray := by
  have h := foldl_set cs 0 C (by omega)
  unfold Instr.fill
  simp only [Value.cells, List.size_toArray, hc, hC, ne_eq, not_true_eq_false, Nat.zero_mul, Nat.zero_add, Bool.or_eq_true, decide_eq_true_eq, Nat.lt_irrefl, or_self, Instr.fill]
  simp
  apply Array.ext'
  simp only [Nat.zero_add] at h
  rw [h]
  simp; omega
theorem step_buildSlice1 {P : Program} {w : World} {ops : Array Oper} {o : Oper} {a : Act} {K : Act → World → Prop} {Q : Exit → Act → World → Prop} {E : Prop} (hgd : o.guard = none) (t e : TypeId) (x : Operand) (ho : o.op = .buildSlice t 1 #[(0, x)])
    (ie : TypeInfo) (z : Value) (n : Nat) (cs : List Value) (hx : a.eval x = .agg cs.toArray) (hu : P.underlying t = some (.slice e)) (hie : P.info? e = some ie) (hz : ie.zero = some z) (hs : ie.size = n) (hn : 0 < n) (hn2 : n ≤ 1000) (hc : cs.length = n)
    (h : K (a.put o.dst (.slice (some ⟨w.heap.size, 0, none⟩) 1 1)) (w.alloc (.cells cs.toArray e))) :
    if Region.wanted o (yielded ops a.tmps) = true then Oper.wp P o a w K Q else E := by
  have hw : Region.wanted o (yielded ops a.tmps) = true := by simp [Region.wanted, hgd]
  rw [if_pos hw]
  refine wp_buildSlice t e 1 #[(0, x)] ho cs.toArray ie z hu hie hz (by rw [hs]; omega) (by rw [hs]; omega) ?_ h
  simp only [List.map_toArray, List.map_cons, List.map_nil, hx, hs]
  exact fill_one n _ cs (by simp) hc
end Go.Proofs.YtmedljnbcpdoeaaDoor
