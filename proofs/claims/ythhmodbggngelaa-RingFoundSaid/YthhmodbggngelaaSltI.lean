/- Layer 5: a record's pieces, handed on. -/
import Derived.Test.YthhmodbggngelaaSltH
import Derived.Test.YthhmodbggngelaaRng
namespace Go.Proofs.Ythhmodbggngelaa
open Go.RowKit Go.Shelf
set_option linter.unusedVariables false
set_option maxRecDepth 100000
attribute [local go_sem] Oper.semAt_some

/-- A record's pieces. -/
def pcs5 (S : ByteArray) : List ByteArray := if h : 108 < S.size then S.extract 0 108 :: pcs5 (S.extract 108 S.size) else [S]
termination_by S.size
decreasing_by rw [ByteArray.size_extract]; omega
theorem pcs5_more {S : ByteArray} (h : 108 < S.size) : pcs5 S = S.extract 0 108 :: pcs5 (S.extract 108 S.size) := by
  rw [pcs5, dif_pos h]
theorem pcs5_last {S : ByteArray} (h : ¬ 108 < S.size) : pcs5 S = [S] := by
  rw [pcs5, dif_neg h]
theorem pcs5_pos (S : ByteArray) : 0 < (pcs5 S).length := by
  by_cases h : 108 < S.size
  · rw [pcs5_more h]; simp
  · rw [pcs5_last h]; simp
theorem pcs5_len (n : Nat) : ∀ S : ByteArray, S.size = n → ((pcs5 S).length - 1) * 108 ≤ n := by
  induction n using Nat.strongRecOn with
  | _ n ih =>
    intro S hn
    by_cases h : 108 < S.size
    · rw [pcs5_more h]
      have hs : (S.extract 108 S.size).size = n - 108 := by rw [ByteArray.size_extract]; omega
      have := ih (n - 108) (by omega) _ hs
      have hp := pcs5_pos (S.extract 108 S.size)
      simp only [List.length_cons]
      omega
    · rw [pcs5_last h]; simp
/-- A piece. -/
structure Pc where
  d : ByteArray
  h : d.size ≤ 108
set_option maxHeartbeats 1000000 in
theorem pieces_stops (S : ByteArray) (hS : S.size ≤ 140737488355327) (Bx : Nat) (w0 : World) (hc : w0.cell? ⟨Bx, 0, none⟩ = some (.string S)) :
    SeqStopsK Fence.wide 2 Try.prog 56 #[.pointer (some ⟨Bx, 0, none⟩)] (fun x : Pc => #[.string x.d]) (fun _ _ => True) (fun xs => xs.map Pc.d = pcs5 S) (fun _ => True) (pcs5 S).length w0 := fun l J Jx W hW hJ hJx hY h0 => by
  have hcW : W.cell? ⟨Bx, 0, none⟩ = some (.string S) := (hW.cell (p := ⟨Bx, 0, none⟩) (cell_lt hc)).trans hc
  clear hc hW
  refine callsIn_of_wp Try.func56 rfl trivial ?_ rfl
  simp only [Try.ntmps56, List.size_toArray, List.length_cons, List.length_nil, Nat.reduceAdd, Nat.reduceSub, Array.replicate_succ, Array.replicate_zero, List.push_toArray, List.append_toArray, List.nil_append, List.cons_append]
  gi_wp2
  gi_loopw [3] (fun p wr => ∃ (pre : List Pc) (T : ByteArray), p = .string T ∧ T.size ≤ S.size ∧ pcs5 S = pre.map Pc.d ++ pcs5 T ∧ J pre wr)
    (fun p _ => match p with | .string T => T.size | _ => 0)
  case atStart => exact ⟨[], S, rfl, Nat.le_refl _, rfl, h0⟩
  case round =>
    obtain ⟨pre, T, rfl, hT, hx, hJs⟩ := hrel
    have HX := Lib.hid hx
    by_cases hlt : 108 < T.size
    · have hlt2 : (108 : Int) < (T.size : Int) := by omega
      have hsx : (T.extract 0 108).size ≤ 108 := by rw [ByteArray.size_extract]; omega
      obtain ⟨fn, tmps, assign, body, hy, hR⟩ := hY pre ⟨T.extract 0 108, hsx⟩ wr hJs (by rw [hx, pcs5_more hlt]; simp)
      clear hx
      gi_wp2
      refine hR.mono ?_
      rintro e W3 (⟨rfl, hJ3, _⟩ | ⟨rfl, hJx3⟩)
      · gi_wp2
        go_roundw
        case rel => exact ⟨pre ++ [⟨T.extract 0 108, hsx⟩], T.extract 108 T.size, rfl, by rw [ByteArray.size_extract]; omega, by rw [HX.out, pcs5_more hlt]; simp, hJ3⟩
        case measure => simp only [ByteArray.size_extract]; omega
      · gi_wp2
        refine bodyPost_ret (results_none rfl _ _ _) rfl ?_
        exact ⟨⟨_, rfl⟩, .inr ⟨pre ++ [⟨T.extract 0 108, hsx⟩], trivial, hJx3⟩⟩
    · have hlt2 : (T.size : Int) ≤ 108 := by omega
      obtain ⟨fn, tmps, assign, body, hy, hR⟩ := hY pre ⟨T, by omega⟩ wr hJs (by rw [hx, pcs5_last hlt]; simp)
      clear hx
      gi_wp2
      refine hR.mono ?_
      rintro e W3 (⟨rfl, hJ3, _⟩ | ⟨rfl, hJx3⟩)
      · gi_wp2
        go_end0
        exact ⟨⟨_, rfl⟩, .inl ⟨pre ++ [⟨T, by omega⟩], by rw [HX.out, pcs5_last hlt]; simp, hJ3⟩⟩
      · gi_wp2
        go_end0
        exact ⟨⟨_, rfl⟩, .inr ⟨pre ++ [⟨T, by omega⟩], trivial, hJx3⟩⟩
end Go.Proofs.Ythhmodbggngelaa
