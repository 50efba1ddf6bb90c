/- Layer 7: how the rows' arguments and the listed table are opened. -/
import Derived.Test.YtmedljnbcpdoeaaDoorFields
import Derived.Test.YtmedljnbcpdoeaaDoorAlG
import Derived.LaidMore
import Derived.Stop.Joined
namespace Go.Proofs.YtmedljnbcpdoeaaDoor
open Go.ChangeShapes Go.WideShapes Go.ChangeAt Go.RowKit
set_option linter.unusedVariables false
set_option maxRecDepth 100000

def laid7 : List (String × DataW Unit) := [("math/bits.deBruijn64tab", Rows.laid_math_bits_deBruijn64tab)]
theorem gTab : Tryd.prog.globalNamed "math/bits.deBruijn64tab" = some 0 := by kernel_rfl
theorem tTab : (Tryd.prog.globals[0]?).map (·.type) = some 126 := by kernel_rfl
/-- The door's own heap meets the condition. -/
theorem door_met (os : Os) (args : Array Value) : laidMetH Tryd.prog laid7 ((World.doorLaid Tryd.prog 14 os).forCall (fun _ _ => 0) ⟨#[], args, []⟩).memory :=
  laidMetH_of_parts3 (fuel := 8) (laidMet_of_run' 8 (by kernel_rfl) (by kernel_rfl)) (by kernel_rfl) (by kernel_rfl)
theorem tab_data : ∀ j, j < 64 → (match Rows.laid_math_bits_deBruijn64tab (H := Unit) with | .agg l => l[j]? | _ => none) = some (.lit (.int .u8 ((Lib.deBruijn64tab.getD j 0 : Nat) : Int))) := by
  intro j hj
  simp only [Rows.laid_math_bits_deBruijn64tab]
  have h : ∀ i : Fin 64, ([DataW.lit (H := Unit) (.int .u8 0), .lit (.int .u8 1), .lit (.int .u8 56), .lit (.int .u8 2), .lit (.int .u8 57), .lit (.int .u8 49), .lit (.int .u8 28), .lit (.int .u8 3), .lit (.int .u8 61), .lit (.int .u8 58), .lit (.int .u8 42), .lit (.int .u8 50), .lit (.int .u8 38), .lit (.int .u8 29), .lit (.int .u8 17), .lit (.int .u8 4), .lit (.int .u8 62), .lit (.int .u8 47), .lit (.int .u8 59), .lit (.int .u8 36), .lit (.int .u8 45), .lit (.int .u8 43), .lit (.int .u8 51), .lit (.int .u8 22), .lit (.int .u8 53), .lit (.int .u8 39), .lit (.int .u8 33), .lit (.int .u8 30), .lit (.int .u8 24), .lit (.int .u8 18), .lit (.int .u8 12), .lit (.int .u8 5), .lit (.int .u8 63), .lit (.int .u8 55), .lit (.int .u8 48), .lit (.int .u8 27), .lit (.int .u8 60), .lit (.int .u8 41), .lit (.int .u8 37), .lit (.int .u8 16), .lit (.int .u8 46), .lit (.int .u8 35), .lit (.int .u8 44), .lit (.int .u8 21), .lit (.int .u8 52), .lit (.int .u8 32), .lit (.int .u8 23), .lit (.int .u8 11), .lit (.int .u8 54), .lit (.int .u8 26), .lit (.int .u8 40), .lit (.int .u8 15), .lit (.int .u8 34), .lit (.int .u8 20), .lit (.int .u8 31), .lit (.int .u8 10), .lit (.int .u8 25), .lit (.int .u8 14), .lit (.int .u8 19), .lit (.int .u8 9), .lit (.int .u8 13), .lit (.int .u8 8), .lit (.int .u8 7), .lit (.int .u8 6)] : List (DataW Unit))[i.val]? = some (.lit (.int .u8 ((Lib.deBruijn64tab.getD i.val 0 : Nat) : Int))) := by
    intro i
    have : ∀ i : Fin 64, True := fun _ => trivial
    match i with
    | ⟨k, hk⟩ => 
      rcases k with _ | _ | _ | _ | _ | _ | _ | _ | _ | _ | _ | _ | _ | _ | _ | _ | _ | _ | _ | _ | _ | _ | _ | _ | _ | _ | _ | _ | _ | _ | _ | _ | _ | _ | _ | _ | _ | _ | _ | _ | _ | _ | _ | _ | _ | _ | _ | _ | _ | _ | _ | _ | _ | _ | _ | _ | _ | _ | _ | _ | _ | _ | _ | _ | k
      all_goals first | rfl | omega
  exact h ⟨j, hj⟩
/-- What the condition gives. -/
theorem tb_of_laid {W : World} (h : laidMetH Tryd.prog laid7 W) : Tb W := by
  rw [MakeChecks.laidMetH_plain _ _ _ (by kernel_rfl)] at h
  obtain ⟨ps, ⟨g0, t0, cs0, f0, p0, q0, hg0, ht0, hv0, hd0, _⟩, _, _⟩ := h
  obtain rfl := Option.some.inj (gTab.symm.trans hg0)
  obtain rfl := Option.some.inj (tTab.symm.trans ht0)
  obtain ⟨xs, m, rfl, hx, hlen, hn, hel⟩ := DataW.trod_array Tryd.underlying126 hd0
  have c3 : Tryd.prog.cellsOf 5 = 1 := by kernel_rfl
  intro j hj
  have h1 := hel j hj
  rw [c3, Nat.mul_one] at h1
  simp only [Prod.mk.injEq] at hx
  have hd := tab_data j hj
  rw [hx.1] at hd
  simp only [List.getElem?_map] at hd
  cases hxj : xs[j]? with
  | none => rw [hxj] at hd; cases hd
  | some y =>
    rw [hxj] at hd h1
    simp only [Option.map_some, Option.some.injEq] at hd
    obtain ⟨k, e1, e2, _⟩ := DataW.trod_int Tryd.underlying5 h1
    have hk : k = ((Lib.deBruijn64tab.getD j 0 : Nat) : Int) := by rw [e2] at hd; simpa using hd
    subst hk
    rw [World.var?_cell hg0 hv0 j]
    have h2 := congrArg (·[0]?) e1
    simp only [List.getElem?_take, List.getElem?_drop, Nat.add_zero, List.getElem?_cons_zero] at h2
    simpa using h2
/-- A call: kind, i, k. -/
structure Ac where
  k : Int
  i : Int
  c : Int
/-- A value that is a row of calls, below block B. -/
def Acs (B : Nat) (w : World) (v : Value) (qs : List Ac) : Prop := ∃ A cap, v = .slice A qs.length cap ∧ qs.length ≤ 9223372036854775807 ∧ (0 < qs.length → ∃ b o, A = some ⟨b, o, none⟩ ∧ b < B ∧ ∀ j a, qs[j]? = some a →
  (w.cell? ⟨b, o + j * 3, none⟩ = some (.int .i64 a.k) ∧ w.cell? ⟨b, o + (j * 3 + 1), none⟩ = some (.int .i64 a.i) ∧ w.cell? ⟨b, o + (j * 3 + 2), none⟩ = some (.int .i64 a.c)) ∧ (-9223372036854775808 ≤ a.i ∧ a.i ≤ 9223372036854775807) ∧ (-9223372036854775808 ≤ a.c ∧ a.c ≤ 9223372036854775807))
end Go.Proofs.YtmedljnbcpdoeaaDoor
