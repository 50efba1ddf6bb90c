/- Layer 5: Read in all; the document's Read. -/
import Derived.Test.YthhmodbggngelaaSltG
import Derived.Deep.RegionHeld3
import Derived.Deep.CutRange
import Derived.Deep.DeepCutAuto
namespace Go.Proofs.Ythhmodbggngelaa
open Go.RowKit
set_option linter.unusedVariables false
set_option maxRecDepth 100000

/-- What Read answers. -/
def rdo (o : Option St) : Value := match o with
  | some s => .tuple #[stv s, .int .i64 0]
  | none => .tuple #[.agg #[.int .i64 0, .int .i64 0, .bool false, .bool false, .string ⟨#[]⟩], .int .i64 4]
theorem read5_any (v : Value) (l : List UInt8) (w : World) (hv : Sl w w.heap.size v l) :
    Calls Try.prog 54 #[v] w fun e w' => e = .returned (rdo (read5 l)) ∧ Below w.heap.size w w' := by
  by_cases hl : l.length = 128
  · by_cases hn : num 2 l 14 ≤ 108
    · refine (read5_yes v l w hv hl hn).mono ?_
      rintro e w' ⟨rfl, hb⟩
      refine ⟨?_, hb⟩
      by_cases hr : r5 (parse5 l) = true ∧ put5 (parse5 l) = l
      · rw [if_pos hr, show read5 l = some (parse5 l) from by unfold read5; rw [if_pos ⟨hl, hn, hr⟩]]; rfl
      · rw [if_neg hr, show read5 l = none from by unfold read5; rw [if_neg (fun h => hr h.2.2)]]; rfl
    · rw [show read5 l = none from by unfold read5; rw [if_neg (fun h => hn h.2.1)]]
      have HV := hv
      obtain ⟨A, cap, rfl, hr, hm, hnil, hle⟩ := hv
      refine read5_no A l.length cap w (fun W hb hz => ?_)
      have := fields5_any _ l W ((HV.below hb (Nat.le_refl _)).more hz) hl
      rw [if_neg hn] at this
      exact this
  · rw [show read5 l = none from by unfold read5; rw [if_neg (fun h => hl h.1)]]
    obtain ⟨A, cap, rfl, hr, hm, hnil, hle⟩ := hv
    exact read5_no A l.length cap w (fun W hb hz => fields5_len A l.length cap hl W)
theorem u8_tests (c : UInt8) : ((c.toNat : Int).tmod 2 == 1) = decide (c.toNat % 2 = 1) ∧ ((IntKind.u8.wrap ((c.toNat : Int) / 2)).tmod 2 == 1) = decide (c.toNat / 2 % 2 = 1) := by
  have hc := c.toNat_lt
  have hw : IntKind.u8.wrap ((c.toNat : Int) / 2) = (c.toNat : Int) / 2 := by
    show ((c.toNat : Int) / 2) % 256 = _
    omega
  rw [hw, Int.tmod_eq_emod_of_nonneg (by omega), Int.tmod_eq_emod_of_nonneg (by omega)]
  constructor
  · rw [Bool.eq_iff_iff]; simp only [beq_iff_eq, decide_eq_true_eq]; omega
  · rw [Bool.eq_iff_iff]; simp only [beq_iff_eq, decide_eq_true_eq]; omega
end Go.Proofs.Ythhmodbggngelaa
