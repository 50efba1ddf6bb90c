/- Layer 5: the document's bytes (made by gen_slte.py). -/
import Derived.Test.YthhmodbggngelaaSltD
import Derived.Deep.RegionHeld3
import Derived.Deep.CutRange
import Derived.Deep.DeepCutAuto
namespace Go.Proofs.Ythhmodbggngelaa
open Go.RowKit
set_option linter.unusedVariables false
set_option linter.unusedSimpArgs false
set_option maxRecDepth 100000

/-- What is asked of the worlds between a region's operations may be made more on the way. -/
theorem wpAnyH_more {P : Program} {ops : Array Oper} {Q : Exit → Act → World → Prop} {md : Region.Mode} {S S' : World → Prop} (hS : ∀ w, S' w → S w) :
    ∀ (fuel : Nat) (listed : Array Bool) (a : Act) (w : World), wpAnyH P md ops Q S' fuel listed a w → wpAnyH P md ops Q S fuel listed a w
  | 0, _, _, _, h => h
  | fuel + 1, _, _, _, h => ⟨h.1, fun i hi => wpOp_mono (fun a' w' h' => ⟨hS _ h'.1, wpAnyH_more hS fuel _ a' w' h'.2⟩) (h.2 i hi)⟩
theorem conv_blk5 {w : World} {g : Nat} {t : TypeId} {l : List UInt8} {Z : ByteArray} (h : Blk w g t (bv l)) (n c : Nat) (hn : l.length = n ∧ Z = ⟨l.toArray⟩) : (convert 53 9 (.slice (some ⟨g, 0, none⟩) n c)).run Try.prog w = .ok (.string Z) w := by
  obtain ⟨rfl, rfl⟩ := hn
  exact run_str _ _ _ 5 _ _ _ Try.underlying53 Try.underlying5 Try.underlying9 fun hp => ⟨_, rfl, fun j c hj => by
    rw [show (⟨g, 0, none⟩ : Addr).add j = ⟨g, j, none⟩ from by unfold Addr.add; split <;> simp_all, h.cell, bv_at, hj]; rfl⟩
theorem make_bytes5 (n : Nat) (h1 : n ≤ 1000000) (w : World) : (Instr.makeSlice 53 (.int .i64 n) (.int .i64 n)).run Try.prog w = .ok (.slice (some ⟨w.heap.size, 0, none⟩) n n) (w.alloc (.cells (bv (List.replicate n 0)).toArray 5)) := by
  obtain ⟨i, hi, hz, hs, hb⟩ := info_parts Try.info5
  have := run_makeSlice (P := Try.prog) (w := w) 53 5 i _ Try.underlying53 hi hz .i64 .i64 n n (Int.natCast_nonneg _) (Int.le_refl _) (by rw [hs]; simp; omega) (by rw [hb]; omega) (by omega)
  rw [this, hs, Int.toNat_natCast, Nat.mul_one, show (Value.int .u8 0).cells = #[.int .u8 0] from rfl, madeCells_one]
  simp [bv, u8v]
theorem ba_put5 (s : St) (P1 P2 P3 P4 Z : ByteArray) (h1_ : P1 = ⟨(fld 1 (flg s.f s.z : Nat)).toArray⟩) (h2_ : P2 = ⟨(fld 4 s.e).toArray⟩) (h3_ : P3 = ⟨(fld 8 s.q).toArray⟩) (h4_ : P4 = ⟨(fld 2 (s.d.size : Nat)).toArray⟩) (hz : Z = ⟨(List.replicate (108 - s.d.size) (0 : UInt8)).toArray⟩) :
    (⟨#[83]⟩ ++ P1 ++ P2 ++ P3 ++ P4 ++ s.d ++ Z : ByteArray) = ⟨(h6 s).toArray⟩ := by
  subst h1_ h2_ h3_ h4_ hz
  apply ByteArray.ext
  apply Array.ext'
  simp [h6, h5, h4, h3, h2, h1]
end Go.Proofs.Ythhmodbggngelaa
