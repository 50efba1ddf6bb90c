/- Layer 5: Bytes. -/
import Derived.Test.YtcjoinahelmmpaaSltC
namespace Go.Proofs.Ytcjoinahelmmpaa
open Go.RowKit
set_option linter.unusedVariables false
set_option maxRecDepth 100000

theorem put32_own {w : World} {B : Nat} {v : Value} {l : List UInt8} (h : w.ownsRow B 5 1 v l.length (bv l)) (n : Int) (hl : l.length ≤ 140737488354000) :
    Calls Try.prog 32 #[v, .int .i64 n] w fun e w' => ∃ v, e = .returned v ∧ w'.ownsRow w.heap.size 5 1 v (l ++ fld 4 n).length (bv (l ++ fld 4 n)) ∧ Below w.heap.size w w' := by
  obtain ⟨A, cap, rfl, hr, _⟩ := rd_of_own h
  exact put32_any _ A cap l n w hr (Nat.le_refl _) hl
theorem put64_own {w : World} {B : Nat} {v : Value} {l : List UInt8} (h : w.ownsRow B 5 1 v l.length (bv l)) (n : Int) (hl : l.length ≤ 140737488354000) :
    Calls Try.prog 31 #[v, .int .i64 n] w fun e w' => ∃ v, e = .returned v ∧ w'.ownsRow w.heap.size 5 1 v (l ++ fld 8 n).length (bv (l ++ fld 8 n)) ∧ Below w.heap.size w w' := by
  obtain ⟨A, cap, rfl, hr, _⟩ := rd_of_own h
  exact put64_any _ A cap l n w hr (Nat.le_refl _) hl
theorem own_low5 {w : World} {B B' t s n : Nat} {v : Value} {xs : List Value} (h : w.ownsRow B t s v n xs) (hb : B' ≤ B) : w.ownsRow B' t s v n xs := by
  obtain ⟨hx, h | ⟨g, c, cur, e, hB, hr⟩⟩ := h
  · exact ⟨hx, .inl h⟩
  · exact ⟨hx, .inr ⟨g, c, cur, e, Nat.le_trans hb hB, hr⟩⟩
/-- One step more of a chain, from block B on. -/
theorem chain_ {B : Nat} {w a b : World} (h : Below B w a) (hB : B ≤ a.heap.size) (k : Below a.heap.size a b) : Below B w b ∧ B ≤ b.heap.size := ⟨bthen h hB k, Nat.le_trans hB k.size⟩
end Go.Proofs.Ytcjoinahelmmpaa
