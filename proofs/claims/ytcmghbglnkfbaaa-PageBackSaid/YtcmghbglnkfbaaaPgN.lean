/- Layer 8: the document's Bytes; what the statements' walks lean on. -/
import Derived.Test.YtcmghbglnkfbaaaPgM
namespace Go.Proofs.Ytcmghbglnkfbaaa
open Go.RowKit
set_option linter.unusedVariables false
set_option maxRecDepth 100000

theorem chk8_is (n : Nd) : chk8 n = (check8 n : Int) := by
  unfold chk8 check8
  split
  · by_cases h : size8 n ≤ 1024
    · rw [if_pos h, if_neg (by omega)]; rfl
    · rw [if_neg h, if_pos (by omega)]; rfl
  · rfl
def pg8 (n : Nd) (c : Nat) : List UInt8 := if c = 0 then pgb n else []
theorem bytes_sl (n : Nd) (A1 : Option Addr) (c1 : Nat) (A2 : Option Addr) (c2 : Nat) (A3 : Option Addr) (c3 : Nat) (w : World) (h : No w A1 c1 A2 c2 A3 c3 n) (hf : Few8 n) :
    Calls Try.prog 10 #[nv8 A1 c1 A2 c2 A3 c3 n] w fun e w' => ∃ A c, e = .returned (.tuple #[.slice A (pg8 n (check8 n)).length c, .int .i64 (check8 n : Nat)]) ∧ Sl w' w'.heap.size (.slice A (pg8 n (check8 n)).length c) (pg8 n (check8 n)) ∧ Turn (fun _ => False) w w' := by
  refine (bytes_any n A1 c1 A2 c2 A3 c3 w h hf).mono ?_
  rintro e w' ⟨v, rfl, h1, h2, h3⟩
  unfold pg8
  by_cases hz : check8 n = 0
  · rw [if_pos hz]
    have h4 := h1 hz
    rw [← len_pgb hz] at h4
    have h5 := Sl.of_own h4
    obtain ⟨A, c, he, hr⟩ := h5
    subst he
    exact ⟨A, c, rfl, ⟨A, c, rfl, hr⟩, h3⟩
  · rw [if_neg hz, h2 hz]
    exact ⟨none, 0, rfl, sl_nil _ _, h3⟩
theorem Sl.turn8 {w w' : World} {v : Value} {l : List UInt8} (h : Sl w w.heap.size v l) (ht : Turn (fun _ => False) w w') : Sl w' w'.heap.size v l := (h.turn ht (Nat.le_refl _) (fun _ _ h => h)).more ht.size
end Go.Proofs.Ytcmghbglnkfbaaa
