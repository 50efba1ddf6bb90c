/- Plain facts: a field is read as the number's lowest bits, wherever it stands. -/
import Derived.Test.YtcjoinahelmmpaaLives
namespace Go.Proofs.Ytcjoinahelmmpaa
open Go.RowKit

/-- Two readers are apart: what one's call turns is none of the other's. -/
theorem Rdr.apart {w w' : World} {p q at_ er at2 er2 : Nat} {l m : List UInt8} (h : Rdr w q m at2 er2) (hp : Rdr w p l at_ er) (hne : q ≠ p) (ht : Turn (· = p) w w') : Rdr w' q m at2 er2 := by
  obtain ⟨A, cap, hc, hk, hA, h1, h2⟩ := h
  obtain ⟨A', cap', _, hk', _⟩ := hp
  refine ⟨A, cap, hc, hk.turn ht hne, fun hpos => ?_, h1, h2⟩
  obtain ⟨ad, e, hs, hb, hcell⟩ := hA hpos
  refine ⟨ad, e, hs, hb, fun j c hj => ?_⟩
  have hcj := hcell j c hj
  have hne2 : ad.block ≠ p := by
    intro e2
    obtain ⟨b, off, spot⟩ := ad
    obtain rfl : spot = none := hs
    obtain rfl : b = p := e2
    have hadd : (⟨b, off, none⟩ : Addr).add j = ⟨b, off + j, none⟩ := by unfold Addr.add; split <;> simp_all
    rw [hadd, hk'.cell] at hcj
    match hoff : off + j, hcj with
    | 0, hcj => simp [u8v] at hcj
    | 1, hcj => simp [u8v] at hcj
    | 2, hcj => simp [u8v] at hcj
    | 3, hcj => simp [u8v] at hcj
    | n + 4, hcj => simp at hcj
  have hlt := cell_lt hcj
  rw [block_add] at hlt
  rw [← hcj]
  exact World.cell?_of_block (w := w) (by rw [block_add]; exact ht.block _ hlt hne2)
end Go.Proofs.Ytcjoinahelmmpaa
