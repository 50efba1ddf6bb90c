/- Layer 8: the document's Bytes; what the statements' walks lean on. -/
import Derived.Test.YtjjjacmpccimkaaPgM
namespace Go.Proofs.Ytjjjacmpccimkaa
open Go.RowKit
set_option linter.unusedVariables false
set_option maxRecDepth 100000

theorem chk8_is (n : Nd) : chk8 n = (check8 n : Int) := by
  unfold chk8 check8
  split
  · by_cases h : size8 n ≤ 1024
    · rw [if_pos h, if_neg (by omega)]; rfl
    · rw [if_neg h, if_pos (by omega)]; rfl
  · rfl
def pg8 (n : Nd) (c : Nat) : List UInt8 := if c = 0 then pgb n else []
theorem bytes_sl (n : Nd) (A1 : Option Addr) (c1 : Nat) (A2 : Option Addr) (c2 : Nat) (A3 : Option Addr) (c3 : Nat) (w : World) (h : No w A1 c1 A2 c2 A3 c3 n) (hf : Few8 n) :
    Calls Try.prog 13 #[nv8 A1 c1 A2 c2 A3 c3 n] w fun e w' => ∃ A c, e = .returned (.tuple #[.slice A (pg8 n (check8 n)).length c, .int .i64 (check8 n : Nat)]) ∧ Sl w' w'.heap.size (.slice A (pg8 n (check8 n)).length c) (pg8 n (check8 n)) ∧ Turn (fun _ => False) w w' := by
  refine (bytes_any n A1 c1 A2 c2 A3 c3 w h hf).mono ?_
  rintro e w' ⟨v, rfl, h1, h2, h3⟩
  unfold pg8
  by_cases hz : check8 n = 0
  · rw [if_pos hz]
    have h4 := h1 hz
    rw [← len_pgb hz] at h4
    have h5 := Sl.of_own h4
    obtain ⟨A, c, he, hr⟩ := h5
    subst he
    exact ⟨A, c, rfl, ⟨A, c, rfl, hr⟩, h3⟩
  · rw [if_neg hz, h2 hz]
    exact ⟨none, 0, rfl, sl_nil _ _, h3⟩
theorem Sl.turn8 {w w' : World} {v : Value} {l : List UInt8} (h : Sl w w.heap.size v l) (ht : Turn (fun _ => False) w w') : Sl w' w'.heap.size v l := (h.turn ht (Nat.le_refl _) (fun _ _ h => h)).more ht.size
theorem refBytes_any (n : Nd) (A1 : Option Addr) (c1 : Nat) (A2 : Option Addr) (c2 : Nat) (A3 : Option Addr) (c3 : Nat) (w : World) (h : No w A1 c1 A2 c2 A3 c3 n) (hf : Few8 n) :
    Calls Try.prog 14 #[nv8 A1 c1 A2 c2 A3 c3 n] w fun e w' => e = .returned (.tuple #[.string ⟨(pg8 n (check8 n)).toArray⟩, .int .i64 (check8 n : Nat)]) ∧ Turn (fun _ => False) w w' := by
  have HC : Hid (∀ W, Turn (fun _ => False) w W → Calls Try.prog 18 #[nv8 A1 c1 A2 c2 A3 c3 n] W fun e w' => e = .returned (.int .i64 (check8 n : Nat)) ∧ Turn (fun _ => False) W w') := Lib.hid (fun W ht => by
    have := refCheck_any n A1 c1 A2 c2 A3 c3 W (h.turn ht) hf; rw [chk8_is] at this; exact this.mono (fun e w' h => ⟨h.1, h.2⟩))
  have HP : Hid (check8 n = 0 → ∀ W, Turn (fun _ => False) w W → Calls Try.prog 33 #[nv8 A1 c1 A2 c2 A3 c3 n] W fun e w' => e = .returned (.string ⟨(pgb n).toArray⟩) ∧ Turn (fun _ => False) W w') := Lib.hid (fun hc W ht => by
    cases hl : n.leaf with
    | true => exact refPutL_any n A1 c1 A2 c2 A3 c3 W (h.turn ht) hf hc hl
    | false => exact refPutK_any n A1 c1 A2 c2 A3 c3 W (h.turn ht) hf hc hl)
  have T0 := Lib.hid ((Turn.refl (fun _ => False) w).alloc (.cells #[.bool n.leaf, .slice A1 n.keys.length c1, .slice A2 n.vals.length c2, .slice A3 n.kids.length c3] 25))
  have B0 := Lib.hid (Blk.new w 25 [.bool n.leaf, .slice A1 n.keys.length c1, .slice A2 n.vals.length c2, .slice A3 n.kids.length c3])
  obtain ⟨RS, hRS⟩ : ∃ S : ByteArray, ⟨(pg8 n (check8 n)).toArray⟩ = S := ⟨_, rfl⟩
  rw [hRS]
  have HRS := Lib.hid hRS
  obtain ⟨CK, hCK⟩ : ∃ c, check8 n = c := ⟨_, rfl⟩
  rw [hCK] at HRS HC HP ⊢
  clear h hf hCK hRS
  have hpg : ∀ c, pg8 n c = if c = 0 then pgb n else [] := fun c => rfl
  have HPG := Lib.hid (hpg CK)
  clear hpg
  generalize pg8 n CK = PG at *
  generalize pgb n = PB at *
  obtain ⟨leaf, K, V, Z⟩ := n
  simp only [nv8] at *
  generalize K.length = nk at *
  generalize V.length = nv at *
  generalize Z.length = nd at *
  go_enter Try.func14, Try.ntmps14
  go_wp2_with fail
  refine (HC.out _ T0.out).mono ?_
  rintro e w1 ⟨rfl, ht1⟩
  have T1 := Lib.hid (T0.out.trans ht1)
  have B1 := Lib.hid (B0.out.turn ht1 (fun h => h))
  clear ht1
  have y0 : w1.cell? ⟨w.heap.size, 0, none⟩ = some (.bool leaf) := B1.out.cell 0
  have y1 : w1.cell? ⟨w.heap.size, 1, none⟩ = some (.slice A1 nk c1) := B1.out.cell 1
  have y2 : w1.cell? ⟨w.heap.size, 2, none⟩ = some (.slice A2 nv c2) := B1.out.cell 2
  have y3 : w1.cell? ⟨w.heap.size, 3, none⟩ = some (.slice A3 nd c3) := B1.out.cell 3
  by_cases hz : CK = 0
  · subst hz
    have HR2 : Hid (RS = ⟨PB.toArray⟩) := Lib.hid (by rw [← HRS.out, HPG.out]; simp)
    go_wp2_with fail
    refine (HP.out (by first | rfl | trivial) _ T1.out).mono ?_
    rintro e w2 ⟨rfl, ht2⟩
    have T2 := Lib.hid (T1.out.trans ht2)
    go_wp2_with fail
    go_ret2
    exact ⟨by rw [HR2.out]; first | rfl | simp, T2.out⟩
  · have hne : ((CK : Int) != 0) = true := by simp; omega
    have HR2 : Hid (RS = ⟨#[]⟩) := Lib.hid (by rw [← HRS.out, HPG.out, if_neg hz])
    go_wp2_with fail
    all_goals (go_ret2; exact ⟨by rw [HR2.out]; first | rfl | simp, T1.out⟩)
end Go.Proofs.Ytjjjacmpccimkaa
