/- Layer 9: rows that are the same; a disk that is well; what is written then. -/
import Derived.Test.YtigkhpencobalaaDoorPrI
import Derived.Test.YtigkhpencobalaaDoorBlkP
import Derived.BigQuiet
namespace Go.Proofs.YtigkhpencobalaaDoor
open Go.RowKit
set_option linter.unusedVariables false
set_option linter.unusedSimpArgs false
set_option maxRecDepth 100000

/-- Numbers that a slice holds. -/
def Ir (w : World) (A : Option Addr) (L : List Int) : Prop := ∀ j z, L[j]? = some z → ∃ b, A = some ⟨b, 0, none⟩ ∧ b < w.heap.size ∧ w.cell? ⟨b, j, none⟩ = some (.int .i64 z)
theorem Ir.still {w w' : World} {A : Option Addr} {L : List Int} (h : Ir w A L) (ht : Turn (fun _ => False) w w') : Ir w' A L := fun j z hj => by
  obtain ⟨b, h1, h2, h3⟩ := h j z hj
  exact ⟨b, h1, Nat.lt_of_lt_of_le h2 ht.size, (World.cell?_of_block (w := w) (a := ⟨b, j, none⟩) (ht.block b h2 (fun h => h))).trans h3⟩
theorem Rw9.ir {B : Nat} {w : World} {L : List Int} {v : Value} (h : Rw9 B w v L) : ∃ A c, v = .slice A L.length c ∧ Ir w A L := by
  obtain ⟨A, c, rfl⟩ := own_slice9 h
  exact ⟨A, c, rfl, fun j z hj => by
    obtain ⟨g, h1, _, h3, h4⟩ := own_at9 h j (.int .i64 z) (by rw [List.getElem?_map, hj]; rfl)
    exact ⟨g, h1, h3, h4⟩⟩
theorem ir_blk {w : World} {g t : Nat} {L : List Int} (h : Blk w g t (L.map (Value.int .i64))) : Ir w (some ⟨g, 0, none⟩) L := fun j z hj => ⟨g, rfl, h.lt, by rw [h.cell j, List.getElem?_map, hj]; rfl⟩
set_option maxHeartbeats 1000000 in
theorem same9_any (A1 : Option Addr) (c1 : Nat) (A2 : Option Addr) (c2 : Nat) (L : List Int) (w : World) (h1 : Ir w A1 L) (h2 : Ir w A2 L) (hl : L.length ≤ 1000000) :
    Calls Tryd.prog 39 #[.slice A1 L.length c1, .slice A2 L.length c2] w fun r w' => r = .returned (.bool true) ∧ Turn (fun _ => False) w w' := by
  have H1 := Lib.hid h1
  have H2 := Lib.hid h2
  have HW := Lib.hid (Turn.refl (fun _ => False) w)
  clear h1 h2
  obtain ⟨n, hn⟩ : ∃ n, L.length = n := ⟨_, rfl⟩
  have HN := Lib.hid hn
  rw [hn] at hl ⊢
  clear hn
  have hnn : ((n : Int) == (n : Int)) = true := by simp
  go_enter Tryd.func39, Tryd.ntmps39
  go_wp2_with fail
  go_loopw [5] (fun v5 wr => ∃ j : Nat, j ≤ n ∧ v5 = .int .i64 j ∧ Turn (fun _ => False) w wr) (fun v5 _ => n - (intOf v5).toNat)
  case atStart => exact ⟨0, Nat.zero_le _, rfl, HW.out⟩
  case round =>
    obtain ⟨j, hj, rfl, ht⟩ := hrel
    have TT := Lib.hid ht
    clear ht
    by_cases hlt : j < n
    · have hl1 : (j : Int) < (n : Int) := by omega
      have hl0 : (0 : Int) ≤ (j : Int) := by omega
      have hq := wrap_of ((j : Int) + 1) (by omega) (by omega)
      have hjL : j < L.length := by rw [HN.out]; exact hlt
      obtain ⟨z, hz⟩ : ∃ z, L[j]? = some z := ⟨_, List.getElem?_eq_getElem hjL⟩
      obtain ⟨b1, rfl, _, x1⟩ := (H1.out.still TT.out) j z hz
      obtain ⟨b2, rfl, _, x2⟩ := (H2.out.still TT.out) j z hz
      have hzz : (z == z) = true := by simp
      clear hz hjL
      go_wp2_with fail
      go_quiet (fail)
      go_wp2_with fail
      go_roundw
      case rel => exact ⟨j + 1, by omega, by simp [hq], TT.out.drewN _⟩
      case measure => simp [intOf, hq]; omega
    · obtain rfl : j = n := by omega
      go_wp2_with fail
      go_ret
      exact ⟨rfl, TT.out⟩
theorem ba_mark {S : Nat → Prop} (w : World) (hS : ∀ k, S k → k < w.heap.size) (l : List UInt8) (n : Nat) (C : Array Value) (fr : Nat × Nat) (hC : C = (bv l).toArray) (hn : l.length = n) (hm : n ≤ 1000000) :
    Ba S (w.alloc (.cells C 5 fr)) (some ⟨w.heap.size, 0, none⟩) n l := by
  subst hn hC
  refine ⟨Nat.le_refl _, by unfold maxLen; omega, (fun h => by cases h), fun ad e hp => ?_⟩
  injection e with e
  subst e
  refine ⟨by simp, fun h => absurd (hS _ h) (by simp), fun j c hj => ?_⟩
  rw [Addr.add_mid, Nat.zero_add, World.cell?_alloc_mark]
  rw [List.getElem?_toArray, bv_at, hj]; rfl
/-- A disk that takes all writes. -/
def Good (D : Dsk) : Prop := D.dead = false ∧ D.fuse = -1
theorem write_good {D : Dsk} (h : Good D) (i : Nat) (hi : i < D.kept.length) (l : List UInt8) (hl : l.length ≤ 128) : D.write (i : Int) l = (D.wrote i l, 0) := by
  obtain ⟨h1, h2⟩ := h
  unfold Dsk.write
  rw [h1, h2, if_neg (by decide), if_neg (by omega), if_neg (by omega), if_neg (by decide), Int.toNat_natCast]
theorem wrote_good {D : Dsk} (h : Good D) (i : Nat) (l : List UInt8) : Good (D.wrote i l) := by
  obtain ⟨h1, h2⟩ := h
  have hb : D.burnt = D := by unfold Dsk.burnt; rw [h2, if_neg (by decide), if_neg (by decide)]
  unfold Good Dsk.wrote
  rw [hb]
  exact ⟨h1, h2⟩
theorem putk_good : ∀ (n : Nat) (D : Dsk) (s : Nat) (b : List UInt8), Good D → s + n ≤ D.kept.length → (putk n D (s : Int) b).2 = 0 ∧ Good (putk n D (s : Int) b).1
  | 0, D, s, b, hg, _ => ⟨rfl, hg⟩
  | n + 1, D, s, b, hg, hr => by
    have hw := write_good hg s (by omega) (b.take 128) (by rw [List.length_take]; omega)
    rw [putk, hw, if_pos rfl]
    have hk : (D.wrote s (b.take 128)).kept.length = D.kept.length := by have := (write_len D (s : Int) (b.take 128)).1; rw [hw] at this; exact this
    exact putk_good n (D.wrote s (b.take 128)) (s + 1) (b.drop 128) (wrote_good hg s _) (by omega)
theorem wr9_ok {fr : Nat} {st : List Nat} {D : Dsk} {b : List UInt8} {i : Nat} (hb : b.length ≤ 1024) (hf : fst9 st = some i) (hg : Good D) (hr : fr + 8 * i + 8 ≤ D.kept.length) :
    wr9 fr st D b = (st.set i 2, (putk 8 D ((fr + 8 * i : Nat) : Int) b).1, i, 0) := by
  unfold wr9
  rw [if_neg (by omega), hf]
  exact if_pos (putk_good 8 D _ b hg hr).1
theorem wr9_full {fr : Nat} {st : List Nat} {D : Dsk} {b : List UInt8} (hb : b.length ≤ 1024) (hf : fst9 st = none) : wr9 fr st D b = (st, D, 0, 10) := by
  unfold wr9
  rw [if_neg (by omega), hf]
end Go.Proofs.YtigkhpencobalaaDoor
