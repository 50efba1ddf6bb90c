/- Layer 8: lengths, rows that rise, texts that are too long (the program's). -/
import Derived.Test.YtcmghbglnkfbaaaPgC
import Derived.BigQuiet
namespace Go.Proofs.Ytcmghbglnkfbaaa
open Go.RowKit
set_option linter.unusedVariables false
set_option maxRecDepth 100000

@[go_sem] theorem str_geq8 (t : TypeId) (a b : ByteArray) : binOp .geq t (.string a) (.string b) = pure (.bool !(Op.bytesLess a.toList b.toList)) := by simp [binOp, Op.stringOp]
@[go_sem] theorem str_gtr8 (t : TypeId) (a b : ByteArray) : binOp .gtr t (.string a) (.string b) = pure (.bool !(Op.bytesLess a.toList b.toList || a.toList == b.toList)) := by simp [binOp, Op.stringOp]
theorem len8_any (L : List ByteArray) (A : Option Addr) (c : Nat) (w : World) (h : Sr w A L) (hn : L.length ≤ 2000) (hz : ∀ s ∈ L, s.size ≤ 140737488351232) :
    Calls Try.prog 38 #[.slice A L.length c] w fun e w' => e = .returned (.int .i64 (sumS L : Nat)) ∧ w' = w := by
  have h1 := Lib.hid h
  obtain ⟨n, hnn⟩ : ∃ k, L.length = k := ⟨_, rfl⟩
  have HN := Lib.hid hnn
  have hs := sumS_le hz
  rw [hnn] at hn hs ⊢
  have hs2 : n * 140737488351232 ≤ 2000 * 140737488351232 := Nat.mul_le_mul_right _ hn
  obtain ⟨S, hS⟩ : ∃ k, sumS L = k := ⟨_, rfl⟩
  rw [hS] at hs ⊢
  have HS := Lib.hid hS
  have hs3 : S ≤ 281474976702464000 := by omega
  clear h hnn hz hS hs hs2
  go_enter Try.func38, Try.ntmps38
  go_wp2_with fail
  go_loopw [3, 5, 8] (fun vs _ vi wr => ∃ (j : Nat) (x : Int), j ≤ n ∧ vi = .int .i64 j ∧ vs = .int .i64 x ∧ x = ((sumS (L.take j) : Nat) : Int) ∧ wr = w) (fun _ _ vi _ => n - (intOf vi).toNat)
  case atStart => exact ⟨0, 0, Nat.zero_le _, rfl, rfl, rfl, rfl⟩
  case round =>
    obtain ⟨j, x, hj, rfl, rfl, hx, rfl⟩ := hrel
    have HX := Lib.hid hx
    have hsj : sumS (L.take j) ≤ 281474976702464000 := by have h := sumS_take_le L j; have h2 := HS.out; omega
    have hx1 : 0 ≤ x ∧ x ≤ 281474976702464000 := by omega
    clear hx hsj
    by_cases hlt : j < n
    · obtain ⟨t, ht⟩ : ∃ t, L[j]? = some t := ⟨_, List.getElem?_eq_getElem (by rw [HN.out]; exact hlt)⟩
      obtain ⟨b1, o1, rfl, hb1, hc1⟩ := h1.out (by rw [HN.out]; omega)
      have y4 : wr.cell? ⟨b1, o1 + j, none⟩ = some (.string t) := hc1 wr (Turn.refl _ wr) j t ht
      have hst := Lib.hid (sumS_take ht)
      have hle : sumS (L.take (j + 1)) ≤ S := by have h := sumS_take_le L (j + 1); have h2 := HS.out; omega
      have htz : t.size ≤ 281474976702464000 := by have h := hst.out; omega
      have hi1 : (j : Int) < (n : Int) := by omega
      have hi2 : (0 : Int) ≤ (j : Int) := by omega
      have z1 := wrap_of (x + (t.size : Int)) (by omega) (by omega)
      have z3 := wrap_of ((j : Int) + 1) (by omega) (by omega)
      clear hc1 ht hle
      go_wp2_with fail
      go_roundw
      case rel => exact ⟨j + 1, x + t.size, hlt, by simp, rfl, by rw [hst.out, HX.out]; omega, by first | rfl | trivial⟩
      case measure => simp [intOf]; omega
    · obtain rfl : j = n := by omega
      have hi1 : ¬ (j : Int) < (j : Int) := by omega
      have hE : L.take j = L := List.take_of_length_le (by rw [HN.out]; exact Nat.le_refl _)
      have HX2 : Hid (x = ((S : Nat) : Int)) := Lib.hid (by rw [HX.out, hE, HS.out])
      clear hE
      go_wp2_with fail
      go_ret
      exact ⟨by first | rfl | (rw [HX2.out]; done) | (rw [HX2.out]; rfl), by first | rfl | trivial⟩
/-- Keys that rise. -/
def Riz (K : List ByteArray) : Prop := ∀ j, 0 < j → j < K.length → Op.bytesLess (key8 K (j - 1)).data.toList (key8 K j).data.toList = true
noncomputable def riz (K : List ByteArray) : Bool := @decide (Riz K) (Classical.propDecidable _)
theorem riz_yes {K : List ByteArray} (h : Riz K) : riz K = true := by unfold riz; exact @decide_eq_true _ (Classical.propDecidable _) h
theorem riz_no {K : List ByteArray} (h : ¬ Riz K) : riz K = false := by unfold riz; exact @decide_eq_false _ (Classical.propDecidable _) h
theorem riz_of {K : List ByteArray} (h : riz K = true) : Riz K := by unfold riz at h; exact @of_decide_eq_true _ (Classical.propDecidable _) h
theorem bytesLess_asym : ∀ (x y : List UInt8), Op.bytesLess x y = true → Op.bytesLess y x = false ∧ (y == x) = false
  | [], [], h => by cases h
  | [], b :: y, _ => ⟨bl_nil_right _, rfl⟩
  | a :: x, [], h => by rw [bl_nil_right] at h; cases h
  | a :: x, b :: y, h => by
    by_cases hab : a = b
    · subst hab
      rw [bl_same] at h ⊢
      obtain ⟨h1, h2⟩ := bytesLess_asym x y h
      exact ⟨h1, by simpa using h2⟩
    · rw [bl_ne_head hab] at h
      rw [bl_ne_head (fun e => hab e.symm)]
      have := of_decide_eq_true h
      exact ⟨decide_eq_false (by omega), by simp; intro e; exact absurd e.symm hab⟩
theorem bytesLess_total : ∀ (x y : List UInt8), Op.bytesLess x y = false → (x == y) = false → Op.bytesLess y x = true
  | [], [], _, h => by cases h
  | [], b :: y, h, _ => by rw [bl_nil_left] at h; simp at h
  | a :: x, [], _, _ => by rw [bl_nil_left]; simp
  | a :: x, b :: y, h, h2 => by
    by_cases hab : a = b
    · subst hab
      rw [bl_same] at h ⊢
      exact bytesLess_total x y h (by simpa using h2)
    · rw [bl_ne_head hab] at h
      rw [bl_ne_head (fun e => hab e.symm)]
      have h3 := of_decide_eq_false h
      have h4 : a.toNat ≠ b.toNat := fun e => hab (UInt8.toNat_inj.1 e)
      exact decide_eq_true (by omega)
theorem tol (s : ByteArray) : s.toList = s.data.toList := ByteArray.toList_eq s
theorem rises_any (L : List ByteArray) (A : Option Addr) (c : Nat) (w : World) (h : Sr w A L) (hn : L.length ≤ 2000) :
    Calls Try.prog 42 #[.slice A L.length c] w fun e w' => e = .returned (.bool (riz L)) ∧ Turn (fun _ => False) w w' := by
  have h1 := Lib.hid h
  obtain ⟨n, hnn⟩ : ∃ k, L.length = k := ⟨_, rfl⟩
  have HN := Lib.hid hnn
  rw [hnn] at hn ⊢
  obtain ⟨R, hR⟩ : ∃ k, riz L = k := ⟨_, rfl⟩
  rw [hR]
  have HR := Lib.hid hR
  clear h hnn hR
  go_enter Try.func42, Try.ntmps42
  go_wp2_with fail
  go_loopw [3] (fun vi wr => ∃ (j : Nat), 1 ≤ j ∧ (j ≤ n ∨ j = 1) ∧ vi = .int .i64 j ∧ (∀ i, 0 < i → i < j → Op.bytesLess (key8 L (i - 1)).data.toList (key8 L i).data.toList = true) ∧ Turn (fun _ => False) w wr) (fun vi _ => n + 1 - (intOf vi).toNat)
  case atStart => exact ⟨1, Nat.le_refl _, .inr rfl, rfl, fun i h1 h2 => by omega, Turn.refl _ w⟩
  case round =>
    obtain ⟨j, hj0, hj, rfl, hx, hT⟩ := hrel
    have TT := Lib.hid hT
    have HX := Lib.hid hx
    clear hx
    obtain ⟨i, rfl⟩ : ∃ i, j = i + 1 := ⟨j - 1, by omega⟩
    by_cases hlt : i + 1 < n
    · obtain ⟨t, ht⟩ : ∃ t, L[i + 1]? = some t := ⟨_, List.getElem?_eq_getElem (by rw [HN.out]; exact hlt)⟩
      obtain ⟨s, hs⟩ : ∃ s, L[i]? = some s := ⟨_, List.getElem?_eq_getElem (by rw [HN.out]; omega)⟩
      obtain ⟨b1, o1, rfl, hb1, hc1⟩ := h1.out (by rw [HN.out]; omega)
      have y4 : wr.cell? ⟨b1, o1 + (i + 1), none⟩ = some (.string t) := hc1 wr hT (i + 1) t ht
      have y5 : wr.cell? ⟨b1, o1 + i, none⟩ = some (.string s) := hc1 wr hT i s hs
      have hkt := Lib.hid (key8_at ht)
      have hks := Lib.hid (key8_at hs)
      have hi1 : (i : Int) + 1 < (n : Int) := by omega
      have hi2 : (0 : Int) ≤ (i : Int) := by omega
      have hi4 : (i : Int) < (n : Int) := by omega
      have z3 := wrap_of ((i : Int) + 1 + 1) (by omega) (by omega)
      have z4 := wrap_of (i : Int) (by omega) (by omega)
      obtain ⟨bl, hbl⟩ : ∃ b, Op.bytesLess s.toList t.toList = b := ⟨_, rfl⟩
      have HBL := Lib.hid hbl
      clear hT hc1 ht hs
      cases bl
      · obtain rfl : R = false := by
          rw [← HR.out]
          refine riz_no (fun hr => ?_)
          have h5 := hr (i + 1) (by omega) (by rw [HN.out]; exact hlt)
          rw [show i + 1 - 1 = i from rfl, hks.out, hkt.out, ← tol, ← tol, HBL.out] at h5
          cases h5
        go_wp2_with fail
        go_quiet (fail)
        go_wp2_with fail
        go_ret
        first | exact ⟨rfl, TT.out.drew⟩ | exact ⟨rfl, TT.out.drewN _⟩
      · have HR2 : Hid (∀ k, 0 < k → k < i + 1 + 1 → Op.bytesLess (key8 L (k - 1)).data.toList (key8 L k).data.toList = true) := Lib.hid (fun k h5 h6 => by
          rcases Nat.lt_or_ge k (i + 1) with h7 | h7
          · exact HX.out k h5 h7
          · obtain rfl : k = i + 1 := by omega
            rw [show i + 1 - 1 = i from rfl, hks.out, hkt.out, ← tol, ← tol, HBL.out])
        go_wp2_with fail
        go_quiet (fail)
        go_wp2_with fail
        go_roundw
        case rel => exact ⟨i + 1 + 1, by omega, .inl hlt, by simp, HR2.out, by first | exact TT.out.drew | exact TT.out.drewN _⟩
        case measure => simp [intOf]; omega
    · have hi1 : ¬ (i : Int) + 1 < (n : Int) := by omega
      obtain rfl : R = true := by
        rw [← HR.out]
        exact riz_yes (fun k h5 h6 => HX.out k h5 (by rw [HN.out] at h6; omega))
      clear hT hj
      go_wp2_with fail
      go_ret
      exact ⟨rfl, TT.out⟩
end Go.Proofs.Ytcmghbglnkfbaaa
