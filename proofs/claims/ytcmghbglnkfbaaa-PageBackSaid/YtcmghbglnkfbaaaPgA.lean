/- Layer 8: nodes, plain; the document's Size. -/
import Derived.Test.YtcmghbglnkfbaaaFrameN
import Derived.Test.YtcmghbglnkfbaaaBlw
import Derived.StillTailTactics
import Derived.Deep.MidRow
import Derived.OwnWalk
import Derived.Deep.QuietTactic
namespace Go.Proofs.Ytcmghbglnkfbaaa
open Go.RowKit
set_option linter.unusedVariables false
set_option maxRecDepth 100000

def sumS : List ByteArray → Nat
  | [] => 0
  | s :: l => s.size + sumS l
theorem sumS_app (l m : List ByteArray) : sumS (l ++ m) = sumS l + sumS m := by
  induction l with
  | nil => simp [sumS]
  | cons s l ih => rw [List.cons_append, sumS, sumS, ih]; omega
theorem sumS_take {L : List ByteArray} {j : Nat} {s : ByteArray} (h : L[j]? = some s) : sumS (L.take (j + 1)) = sumS (L.take j) + s.size := by
  rw [List.take_add_one, h, sumS_app]; simp [sumS]
theorem sumS_le {L : List ByteArray} {M : Nat} (h : ∀ s ∈ L, s.size ≤ M) : sumS L ≤ L.length * M := by
  induction L with
  | nil => simp [sumS]
  | cons s l ih =>
    have h1 := h s (by simp)
    have h2 := ih (fun x hx => h x (by simp [hx]))
    rw [sumS, List.length_cons, Nat.add_mul]; omega
theorem sumS_take_le (L : List ByteArray) (j : Nat) : sumS (L.take j) ≤ sumS L := by
  have h := sumS_app (L.take j) (L.drop j)
  rw [List.take_append_drop] at h
  omega
/-- Of how many bytes a key's field and those beside it are. -/
def kb8 (b : Bool) : Nat := if b then 3 else 5
def size8 (n : Nd) : Nat := 3 + sumS n.keys + kb8 n.leaf * n.keys.length + (if n.leaf then sumS n.vals else 4)
structure Few8 (n : Nd) : Prop where
  nk : n.keys.length ≤ 2000
  nv : n.vals.length ≤ 2000
  nd : n.kids.length ≤ 2000
  ks : ∀ s ∈ n.keys, s.size ≤ 140737488351232
  vs : ∀ s ∈ n.vals, s.size ≤ 140737488351232
theorem Few8.sums {n : Nd} (h : Few8 n) : sumS n.keys ≤ 281474976702464000 ∧ sumS n.vals ≤ 281474976702464000 := by
  have h1 := sumS_le h.ks
  have h2 := sumS_le h.vs
  have h3 : n.keys.length * 140737488351232 ≤ 2000 * 140737488351232 := Nat.mul_le_mul_right _ h.nk
  have h4 : n.vals.length * 140737488351232 ≤ 2000 * 140737488351232 := Nat.mul_le_mul_right _ h.nv
  omega
/-- A slice of texts, whatever was made since. -/
def Sr (w : World) (A : Option Addr) (L : List ByteArray) : Prop := 0 < L.length → ∃ b o, A = some ⟨b, o, none⟩ ∧ b < w.heap.size ∧ ∀ X, Turn (fun _ => False) w X → ∀ (j : Nat) (s : ByteArray), L[j]? = some s → X.cell? ⟨b, o + j, none⟩ = some (.string s)
theorem Strs.sr {w : World} {B : Nat} {v : Value} {L : List ByteArray} (h : Strs w B v L) (hB : B ≤ w.heap.size) : ∃ A c, v = .slice A L.length c ∧ Sr w A L := by
  obtain ⟨A, c, rfl, hr⟩ := h
  refine ⟨A, c, rfl, fun hp => ?_⟩
  obtain ⟨⟨b, o, sp⟩, rfl, hsp, hb, hc⟩ := hr hp
  obtain rfl : sp = none := hsp
  simp only at hb
  refine ⟨b, o, rfl, by omega, fun X hX j s hj => ?_⟩
  have h1 := hc j s hj
  rw [Addr.add_mid] at h1
  rw [World.cell?_of_block (w := w) (w' := X) (a := ⟨b, o + j, none⟩) (hX.block b (by omega) (fun h => h))]
  exact h1
/-- A slice of numbers, whatever was made since. -/
def Nr (w : World) (A : Option Addr) (L : List Int) : Prop := 0 < L.length → ∃ b o, A = some ⟨b, o, none⟩ ∧ b < w.heap.size ∧ ∀ X, Turn (fun _ => False) w X → ∀ (j : Nat) (z : Int), L[j]? = some z → X.cell? ⟨b, o + j, none⟩ = some (.int .i64 z)
theorem ints_nr {w : World} {B : Nat} {v : Value} {L : List Int} (h : Ints .i64 w B v L) (hB : B ≤ w.heap.size) : ∃ A c, v = .slice A L.length c ∧ Nr w A L := by
  obtain ⟨A, c, rfl, hr, _⟩ := h
  refine ⟨A, c, rfl, fun hp => ?_⟩
  obtain ⟨⟨b, o, sp⟩, rfl, hsp, hb, hc⟩ := hr hp
  obtain rfl : sp = none := hsp
  simp only at hb
  refine ⟨b, o, rfl, by omega, fun X hX j s hj => ?_⟩
  have h1 := hc j s hj
  rw [Addr.add_mid] at h1
  rw [World.cell?_of_block (w := w) (w' := X) (a := ⟨b, o + j, none⟩) (hX.block b (by omega) (fun h => h))]
  exact h1
/-- A node's value, opened. -/
structure No (w : World) (A1 : Option Addr) (c1 : Nat) (A2 : Option Addr) (c2 : Nat) (A3 : Option Addr) (c3 : Nat) (n : Nd) : Prop where
  keys : Sr w A1 n.keys
  vals : Sr w A2 n.vals
  kids : Nr w A3 n.kids
/-- A node as a value. -/
def nv8 (A1 : Option Addr) (c1 : Nat) (A2 : Option Addr) (c2 : Nat) (A3 : Option Addr) (c3 : Nat) (n : Nd) : Value := .agg #[.bool n.leaf, .slice A1 n.keys.length c1, .slice A2 n.vals.length c2, .slice A3 n.kids.length c3]
theorem NodeV.no2 {w : World} {B : Nat} {v : Value} {n : Nd} (h : NodeV w B v n) (hB : B ≤ w.heap.size) : ∃ A1 c1 A2 c2 A3 c3, v = nv8 A1 c1 A2 c2 A3 c3 n ∧ No w A1 c1 A2 c2 A3 c3 n ∧ Cp A1 n.keys.length c1 ∧ Cp A2 n.vals.length c2 ∧ Cp A3 n.kids.length c3 := by
  obtain ⟨vk, vv, vd, rfl, h1, h2, h3, m1, m2⟩ := h
  obtain ⟨A1, c1, rfl, k1⟩ := h1.sr hB
  obtain ⟨A2, c2, rfl, k2⟩ := h2.sr hB
  obtain ⟨A3, c3, e3, k3⟩ := ints_nr h3 hB
  obtain ⟨A4, c4, e4, _, hm, hn, hle, _⟩ := h3
  subst e3
  injection e4 with e5 e6 e7
  subst e5 e7
  exact ⟨A1, c1, A2, c2, A3, c3, rfl, ⟨k1, k2, k3⟩, m1 _ _ _ rfl, m2 _ _ _ rfl, ⟨hle, hm, fun h => (hn h).1⟩⟩
theorem NodeV.no {w : World} {B : Nat} {v : Value} {n : Nd} (h : NodeV w B v n) (hB : B ≤ w.heap.size) : ∃ A1 c1 A2 c2 A3 c3, v = nv8 A1 c1 A2 c2 A3 c3 n ∧ No w A1 c1 A2 c2 A3 c3 n := by
  obtain ⟨A1, c1, A2, c2, A3, c3, e, h1, _⟩ := h.no2 hB
  exact ⟨A1, c1, A2, c2, A3, c3, e, h1⟩
theorem refSize_any (n : Nd) (A1 : Option Addr) (c1 : Nat) (A2 : Option Addr) (c2 : Nat) (A3 : Option Addr) (c3 : Nat) (w : World) (h : No w A1 c1 A2 c2 A3 c3 n) (hf : Few8 n) :
    Calls Try.prog 33 #[nv8 A1 c1 A2 c2 A3 c3 n] w fun e w' => e = .returned (.int .i64 (size8 n : Nat)) ∧ Turn (fun _ => False) w w' := by
  have hs := hf.sums
  have f1 := hf.nk
  have f2 := hf.nv
  have h1 := Lib.hid h.keys
  have h2 := Lib.hid h.vals
  obtain ⟨leaf, K, V, Z⟩ := n
  simp only [nv8] at *
  obtain ⟨nk, hnk⟩ : ∃ k, K.length = k := ⟨_, rfl⟩
  obtain ⟨nv, hnv⟩ : ∃ k, V.length = k := ⟨_, rfl⟩
  obtain ⟨nd, hnd⟩ : ∃ k, Z.length = k := ⟨_, rfl⟩
  have HNK := Lib.hid hnk
  have HNV := Lib.hid hnv
  rw [hnk] at f1 ⊢
  rw [hnv] at f2 ⊢
  rw [hnd]
  clear h hf hnk hnv hnd
  obtain ⟨SK, hSK⟩ : ∃ k, sumS K = k := ⟨_, rfl⟩
  obtain ⟨SV, hSV⟩ : ∃ k, sumS V = k := ⟨_, rfl⟩
  rw [hSK, hSV] at hs
  have HSK := Lib.hid hSK
  have HSV := Lib.hid hSV
  clear hSK hSV
  cases leaf
  · go_enter Try.func33, Try.ntmps33
    go_wp2_with fail
    go_loopw [3, 4] (fun vs vi wr => ∃ (j : Nat) (x : Int), j ≤ nk ∧ vi = .int .i64 j ∧ vs = .int .i64 x ∧ x = ((3 + sumS (K.take j) + 5 * j : Nat) : Int) ∧ Blk wr w.heap.size 26 [.bool false, .slice A1 nk c1, .slice A2 nv c2, .slice A3 nd c3] ∧ Turn (fun _ => False) w wr) (fun _ vi _ => nk - (intOf vi).toNat)
    case atStart => exact ⟨0, 3, Nat.zero_le _, rfl, rfl, rfl, Blk.new w 26 _, (Turn.refl _ w).alloc _⟩
    case round =>
      obtain ⟨j, x, hj, rfl, rfl, hx, hB, hT⟩ := hrel
      have BB := Lib.hid hB
      have TT := Lib.hid hT
      have HX := Lib.hid hx
      have y0 : wr.cell? ⟨w.heap.size, 0, none⟩ = some (.bool false) := hB.cell 0
      have y1 : wr.cell? ⟨w.heap.size, 1, none⟩ = some (.slice A1 nk c1) := hB.cell 1
      have y2 : wr.cell? ⟨w.heap.size, 2, none⟩ = some (.slice A2 nv c2) := hB.cell 2
      have hsj : sumS (K.take j) ≤ 281474976702464000 := by have h := sumS_take_le K j; have h2 := HSK.out; omega
      have hx1 : 0 ≤ x ∧ x ≤ 281474976702474003 := by omega
      clear hB hx hsj
      by_cases hlt : j < nk
      · obtain ⟨t, ht⟩ : ∃ t, K[j]? = some t := ⟨_, List.getElem?_eq_getElem (by rw [HNK.out]; exact hlt)⟩
        obtain ⟨b1, o1, rfl, hb1, hc1⟩ := h1.out (by rw [HNK.out]; omega)
        have y4 : wr.cell? ⟨b1, o1 + j, none⟩ = some (.string t) := hc1 wr hT j t ht
        have hst := Lib.hid (sumS_take ht)
        have hle : sumS (K.take (j + 1)) ≤ SK := by have h := sumS_take_le K (j + 1); have h2 := HSK.out; omega
        have htz : t.size ≤ 281474976702464000 := by have h := hst.out; omega
        have hi1 : (j : Int) < (nk : Int) := by omega
        have hi2 : (0 : Int) ≤ (j : Int) := by omega
        have z1 := wrap_of (x + (t.size : Int)) (by omega) (by omega)
        have z2 := wrap_of (x + (t.size : Int) + 5) (by omega) (by omega)
        have z3 := wrap_of ((j : Int) + 1) (by omega) (by omega)
        clear hT hc1 ht hle
        go_wp2_with fail
        go_roundw
        case rel => exact ⟨j + 1, x + t.size + 5, hlt, by simp, rfl, by rw [hst.out, HX.out]; omega, BB.out, TT.out⟩
        case measure => simp [intOf]; omega
      · obtain rfl : j = nk := by omega
        have hi1 : ¬ (j : Int) < (j : Int) := by omega
        have hE : K.take j = K := List.take_of_length_le (by rw [HNK.out]; exact Nat.le_refl _)
        have HX2 : Hid (x = ((3 + SK + 5 * j : Nat) : Int)) := Lib.hid (by rw [HX.out, hE, HSK.out])
        clear hE hT
        have z4 := wrap_of (x + 4) (by omega) (by omega)
        go_wp2_with fail
        go_ret
        refine ⟨?_, TT.out⟩
        simp only [size8, kb8, HNK.out, HSK.out]
        rw [HX2.out]
        simp
  · go_enter Try.func33, Try.ntmps33
    go_wp2_with fail
    go_loopw [3, 4] (fun vs vi wr => ∃ (j : Nat) (x : Int), j ≤ nk ∧ vi = .int .i64 j ∧ vs = .int .i64 x ∧ x = ((3 + sumS (K.take j) + 3 * j : Nat) : Int) ∧ Blk wr w.heap.size 26 [.bool true, .slice A1 nk c1, .slice A2 nv c2, .slice A3 nd c3] ∧ Turn (fun _ => False) w wr) (fun _ vi _ => nk - (intOf vi).toNat)
    case atStart => exact ⟨0, 3, Nat.zero_le _, rfl, rfl, rfl, Blk.new w 26 _, (Turn.refl _ w).alloc _⟩
    case round =>
      obtain ⟨j, x, hj, rfl, rfl, hx, hB, hT⟩ := hrel
      have BB := Lib.hid hB
      have TT := Lib.hid hT
      have HX := Lib.hid hx
      have y0 : wr.cell? ⟨w.heap.size, 0, none⟩ = some (.bool true) := hB.cell 0
      have y1 : wr.cell? ⟨w.heap.size, 1, none⟩ = some (.slice A1 nk c1) := hB.cell 1
      have y2 : wr.cell? ⟨w.heap.size, 2, none⟩ = some (.slice A2 nv c2) := hB.cell 2
      have hsj : sumS (K.take j) ≤ 281474976702464000 := by have h := sumS_take_le K j; have h2 := HSK.out; omega
      have hx1 : 0 ≤ x ∧ x ≤ 281474976702474003 := by omega
      clear hB hx hsj
      by_cases hlt : j < nk
      · obtain ⟨t, ht⟩ : ∃ t, K[j]? = some t := ⟨_, List.getElem?_eq_getElem (by rw [HNK.out]; exact hlt)⟩
        obtain ⟨b1, o1, rfl, hb1, hc1⟩ := h1.out (by rw [HNK.out]; omega)
        have y4 : wr.cell? ⟨b1, o1 + j, none⟩ = some (.string t) := hc1 wr hT j t ht
        have hst := Lib.hid (sumS_take ht)
        have hle : sumS (K.take (j + 1)) ≤ SK := by have h := sumS_take_le K (j + 1); have h2 := HSK.out; omega
        have htz : t.size ≤ 281474976702464000 := by have h := hst.out; omega
        have hi1 : (j : Int) < (nk : Int) := by omega
        have hi2 : (0 : Int) ≤ (j : Int) := by omega
        have z1 := wrap_of (x + (t.size : Int)) (by omega) (by omega)
        have z2 := wrap_of (x + (t.size : Int) + 3) (by omega) (by omega)
        have z3 := wrap_of ((j : Int) + 1) (by omega) (by omega)
        clear hT hc1 ht hle
        go_wp2_with fail
        go_roundw
        case rel => exact ⟨j + 1, x + t.size + 3, hlt, by simp, rfl, by rw [hst.out, HX.out]; omega, BB.out, TT.out⟩
        case measure => simp [intOf]; omega
      · obtain rfl : j = nk := by omega
        have hi1 : ¬ (j : Int) < (j : Int) := by omega
        have hE : K.take j = K := List.take_of_length_le (by rw [HNK.out]; exact Nat.le_refl _)
        have HX2 : Hid (x = ((3 + SK + 3 * j : Nat) : Int)) := Lib.hid (by rw [HX.out, hE, HSK.out])
        clear hE hT
        go_wp2_with fail
        go_loopw [3, 5] (fun vs vi wr => ∃ (i : Nat) (x : Int), i ≤ nv ∧ vi = .int .i64 i ∧ vs = .int .i64 x ∧ x = ((3 + SK + 3 * j + sumS (V.take i) : Nat) : Int) ∧ Blk wr w.heap.size 26 [.bool true, .slice A1 j c1, .slice A2 nv c2, .slice A3 nd c3] ∧ Turn (fun _ => False) w wr) (fun _ vi _ => nv - (intOf vi).toNat)
        case atStart => exact ⟨0, x, Nat.zero_le _, rfl, rfl, HX2.out, BB.out, TT.out⟩
        case round =>
          clear y0 y1 y2
          obtain ⟨i, u, hj2, rfl, rfl, hx3, hB3, hT3⟩ := hrel
          have BB3 := Lib.hid hB3
          have TT3 := Lib.hid hT3
          have HX3 := Lib.hid hx3
          have y2 : wr.cell? ⟨w.heap.size, 2, none⟩ = some (.slice A2 nv c2) := hB3.cell 2
          have hsj : sumS (V.take i) ≤ 281474976702464000 := by have h := sumS_take_le V i; have h2 := HSV.out; omega
          have hu1 : 0 ≤ u ∧ u ≤ 600000000000000000 := by omega
          clear hB3 hx3 hsj
          by_cases hlt2 : i < nv
          · obtain ⟨t, ht⟩ : ∃ t, V[i]? = some t := ⟨_, List.getElem?_eq_getElem (by rw [HNV.out]; exact hlt2)⟩
            obtain ⟨b2, o2, rfl, hb2, hc2⟩ := h2.out (by rw [HNV.out]; omega)
            have y4 : wr.cell? ⟨b2, o2 + i, none⟩ = some (.string t) := hc2 wr hT3 i t ht
            have hst := Lib.hid (sumS_take ht)
            have hle : sumS (V.take (i + 1)) ≤ SV := by have h := sumS_take_le V (i + 1); have h2 := HSV.out; omega
            have htz : t.size ≤ 281474976702464000 := by have h := hst.out; omega
            have hi3 : (i : Int) < (nv : Int) := by omega
            have hi2 : (0 : Int) ≤ (i : Int) := by omega
            have z1 := wrap_of (u + (t.size : Int)) (by omega) (by omega)
            have z3 := wrap_of ((i : Int) + 1) (by omega) (by omega)
            clear hT3 hc2 ht hle
            go_wp2_with fail
            go_roundw
            case rel => exact ⟨i + 1, u + t.size, hlt2, by simp, rfl, by rw [hst.out, HX3.out]; omega, BB3.out, TT3.out⟩
            case measure => simp [intOf]; omega
          · obtain rfl : i = nv := by omega
            have hi3 : ¬ (i : Int) < (i : Int) := by omega
            have hE : V.take i = V := List.take_of_length_le (by rw [HNV.out]; exact Nat.le_refl _)
            have HX4 : Hid (u = ((3 + SK + 3 * j + SV : Nat) : Int)) := Lib.hid (by rw [HX3.out, hE, HSV.out])
            clear hE hT3
            go_wp2_with fail
            go_ret
            refine ⟨?_, TT3.out⟩
            simp only [size8, kb8, HNK.out, HSK.out, HSV.out]
            rw [HX4.out]
            simp
end Go.Proofs.Ytcmghbglnkfbaaa
