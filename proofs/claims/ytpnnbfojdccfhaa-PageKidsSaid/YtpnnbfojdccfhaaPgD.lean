/- Layer 8: the document's Find. -/
import Derived.Test.YtpnnbfojdccfhaaPgC
import Derived.BigQuiet
namespace Go.Proofs.Ytpnnbfojdccfhaa
open Go.RowKit
set_option linter.unusedVariables false
set_option maxRecDepth 100000

/-- A key that stands ahead of the place that is looked for. -/
def goes8 (leaf : Bool) (key s : ByteArray) : Bool := Op.bytesLess s.data.toList key.data.toList || (!leaf && (s.toList == key.toList))
def pos8 (leaf : Bool) (key : ByteArray) : List ByteArray → Nat
  | [] => 0
  | s :: l => if goes8 leaf key s then pos8 leaf key l + 1 else 0
theorem pos8_is {leaf : Bool} {key : ByteArray} {K : List ByteArray} : ∀ {j : Nat}, j ≤ K.length → (∀ i, i < j → goes8 leaf key (key8 K i) = true) → (j < K.length → goes8 leaf key (key8 K j) = false) → pos8 leaf key K = j := by
  induction K with
  | nil => intro j h _ _; simp at h; subst h; rfl
  | cons s l ih =>
    intro j h1 h2 h3
    cases j with
    | zero =>
      have h4 := h3 (by simp)
      rw [show key8 (s :: l) 0 = s from rfl] at h4
      rw [pos8, h4]; rfl
    | succ j =>
      have h4 := h2 0 (by omega)
      rw [show key8 (s :: l) 0 = s from rfl] at h4
      rw [pos8, h4, if_pos rfl, ih (j := j) (by simp at h1; omega) (fun i hi => h2 (i + 1) (by omega)) (fun hj => h3 (by simp; omega))]
theorem pos8_le (leaf : Bool) (key : ByteArray) : ∀ K : List ByteArray, pos8 leaf key K ≤ K.length
  | [] => Nat.le_refl _
  | s :: l => by
    have := pos8_le leaf key l
    rw [pos8, List.length_cons]
    split <;> omega
/-- Where a key is, or would be; and whether it is there. -/
def at8 (n : Nd) (key : ByteArray) : Bool := n.leaf && (decide (pos8 n.leaf key n.keys < n.keys.length) && ((key8 n.keys (pos8 n.leaf key n.keys)).toList == key.toList))
noncomputable def find8 (n : Nd) (key : ByteArray) : Nat × Bool := if st8 n then (pos8 n.leaf key n.keys, at8 n key) else (0, false)
set_option maxHeartbeats 8000000 in
theorem refFind_any (n : Nd) (key : ByteArray) (hkey : key.size ≤ 140737488351232) (A1 : Option Addr) (c1 : Nat) (A2 : Option Addr) (c2 : Nat) (A3 : Option Addr) (c3 : Nat) (w : World) (h : No w A1 c1 A2 c2 A3 c3 n) (hf : Few8 n) :
    Calls Try.prog 15 #[nv8 A1 c1 A2 c2 A3 c3 n, .string key] w fun e w' => e = .returned (.tuple #[.int .i64 (find8 n key).1, .bool (find8 n key).2]) ∧ Turn (fun _ => False) w w' := by
  have HST := Lib.hid (fun w (h : No w A1 c1 A2 c2 A3 c3 n) => refStands_any n A1 c1 A2 c2 A3 c3 w h hf)
  have HBL := Lib.hid (fun (s : ByteArray) (hs : s.size ≤ 140737488351232) (w : World) => below_any s key hs hkey w)
  have HN := Lib.hid h
  obtain ⟨⟨P, F⟩, hPF⟩ : ∃ b, find8 n key = b := ⟨_, rfl⟩
  rw [hPF]
  have HPF := Lib.hid hPF
  have hst : ∃ b, st8 n = b := ⟨_, rfl⟩
  obtain ⟨b, hb⟩ := hst
  rw [hb] at HST
  have HB := Lib.hid hb
  have HKS := Lib.hid hf.ks
  have f1 := hf.nk
  have h1 := Lib.hid h.keys
  clear h hf hPF hb
  obtain ⟨leaf, K, V, Z⟩ := n
  simp only [nv8] at *
  obtain ⟨nk, hnk⟩ : ∃ k, K.length = k := ⟨_, rfl⟩
  have HNK := Lib.hid hnk
  rw [hnk] at HST f1 ⊢
  clear hnk
  generalize V.length = nv at *
  generalize Z.length = nd at *
  have HFO : Hid (∀ j, b = true → j ≤ nk → (∀ i, i < j → goes8 leaf key (key8 K i) = true) → (j < nk → goes8 leaf key (key8 K j) = false) → P = j ∧ F = (leaf && (decide (j < nk) && ((key8 K j).toList == key.toList)))) := Lib.hid (fun j hb h2 h3 h4 => by
    have h5 : pos8 leaf key K = j := pos8_is (by rw [HNK.out]; exact h2) h3 (by rw [HNK.out]; exact h4)
    have h6 := HPF.out
    unfold find8 at h6
    rw [HB.out, hb, if_pos rfl] at h6
    injection h6 with h7 h8
    unfold at8 at h8
    simp only at h7 h8
    rw [h5, HNK.out] at h8
    exact ⟨h7.symm.trans h5, h8.symm⟩)
  go_enter Try.func15, Try.ntmps15
  go_wp2_with fail
  refine (HST.out _ (HN.out.turn ((Turn.refl _ w).alloc _))).mono ?_
  rintro e w1 ⟨rfl, ht1⟩
  have T1 := Lib.hid (((Turn.refl (fun _ => False) w).alloc _).trans ht1)
  have B1 := Lib.hid ((Blk.new w 26 [.bool leaf, .slice A1 nk c1, .slice A2 nv c2, .slice A3 nd c3]).turn ht1 (fun h => h))
  clear ht1
  cases b
  · have h2 : P = 0 ∧ F = false := by
      have h6 := HPF.out
      unfold find8 at h6
      rw [HB.out] at h6
      injection h6 with h7 h8
      exact ⟨h7.symm, h8.symm⟩
    obtain ⟨rfl, rfl⟩ := h2
    go_wp2_with fail
    go_ret2
    exact ⟨rfl, T1.out⟩
  · go_wp2_with fail
    go_loopw [6] (fun vi wr => ∃ (j : Nat), j ≤ nk ∧ vi = .int .i64 j ∧ (∀ i, i < j → goes8 leaf key (key8 K i) = true) ∧ Blk wr w.heap.size 26 [.bool leaf, .slice A1 nk c1, .slice A2 nv c2, .slice A3 nd c3] ∧ Turn (fun _ => False) w wr) (fun vi _ => nk - (intOf vi).toNat)
    case atStart => exact ⟨0, Nat.zero_le _, rfl, fun i hi => absurd hi (Nat.not_lt_zero _), B1.out, T1.out⟩
    case round =>
      obtain ⟨j, hj, rfl, hx, hB, hT⟩ := hrel
      have BB := Lib.hid hB
      have TT := Lib.hid hT
      have HX := Lib.hid hx
      have y0 : wr.cell? ⟨w.heap.size, 0, none⟩ = some (.bool leaf) := hB.cell 0
      have y1 : wr.cell? ⟨w.heap.size, 1, none⟩ = some (.slice A1 nk c1) := hB.cell 1
      clear hx
      by_cases hlt : j < nk
      · obtain ⟨t, ht⟩ : ∃ t, K[j]? = some t := ⟨_, List.getElem?_eq_getElem (by rw [HNK.out]; exact hlt)⟩
        obtain ⟨b1, o1, rfl, hb1, hc1⟩ := h1.out (by rw [HNK.out]; omega)
        have y4 : wr.cell? ⟨b1, o1 + j, none⟩ = some (.string t) := hc1 wr hT j t ht
        have hkt := Lib.hid (key8_at ht)
        have HCC := Lib.hid (HBL.out t (HKS.out t (List.mem_of_getElem? ht)) wr)
        have hi1 : (j : Int) < (nk : Int) := by omega
        have hi2 : (0 : Int) ≤ (j : Int) := by omega
        have z3 := wrap_of ((j : Int) + 1) (by omega) (by omega)
        have hd1 : decide (j < nk) = true := decide_eq_true hlt
        obtain ⟨bl, hbl⟩ : ∃ b, Op.bytesLess t.data.toList key.data.toList = b := ⟨_, rfl⟩
        rw [hbl] at HCC
        have HBB := Lib.hid hbl
        obtain ⟨eq, heq⟩ : ∃ b, (t.toList == key.toList) = b := ⟨_, rfl⟩
        have HEQ := Lib.hid heq
        have HC := Lib.hid hc1
        have HT := Lib.hid ht
        clear hT hc1 ht hbl hB heq
        go_wp2_with fail
        refine HCC.out.mono ?_
        rintro e w2 ⟨rfl, hb2⟩
        have T2' : Hid (Turn (fun _ => False) wr w2) := Lib.hid (Turn.of_below hb2 (fun k h1 h2 => absurd h1 (Nat.not_lt.2 h2)))
        have T2 := Lib.hid (TT.out.trans T2'.out)
        have B2 := Lib.hid (BB.out.turn T2'.out (fun h => h))
        clear hb2 y0 y1 y4
        have y0 : w2.cell? ⟨w.heap.size, 0, none⟩ = some (.bool leaf) := B2.out.cell 0
        have y1 : w2.cell? ⟨w.heap.size, 1, none⟩ = some (.slice (some ⟨b1, o1, none⟩) nk c1) := B2.out.cell 1
        have y4 : w2.cell? ⟨b1, o1 + j, none⟩ = some (.string t) := HC.out w2 T2.out j t HT.out
        have HNX : Hid (goes8 leaf key t = true → ∀ i, i < j + 1 → goes8 leaf key (key8 K i) = true) := Lib.hid (fun hg i hi => by
          rcases Nat.lt_or_ge i j with h5 | h5
          · exact HX.out i h5
          · obtain rfl : i = j := by omega
            rw [hkt.out]; exact hg)
        have hs := HEQ.out
        cases bl
        · cases leaf
          · cases eq
            · obtain ⟨rfl, rfl⟩ := HFO.out j (by first | trivial | rfl) hj HX.out (fun _ => by rw [hkt.out]; unfold goes8; rw [HBB.out, hs]; rfl)
              go_wp2_with fail
              go_quiet (fail)
              go_wp2_with fail
              go_ret2
              first | exact ⟨rfl, T2.out.drew⟩ | exact ⟨rfl, T2.out.drewN _⟩
            · have HR := Lib.hid (HNX.out (by unfold goes8; rw [HBB.out, hs]; rfl))
              go_wp2_with fail
              go_roundw
              case rel => exact ⟨j + 1, hlt, by simp, HR.out, B2.out, T2.out⟩
              case measure => simp [intOf]; omega
          · obtain ⟨rfl, hF⟩ := HFO.out j (by first | trivial | rfl) hj HX.out (fun _ => by rw [hkt.out]; unfold goes8; rw [HBB.out]; rfl)
            rw [hkt.out, hs, hd1] at hF
            simp only [Bool.true_and] at hF
            subst hF
            go_wp2_with fail
            go_quiet (fail)
            go_wp2_with fail
            go_ret2
            first | exact ⟨rfl, T2.out.drew⟩ | exact ⟨rfl, T2.out.drewN _⟩
        · have HR := Lib.hid (HNX.out (by unfold goes8; rw [HBB.out]; rfl))
          go_wp2_with fail
          go_roundw
          case rel => exact ⟨j + 1, hlt, by simp, HR.out, B2.out, T2.out⟩
          case measure => simp [intOf]; omega
      · obtain rfl : j = nk := by omega
        have hi1 : ¬ (j : Int) < (j : Int) := by omega
        have hd1 : decide (j < j) = false := decide_eq_false (by omega)
        obtain ⟨rfl, hF⟩ := HFO.out j (by first | trivial | rfl) hj HX.out (fun h => absurd h (Nat.lt_irrefl _))
        clear hT hB
        rw [hd1] at hF
        simp only [Bool.false_and, Bool.and_false] at hF
        subst hF
        cases leaf
        all_goals
          go_wp2_with fail
          go_quiet (fail)
          go_wp2_with fail
          go_ret2
          first | exact ⟨rfl, TT.out.drew⟩ | exact ⟨rfl, TT.out.drewN _⟩
end Go.Proofs.Ytpnnbfojdccfhaa
