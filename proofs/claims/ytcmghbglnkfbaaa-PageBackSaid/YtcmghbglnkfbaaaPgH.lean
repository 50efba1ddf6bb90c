/- Layer 8: the program's Find. -/
import Derived.Test.YtcmghbglnkfbaaaPgG
import Derived.Test.YtcmghbglnkfbaaaPgD
namespace Go.Proofs.Ytcmghbglnkfbaaa
open Go.RowKit
set_option linter.unusedVariables false
set_option maxRecDepth 100000

theorem bytesLess_trans : ∀ (x y z : List UInt8), Op.bytesLess x y = true → Op.bytesLess y z = true → Op.bytesLess x z = true
  | [], [], z, h, _ => by cases h
  | [], b :: y, [], _, h => by rw [bl_nil_right] at h; cases h
  | [], b :: y, c :: z, _, _ => by rw [bl_nil_left]; simp
  | a :: x, [], z, h, _ => by rw [bl_nil_right] at h; cases h
  | a :: x, b :: y, [], _, h => by rw [bl_nil_right] at h; cases h
  | a :: x, b :: y, c :: z, h1, h2 => by
    by_cases hab : a = b
    · subst hab
      rw [bl_same] at h1
      by_cases hac : a = c
      · subst hac
        rw [bl_same] at h2 ⊢
        exact bytesLess_trans x y z h1 h2
      · rw [bl_ne_head hac] at h2 ⊢; exact h2
    · rw [bl_ne_head hab] at h1
      have h3 := of_decide_eq_true h1
      by_cases hbc : b = c
      · subst hbc
        rw [bl_ne_head hab]; exact h1
      · rw [bl_ne_head hbc] at h2
        have h4 := of_decide_eq_true h2
        rw [bl_ne_head (fun e => by subst e; omega)]
        exact decide_eq_true (by omega)
theorem Riz.lt {K : List ByteArray} (h : Riz K) : ∀ {a b : Nat}, a < b → b < K.length → Op.bytesLess (key8 K a).data.toList (key8 K b).data.toList = true := by
  intro a b hab hb
  induction b with
  | zero => omega
  | succ b ih =>
    have h1 := h (b + 1) (by omega) hb
    rw [Nat.add_sub_cancel] at h1
    rcases Nat.lt_or_ge a b with h2 | h2
    · exact bytesLess_trans _ _ _ (ih h2 (by omega)) h1
    · obtain rfl : a = b := by omega
      exact h1
theorem Riz.goes {K : List ByteArray} (h : Riz K) {leaf : Bool} {key : ByteArray} {a b : Nat} (hab : a ≤ b) (hb : b < K.length) (hg : goes8 leaf key (key8 K b) = true) : goes8 leaf key (key8 K a) = true := by
  rcases Nat.lt_or_ge a b with h2 | h2
  · have h1 := h.lt h2 hb
    unfold goes8 at hg ⊢
    rw [Bool.or_eq_true] at hg ⊢
    rcases hg with hg | hg
    · exact .inl (bytesLess_trans _ _ _ h1 hg)
    · rw [Bool.and_eq_true] at hg
      have h3 : (key8 K b).data.toList = key.data.toList := by rw [← tol, ← tol]; exact eq_of_beq hg.2
      exact .inl (by rw [← h3]; exact h1)
  · obtain rfl : a = b := by omega
    exact hg
theorem Stands8.riz {n : Nd} (h : Stands8 n) : Riz n.keys := fun j h1 h2 => (h.1 j h2).2 h1
theorem find1_any (K : List ByteArray) (A : Option Addr) (c : Nat) (key : ByteArray) (bn bk i : Nat) (w : World) (hi : i < K.length) (hn : K.length ≤ 2000) (h : Sr w A K)
    (hc : w.cell? ⟨bn, 1, none⟩ = some (.slice A K.length c)) (hk : w.cell? ⟨bk, 0, none⟩ = some (.string key)) :
    Calls Try.prog 36 #[.int .i64 i, .pointer (some ⟨bn, 0, none⟩), .pointer (some ⟨bk, 0, none⟩)] w fun e w' => e = .returned (.bool (!goes8 false key (key8 K i))) ∧ Turn (fun _ => False) w w' := by
  obtain ⟨t, ht⟩ : ∃ t, K[i]? = some t := ⟨_, List.getElem?_eq_getElem hi⟩
  obtain ⟨b1, o1, rfl, hb1, hc1⟩ := h (by omega)
  have y4 : w.cell? ⟨b1, o1 + i, none⟩ = some (.string t) := hc1 w (Turn.refl _ w) i t ht
  rw [key8_at ht]
  have e1 : (!goes8 false key t) = (!Op.bytesLess t.toList key.toList && !(t.toList == key.toList)) := by unfold goes8; rw [← tol, ← tol]; simp
  rw [e1]
  have hi1 : (i : Int) < (K.length : Int) := by omega
  have hi2 : (0 : Int) ≤ (i : Int) := by omega
  clear e1 h hc1 ht
  generalize K.length = nk at *
  go_enter Try.func36, Try.ntmps36
  go_wp2_with fail
  go_quiet (fail)
  go_wp2_with fail
  go_ret
  exact ⟨rfl, (Turn.refl _ w).drewN _⟩
theorem find2_any (K : List ByteArray) (A : Option Addr) (c : Nat) (key : ByteArray) (bn bk i : Nat) (w : World) (hi : i < K.length) (hn : K.length ≤ 2000) (h : Sr w A K)
    (hc : w.cell? ⟨bn, 1, none⟩ = some (.slice A K.length c)) (hk : w.cell? ⟨bk, 0, none⟩ = some (.string key)) :
    Calls Try.prog 37 #[.int .i64 i, .pointer (some ⟨bn, 0, none⟩), .pointer (some ⟨bk, 0, none⟩)] w fun e w' => e = .returned (.bool (!goes8 true key (key8 K i))) ∧ Turn (fun _ => False) w w' := by
  obtain ⟨t, ht⟩ : ∃ t, K[i]? = some t := ⟨_, List.getElem?_eq_getElem hi⟩
  obtain ⟨b1, o1, rfl, hb1, hc1⟩ := h (by omega)
  have y4 : w.cell? ⟨b1, o1 + i, none⟩ = some (.string t) := hc1 w (Turn.refl _ w) i t ht
  rw [key8_at ht]
  have e1 : (!goes8 true key t) = (!Op.bytesLess t.toList key.toList) := by unfold goes8; rw [← tol, ← tol]; simp
  rw [e1]
  have hi1 : (i : Int) < (K.length : Int) := by omega
  have hi2 : (0 : Int) ≤ (i : Int) := by omega
  clear e1 h hc1 ht
  generalize K.length = nk at *
  go_enter Try.func37, Try.ntmps37
  go_wp2_with fail
  go_quiet (fail)
  go_wp2_with fail
  go_ret
  exact ⟨rfl, (Turn.refl _ w).drewN _⟩
set_option maxHeartbeats 4000000 in
theorem find_any (n : Nd) (key : ByteArray) (A1 : Option Addr) (c1 : Nat) (A2 : Option Addr) (c2 : Nat) (A3 : Option Addr) (c3 : Nat) (w : World) (h : No w A1 c1 A2 c2 A3 c3 n) (hf : Few8 n) :
    Calls Try.prog 20 #[nv8 A1 c1 A2 c2 A3 c3 n, .string key] w fun e w' => e = .returned (.tuple #[.int .i64 (find8 n key).1, .bool (find8 n key).2]) ∧ Turn (fun _ => False) w w' := by
  have HS := Lib.hid (fun W (ht : Turn (fun _ => False) w W) => stands_any n A1 c1 A2 c2 A3 c3 W (h.turn ht) hf)
  have HN := Lib.hid h
  have f1 := hf.nk
  have T0 := Lib.hid (((Turn.refl (fun _ => False) w).alloc (.cells #[.bool n.leaf, .slice A1 n.keys.length c1, .slice A2 n.vals.length c2, .slice A3 n.kids.length c3] 26)).alloc (.cells #[.string key] 9))
  have B0 := Lib.hid ((Blk.new w 26 [.bool n.leaf, .slice A1 n.keys.length c1, .slice A2 n.vals.length c2, .slice A3 n.kids.length c3]).alloc (.cells #[.string key] 9))
  have K0 := Lib.hid (Blk.new (w.alloc (.cells #[.bool n.leaf, .slice A1 n.keys.length c1, .slice A2 n.vals.length c2, .slice A3 n.kids.length c3] 26)) 9 [.string key])
  have hst := Lib.hid (fun (hs : st8 n = true) => (st8_of hs).riz)
  obtain ⟨⟨P, F⟩, hPF⟩ : ∃ b, find8 n key = b := ⟨_, rfl⟩
  rw [hPF]
  have HPF := Lib.hid hPF
  obtain ⟨b, hb⟩ : ∃ b, st8 n = b := ⟨_, rfl⟩
  rw [hb] at HS hst
  have HB := Lib.hid hb
  clear h hf hPF hb
  obtain ⟨leaf, K, V, Z⟩ := n
  simp only [nv8] at *
  obtain ⟨nk, hnk⟩ : ∃ k, K.length = k := ⟨_, rfl⟩
  have HNK := Lib.hid hnk
  rw [hnk] at HS f1 T0 B0 K0 ⊢
  clear hnk
  generalize V.length = nv at *
  generalize Z.length = nd at *
  have hsz : (w.alloc (.cells #[.bool leaf, .slice A1 nk c1, .slice A2 nv c2, .slice A3 nd c3] 26)).heap.size = w.heap.size + 1 := by simp
  rw [hsz] at K0
  go_enter Try.func20, Try.ntmps20
  go_wp2_with fail
  refine (HS.out _ T0.out).mono ?_
  rintro e w1 ⟨rfl, ht1⟩
  have T1 := Lib.hid (T0.out.trans ht1)
  have B1 := Lib.hid (B0.out.turn ht1 (fun h => h))
  have K1 := Lib.hid (K0.out.turn ht1 (fun h => h))
  clear ht1 T0 B0 K0 hsz
  have y0 : w1.cell? ⟨w.heap.size, 0, none⟩ = some (.bool leaf) := B1.out.cell 0
  have y1 : w1.cell? ⟨w.heap.size, 1, none⟩ = some (.slice A1 nk c1) := B1.out.cell 1
  cases b
  · have h2 : P = 0 ∧ F = false := by
      have h6 := HPF.out
      unfold find8 at h6
      rw [HB.out] at h6
      injection h6 with h7 h8
      exact ⟨h7.symm, h8.symm⟩
    obtain ⟨rfl, rfl⟩ := h2
    go_wp2_with fail
    all_goals (go_ret2; exact ⟨rfl, T1.out⟩)
  · have HR : Hid (Riz K) := Lib.hid (hst.out rfl)
    have HFO : Hid (∀ j, j ≤ nk → (∀ i, i < j → goes8 leaf key (key8 K i) = true) → (j < nk → goes8 leaf key (key8 K j) = false) → P = j ∧ F = (leaf && (decide (j < nk) && ((key8 K j).toList == key.toList)))) := Lib.hid (fun j h2 h3 h4 => by
      have h5 : pos8 leaf key K = j := pos8_is (by rw [HNK.out]; exact h2) h3 (by rw [HNK.out]; exact h4)
      have h6 := HPF.out
      unfold find8 at h6
      rw [HB.out, if_pos rfl] at h6
      injection h6 with h7 h8
      unfold at8 at h8
      simp only at h7 h8
      rw [h5, HNK.out] at h8
      exact ⟨h7.symm.trans h5, h8.symm⟩)
    have hmono : Hid (∀ a b, a ≤ b → b < nk → (!goes8 leaf key (key8 K a)) = true → (!goes8 leaf key (key8 K b)) = true) := Lib.hid (fun a b h1 h2 h3 => by
      cases hg : goes8 leaf key (key8 K b) with
      | false => rfl
      | true => rw [HR.out.goes h1 (by rw [HNK.out]; exact h2) hg] at h3; cases h3)
    have HE : Hid (∀ X, Turn (fun _ => False) w1 X → No X A1 c1 A2 c2 A3 c3 ⟨leaf, K, V, Z⟩ ∧ X.cell? ⟨w.heap.size, 1, none⟩ = some (.slice A1 K.length c1) ∧ X.cell? ⟨w.heap.size + 1, 0, none⟩ = some (.string key)) := Lib.hid (fun X hX => ⟨HN.out.turn (T1.out.trans hX), by rw [HNK.out]; exact (B1.out.turn hX (fun h => h)).cell 1, (K1.out.turn hX (fun h => h)).cell 0⟩)
    clear hst
    cases leaf
    · have HC := Lib.hid (search_any 36 #[.pointer (some ⟨w.heap.size, 0, none⟩), .pointer (some ⟨w.heap.size + 1, 0, none⟩)] nk (fun i => !goes8 false key (key8 K i)) w1 (fun _ _ => rfl) (by omega)
        (fun X hX i hi => find1_any K A1 c1 key _ _ i X (by rw [HNK.out]; exact hi) (by rw [HNK.out]; exact f1) (HE.out X hX).1.keys (HE.out X hX).2.1 (HE.out X hX).2.2) hmono.out)
      go_wp2_with fail
      refine HC.out.mono ?_
      rintro e w2 ⟨⟨r, rfl, hr, h1, h2⟩, ht2⟩
      obtain ⟨rfl, hF⟩ := HFO.out r hr (fun i hi => by have := h1 i hi; simpa using this) (fun hi => by have := h2 hi; simpa using this)
      have hF2 : F = false := by rw [hF]; rfl
      subst hF2
      have T2 := Lib.hid (T1.out.trans ht2)
      clear ht2 h1 h2 hF
      go_wp2_with fail
      all_goals (go_ret2; exact ⟨rfl, T2.out⟩)
    · have HC := Lib.hid (search_any 37 #[.pointer (some ⟨w.heap.size, 0, none⟩), .pointer (some ⟨w.heap.size + 1, 0, none⟩)] nk (fun i => !goes8 true key (key8 K i)) w1 (fun _ _ => rfl) (by omega)
        (fun X hX i hi => find2_any K A1 c1 key _ _ i X (by rw [HNK.out]; exact hi) (by rw [HNK.out]; exact f1) (HE.out X hX).1.keys (HE.out X hX).2.1 (HE.out X hX).2.2) hmono.out)
      go_wp2_with fail
      refine HC.out.mono ?_
      rintro e w2 ⟨⟨r, rfl, hr, h1, h2⟩, ht2⟩
      obtain ⟨rfl, hF⟩ := HFO.out r hr (fun i hi => by have := h1 i hi; simpa using this) (fun hi => by have := h2 hi; simpa using this)
      have T2 := Lib.hid (T1.out.trans ht2)
      have B2 := Lib.hid (B1.out.turn ht2 (fun h => h))
      have K2 := Lib.hid (K1.out.turn ht2 (fun h => h))
      clear y0 y1
      have y1 : w2.cell? ⟨w.heap.size, 1, none⟩ = some (.slice A1 nk c1) := B2.out.cell 1
      have x0 : w2.cell? ⟨w.heap.size + 1, 0, none⟩ = some (.string key) := K2.out.cell 0
      have HG := Lib.hid ht2
      clear ht2 h1 h2
      by_cases hlt : P < nk
      · obtain ⟨t, ht⟩ : ∃ t, K[P]? = some t := ⟨_, List.getElem?_eq_getElem (by rw [HNK.out]; exact hlt)⟩
        obtain ⟨b1, o1, rfl, hb1, hc1⟩ := (HE.out w2 HG.out).1.keys (by show 0 < K.length; rw [HNK.out]; omega)
        have y4 : w2.cell? ⟨b1, o1 + P, none⟩ = some (.string t) := hc1 w2 (Turn.refl _ w2) P t ht
        rw [key8_at ht, decide_eq_true hlt] at hF
        simp only [Bool.true_and] at hF
        have hi1 : (P : Int) < (nk : Int) := by omega
        have hi2 : (0 : Int) ≤ (P : Int) := by omega
        subst hF
        clear hc1 ht
        go_wp2_with fail
        go_quiet (fail)
        go_wp2_with fail
        all_goals (go_ret2; exact ⟨rfl, T2.out.drewN _⟩)
      · rw [decide_eq_false hlt] at hF
        simp only [Bool.false_and, Bool.and_false] at hF
        have hi1 : ¬ (P : Int) < (nk : Int) := by omega
        have hi3 : decide ((P : Int) < (nk : Int)) = false := decide_eq_false hi1
        subst hF
        go_wp2_with fail
        go_quiet (fail)
        go_wp2_with fail
        all_goals (go_ret2; exact ⟨rfl, T2.out.drewN _⟩)
end Go.Proofs.Ytcmghbglnkfbaaa
