/- The walk of ambrylaw03.TagBack. -/
import Derived.Test.YtcpnmbklkjdjlaaTagTextsW
namespace Go.Proofs.Ytcpnmbklkjdjlaa
open Go.RowKit
set_option linter.unusedVariables false

/-- A tag's text is parsed to the tag. -/
theorem pt_txl {t : Int × Int} (h : rt t = true) : pt (txl t) = t ∧ pe (txl t) = 0 ∧ (txl t).length = 10 := by
  have hr := rt_yes h
  have e := txl_yes h
  have hl : (txl t).length = 10 := by rw [e]; simp [len_hex5]
  have e1 : rpv ((txl t).take 5) = t.1 := by rw [e, List.take_left' (len_hex5 _), rpv_hex5 _ (by omega)]; omega
  have e2 : rpv ((txl t).drop 5) = t.2 := by rw [e, List.drop_left' (len_hex5 _), rpv_hex5 _ (by omega)]; omega
  have hv : pv (txl t) = t := by unfold pv; rw [e1, e2]
  unfold pt pe pk
  rw [hv, h, hl]
  simp
/-- What is parsed of a text has just this text. -/
theorem txl_pv {l : List UInt8} (h : pk l = true) : txl (pv l) = l ∧ rt (pv l) = true := by
  unfold pk at h
  rw [Bool.and_eq_true, decide_eq_true_eq] at h
  have hr := rt_yes h.2
  refine ⟨?_, h.2⟩
  rw [txl_yes h.2]
  unfold pv at hr ⊢
  simp only at hr ⊢
  rw [hex5_rpv _ (by simp; omega) hr.1.1, hex5_rpv _ (by simp; omega) hr.2.1, List.take_append_drop]

/-- The second half: whatever is parsed. -/
def Rest (S : ByteArray) (E : Int) (p : Int × Int) : Prop := (E = 4 ∧ p = (0, 0)) ∨ (E = 0 ∧ txt p = S ∧ ck p = 0)
theorem rest_of (S : ByteArray) : Rest S (pe S.data.toList) (pt S.data.toList) := by
  unfold pe pt
  cases h : pk S.data.toList
  · exact .inl ⟨rfl, rfl⟩
  · have := txl_pv h
    refine .inr ⟨rfl, ?_, ck_yes this.2⟩
    show txt (pv _) = S
    unfold txt
    rw [this.1]
theorem str_same (S : ByteArray) : (S.toList == S.toList) = true := by simp

set_option maxRecDepth 100000 in
set_option maxHeartbeats 2000000 in
theorem tagBack_walk (t : Int × Int) (S : ByteArray) (w : World) (hb : S.size ≤ 140737488351232) :
    Calls Try.prog 10 #[tv t, .string S] w fun e w' => e = .returned (.bool true) ∧ Below w.heap.size w w' := by
  have HT := Lib.hid (text_any t)
  have HC := Lib.hid (check_new t)
  have HP := Lib.hid (parse_any S.data.toList S (ba_self S))
  have HPX := Lib.hid (parse_any (txl t) (txt t) rfl)
  have key : (ck t = 0 ∧ pt (txl t) = t ∧ pe (txl t) = 0 ∧ (txt t).size = 10) ∨ (ck t = 2 ∧ txt t = ⟨#[]⟩) := by
    cases h : rt t
    · exact .inr ⟨ck_no h, by unfold txt; rw [txl_no h]⟩
    · obtain ⟨h1, h2, h3⟩ := pt_txl h
      exact .inl ⟨ck_yes h, h1, h2, by unfold txt; simpa [ByteArray.size] using h3⟩
  have hrest := rest_of S
  have HTX := Lib.hid (text_any (pt S.data.toList))
  generalize pt S.data.toList = p at *
  generalize pe S.data.toList = E at *
  generalize txt t = X at *
  generalize ck t = K at *
  obtain ⟨t1, t2⟩ := t
  have hXX := str_same S
  rcases key with ⟨rfl, k1, k2, k3⟩ | ⟨rfl, rfl⟩
  · rw [k1, k2] at HPX
    have hX10 : ((X.size : Int) != 10) = false := by rw [k3]; rfl
    clear k1 k2 k3
    rcases hrest with ⟨rfl, rfl⟩ | ⟨rfl, h1, h2⟩
    all_goals try (rw [h1, h2] at HTX; clear h1 h2; obtain ⟨p1, p2⟩ := p)
    all_goals unfold tv at *
    all_goals clear hXX
    all_goals
      go_enter Try.func10, Try.ntmps10
      go_wp2_with fail
      refine (HT.out _).mono ?_
      rintro e w1 ⟨rfl, hb1⟩
      obtain ⟨hc1, hf1⟩ := bcell hb1
      have B1 := Lib.hid (((Below.refl w.heap.size w).alloc (Nat.le_refl _) (.cells #[.int .i64 t1, .int .i64 t2] 28)).trans (hb1.mono (by simp)))
      have hs1 := hb1.size
      simp at hs1
      have hs1a : w.heap.size < w1.heap.size := by omega
      go_wp2_with fail
      refine (HPX.out _).mono ?_
      rintro e w2 ⟨rfl, hb2⟩
      obtain ⟨hc2, hf2⟩ := bcell hb2
      have B2 := Lib.hid (B1.out.trans (hb2.mono B1.out.size))
      have hs2 := hb2.size
      have hs2a : w.heap.size < w2.heap.size := by omega
      go_wp2_with fail
      refine (HP.out _).mono ?_
      rintro e w3 ⟨rfl, hb3⟩
      have B3 := Lib.hid ((B2.out.alloc B2.out.size (.cells #[.int .i64 t1, .int .i64 t2] 28)).trans (hb3.mono (by have := B2.out.size; simp; omega)))
      go_wp2_with fail
    · refine (lives3_any _).mono ?_
      rintro e w5 ⟨rfl, hl⟩
      go_wp2_with fail
      go_ret
      exact ⟨rfl, (B3.out.alloc B3.out.size _).trans (hl.mono (by have := B3.out.size; simp; omega))⟩
    · refine (HTX.out _).mono ?_
      rintro e w4 ⟨rfl, hb4⟩
      have B4 := Lib.hid ((B3.out.alloc B3.out.size (.cells #[.int .i64 p1, .int .i64 p2] 28)).trans (hb4.mono (by have := B3.out.size; simp; omega)))
      go_wp2_with fail
      refine (lives3_any _).mono ?_
      rintro e w5 ⟨rfl, hl⟩
      go_wp2_with fail
      go_ret
      exact ⟨rfl, B4.out.trans (hl.mono B4.out.size)⟩
  · rcases hrest with ⟨rfl, rfl⟩ | ⟨rfl, h1, h2⟩
    all_goals try (rw [h1, h2] at HTX; clear h1 h2; obtain ⟨p1, p2⟩ := p)
    all_goals unfold tv at *
    all_goals clear hXX
    all_goals
      go_enter Try.func10, Try.ntmps10
      go_wp2_with fail
      refine (HT.out _).mono ?_
      rintro e w1 ⟨rfl, hb1⟩
      obtain ⟨hc1, hf1⟩ := bcell hb1
      have B1 := Lib.hid (((Below.refl w.heap.size w).alloc (Nat.le_refl _) (.cells #[.int .i64 t1, .int .i64 t2] 28)).trans (hb1.mono (by simp)))
      go_wp2_with fail
      refine (HC.out _).mono ?_
      rintro e w2 ⟨rfl, rfl⟩
      go_wp2_with fail
      refine (HP.out _).mono ?_
      rintro e w3 ⟨rfl, hb3⟩
      have B3 := Lib.hid ((B1.out.alloc B1.out.size (.cells #[.int .i64 t1, .int .i64 t2] 28)).trans (hb3.mono (by have := B1.out.size; simp; omega)))
      go_wp2_with fail
    · refine (lives3_any _).mono ?_
      rintro e w5 ⟨rfl, hl⟩
      go_wp2_with fail
      go_ret
      exact ⟨rfl, (B3.out.alloc B3.out.size _).trans (hl.mono (by have := B3.out.size; simp; omega))⟩
    · refine (HTX.out _).mono ?_
      rintro e w4 ⟨rfl, hb4⟩
      have B4 := Lib.hid ((B3.out.alloc B3.out.size (.cells #[.int .i64 p1, .int .i64 p2] 28)).trans (hb4.mono (by have := B3.out.size; simp; omega)))
      go_wp2_with fail
      refine (lives3_any _).mono ?_
      rintro e w5 ⟨rfl, hl⟩
      go_wp2_with fail
      go_ret
      exact ⟨rfl, B4.out.trans (hl.mono B4.out.size)⟩
end Go.Proofs.Ytcpnmbklkjdjlaa
