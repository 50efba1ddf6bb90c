/- Layer 16: small calls of reads; closures. -/
import Derived.Test.YtaebhbdmmnpgeaaRdA
import Derived.Test.YtaebhbdmmnpgeaaSpN
import Derived.Laws.Cover1
import Derived.Lib.MinMaxS
namespace Go.Proofs.Ytaebhbdmmnpgeaa
open Go.RowKit Go.Shelf
set_option linter.unusedVariables false
set_option linter.unusedSimpArgs false
set_option maxRecDepth 100000
attribute [local go_sem] Oper.semAt_some

theorem lt_tl (a b : ByteArray) : Op.bytesLess a.toList b.toList = lt14 a b := by rw [ByteArray.toList_eq, ByteArray.toList_eq]; rfl
theorem maxS_16 (a b : ByteArray) : Go.Lib.maxS a b = if lt14 a b then b else a := by
  unfold Go.Lib.maxS lt14
  rw [bytesLess_eq]
  by_cases h : a.data.toList < b.data.toList <;> simp [h]
theorem minS_16 (a b : ByteArray) : Go.Lib.minS a b = mn16 a b := by
  unfold Go.Lib.minS mn16
  by_cases h : lt14 b a = true
  · rw [if_pos h]
    refine if_neg ?_
    rintro (h2 | h2)
    · have h3 : lt14 a b = true := by unfold lt14; rw [bytesLess_eq]; simpa using h2
      have := lt14_trans h h3
      rw [lt14_self] at this
      cases this
    · rw [ba_ext h2, lt14_self] at h
      cases h
  · rw [if_neg h]
    refine if_pos ?_
    cases h2 : lt14 a b with
    | true =>
      left
      unfold lt14 at h2
      rw [bytesLess_eq] at h2
      simpa using h2
    | false => right; rw [lt14_eq h2 (by simpa using h)]
theorem has_16 (s : Pq2) (key : ByteArray) (w : World) :
    Calls Try.prog 131 #[.agg #[.string s.k, .string s.v], .string key] w fun e w' => e = .returned (.bool (win key s.k s.v)) ∧ Turn (fun _ => False) w w' := by
  obtain ⟨a, b⟩ := s
  simp only [win_def]
  have g1 := lt_tl key a
  have g2 := lt_tl key b
  have g3 : b.toList.isEmpty = em16 b := rfl
  generalize lt14 key a = c1 at *
  generalize lt14 key b = c2 at *
  generalize em16 b = c3 at *
  cases c1 <;> cases c2 <;> cases c3 <;>
  (go_enter Try.func131, Try.ntmps131
   go_wp2_with fail
   go_ret
   exact ⟨rfl, (Turn.refl _ _).alloc _⟩)
theorem some_16 (s : Pq2) (w : World) :
    Calls Try.prog 79 #[.agg #[.string s.k, .string s.v]] w fun e w' => e = .returned (.bool (some16 s)) ∧ Turn (fun _ => False) w w' := by
  obtain ⟨a, b⟩ := s
  unfold some16
  simp only
  have g1 := lt_tl a b
  have g3 : b.toList.isEmpty = em16 b := rfl
  generalize lt14 a b = c1 at *
  generalize em16 b = c3 at *
  cases c1 <;> cases c3 <;>
  (go_enter Try.func79, Try.ntmps79
   go_wp2_with fail
   go_ret
   exact ⟨rfl, (Turn.refl _ _).alloc _⟩)
theorem apart_16 (s x : Pq2) (w : World) :
    Calls Try.prog 86 #[.agg #[.string s.k, .string s.v], .agg #[.string x.k, .string x.v]] w fun e w' => e = .returned (.bool (apt16 s x)) ∧ Turn (fun _ => False) w w' := by
  obtain ⟨a, b⟩ := s
  obtain ⟨c, d⟩ := x
  unfold apt16
  simp only
  have g1 := lt_tl b c
  have g3 : b.toList.isEmpty = em16 b := rfl
  generalize lt14 b c = c1 at *
  generalize em16 b = c3 at *
  cases c1 <;> cases c3 <;>
  (go_enter Try.func86, Try.ntmps86
   go_wp2_with fail
   go_ret
   exact ⟨rfl, ((Turn.refl _ _).alloc _).alloc _⟩)
theorem further_16 (a b : ByteArray) (w : World) :
    Calls Try.prog 127 #[.string a, .string b] w fun e w' => e = .returned (.string (fur16 a b)) ∧ w = w' := by
  unfold fur16
  have hm := Go.Lib.run_max_strs (P := Try.prog) w #[9, 9] 9 a b
  rw [maxS_16] at hm
  have g1 := lt_tl a b
  have g2 : a.toList.isEmpty = em16 a := rfl
  have g3 : b.toList.isEmpty = em16 b := rfl
  generalize lt14 a b = c1 at *
  generalize em16 a = c2 at *
  generalize em16 b = c3 at *
  cases c1 <;> cases c2 <;> cases c3 <;>
  (go_enter Try.func127, Try.ntmps127
   go_wp2_with fail
   go_ret
   exact ⟨rfl, rfl⟩)
theorem within11_16 (s : Pq2) (key : ByteArray) (kb : Nat) (w : World) (hk : Blk w kb 9 [.string key]) :
    Calls Try.prog 130 #[.agg #[.string s.k, .string s.v], .pointer (some ⟨kb, 0, none⟩)] w fun e w' => e = .returned (.bool (win key s.k s.v)) ∧ Turn (fun _ => False) w w' := by
  have hlt := hk.lt
  have hc := (hk.alloc (.cells #[.string s.k, .string s.v] 73)).cell 0
  go_enter Try.func130, Try.ntmps130
  go_wp2_with (go_at_call 131; refine (has_16 s key _).mono ?_; rintro e w2 ⟨rfl, ht2⟩)
  go_ret
  exact ⟨rfl, ((Turn.refl _ _).alloc _).trans ht2⟩
set_option maxHeartbeats 4000000 in
theorem idxS_16 (S : List Pq2) (u : Value) (key : ByteArray) (kb : Nat) (w : World) (h : Px w u S) (hk : Blk w kb 9 [.string key]) :
    Calls Try.prog 138 #[u, .func (.func 130) #[] #[.pointer (some ⟨kb, 0, none⟩)]] w fun e w' => ∃ i : Int, e = .returned (.int .i64 i) ∧ decide (0 ≤ i) = spd16 S key ∧ Turn (fun _ => False) w w' := by
  obtain ⟨A, c, rfl, hl, hr⟩ := h
  obtain ⟨n, hn⟩ : ∃ n, S.length = n := ⟨_, rfl⟩
  have HN := Lib.hid hn
  have HR := Lib.hid hr
  have HK := Lib.hid hk
  rw [hn] at hl ⊢
  clear hn hr hk
  go_enter Try.func138, Try.ntmps138
  go_wp2_with fail
  go_loopw [5, 8] (fun _ v8 wr => ∃ i : Nat, i ≤ n ∧ v8 = .int .i64 i ∧ Hid (∀ (j : Nat) (y : Pq2), j < i → S[j]? = some y → win key y.k y.v = false) ∧ Turn (fun _ => False) w wr) (fun _ v8 _ => n - (intOf v8).toNat)
  case atStart => exact ⟨0, Nat.zero_le _, rfl, Lib.hid (fun j y hj => by omega), Turn.refl _ _⟩
  case round =>
    obtain ⟨i, hi, rfl, HNO, ht⟩ := hrel
    obtain ⟨wx, rfl⟩ : ∃ W, W = wr := ⟨_, rfl⟩
    have TT := Lib.hid ht
    by_cases hlt : i < n
    · have hl1 : (i : Int) < (n : Int) := by omega
      have hl0 : (0 : Int) ≤ (i : Int) := by omega
      have hq := wrap_of ((i : Int) + 1) (by omega) (by omega)
      obtain ⟨y, hy⟩ : ∃ y, S[i]? = some y := ⟨_, List.getElem?_eq_getElem (by rw [HN.out]; exact hlt)⟩
      have HY := Lib.hid hy
      obtain ⟨b, o, rfl, hb, hc⟩ := HR.out (by rw [flat_len pc2_len, HN.out]; omega)
      have hcx : ∀ k, wx.cell? ⟨b, k, none⟩ = w.cell? ⟨b, k, none⟩ := fun k => World.cell?_of_block (w := w) (a := ⟨b, k, none⟩) (ht.block b hb (fun h => h))
      have c0 := hc _ _ (flat_at pc2_len S i 0 y hy (by decide))
      have c1 := hc _ _ (flat_at pc2_len S i 1 y hy (by decide))
      rw [← hcx] at c0 c1
      have HFF := Lib.hid (fun W hW => within11_16 y key kb W hW)
      have HKX := Lib.hid (HK.out.turn ht (fun h => h))
      obtain ⟨yk, yv⟩ := y
      simp only [Nat.add_zero] at c0 c1 HFF
      rw [← Nat.add_assoc] at c1
      clear hy hb hc hcx ht
      cases hbg : win key yk yv with
      | true =>
        rw [hbg] at HFF
        have HBG : Hid (spd16 S key = true) := Lib.hid (List.any_eq_true.2 ⟨_, List.mem_of_getElem? HY.out, hbg⟩)
        clear hbg
        go_wp2_with (go_at_call 130; refine (HFF.out _ HKX.out).mono ?_; rintro e w2 ⟨rfl, ht2⟩; have T2 := Lib.hid (TT.out.trans ht2); clear ht2)
        go_ret
        exact ⟨_, rfl, by rw [HBG.out]; simp, T2.out⟩
      | false =>
        rw [hbg] at HFF
        have HN2 : Hid (∀ (j : Nat) (y : Pq2), j < i + 1 → S[j]? = some y → win key y.k y.v = false) := Lib.hid (fun j y hj hy => by
          by_cases h : j < i
          · exact HNO.out j y h hy
          · obtain rfl : j = i := by omega
            rw [HY.out] at hy
            cases hy
            exact hbg)
        clear hbg
        go_wp2_with (go_at_call 130; refine (HFF.out _ HKX.out).mono ?_; rintro e w2 ⟨rfl, ht2⟩; have T2 := Lib.hid (TT.out.trans ht2); clear ht2)
        go_roundw
        case rel => exact ⟨i + 1, by omega, by simp [hq], HN2, T2.out⟩
        case measure => simp [intOf, hq]; omega
    · obtain rfl : i = n := by omega
      have HE : Hid (spd16 S key = false) := Lib.hid (any_none_ (fun j y hj hy => HNO.out j y (by rw [← HN.out]; exact hj) hy))
      go_wp2_with fail
      go_ret
      exact ⟨_, rfl, by rw [HE.out]; simp, TT.out⟩
end Go.Proofs.Ytaebhbdmmnpgeaa
