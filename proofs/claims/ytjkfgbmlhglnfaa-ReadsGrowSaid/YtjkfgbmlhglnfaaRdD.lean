/- Layer 16: Check. -/
import Derived.Test.YtjkfgbmlhglnfaaRdC
namespace Go.Proofs.Ytjkfgbmlhglnfaa
open Go.RowKit Go.Shelf
set_option linter.unusedVariables false
set_option linter.unusedSimpArgs false
set_option maxRecDepth 100000
attribute [local go_sem] Oper.semAt_some

theorem cells2b16 {W : World} {q t : Nat} {u0 u1 : Value} (h : Blk W q t [u0, u1]) : W.cell? ⟨q, 0, none⟩ = some u0 ∧ W.cell? ⟨q, 1, none⟩ = some u1 := ⟨h.cell 0, h.cell 1⟩
/-- Right reads. -/
def Rgt16 (K : List ByteArray) (S : List Pq2) : Prop := (K.length ≤ 64 ∧ S.length ≤ 64) ∧ Spo16 S ∧ Kup K ∧ ∀ k ∈ K, spd16 S k = false
open Classical in
noncomputable def rgb16 (K : List ByteArray) (S : List Pq2) : Bool := decide (Rgt16 K S)
theorem rgb_yes {K : List ByteArray} {S : List Pq2} (h : Rgt16 K S) : rgb16 K S = true := by unfold rgb16; simpa using h
theorem rgb_no {K : List ByteArray} {S : List Pq2} (h : ¬ Rgt16 K S) : rgb16 K S = false := by unfold rgb16; simpa using h
theorem rgb_iff {K : List ByteArray} {S : List Pq2} : rgb16 K S = true ↔ Rgt16 K S := by unfold rgb16; simp
theorem spo_of {S : List Pq2} (h1 : ∀ s ∈ S, some16 s = true) (h2 : ∀ (j : Nat) (x y : Pq2), S[j]? = some x → S[j + 1]? = some y → apt16 x y = true) : Spo16 S := by
  refine ⟨h1, ?_⟩
  have hs : ∀ d i a b, S[i]? = some a → S[i + d + 1]? = some b → apt16 a b = true := by
    intro d
    induction d with
    | zero => exact fun i a b ha hb => h2 i a b ha hb
    | succ d ih =>
      intro i a b ha hb
      have hl := (List.getElem?_eq_some_iff.1 hb).1
      obtain ⟨c, hc⟩ : ∃ c, S[i + d + 1]? = some c := ⟨_, List.getElem?_eq_getElem (by omega)⟩
      exact apt_trans (h1 c (List.mem_of_getElem? hc)) (ih i a c ha hc) (h2 _ c b hc hb)
  refine List.pairwise_iff_getElem.2 (fun i j hi hj hij => ?_)
  obtain ⟨d, rfl⟩ : ∃ d, j = i + d + 1 := ⟨j - i - 1, by omega⟩
  exact hs d i _ _ (List.getElem?_eq_getElem hi) (List.getElem?_eq_getElem hj)
theorem kup_of {K : List ByteArray} (h2 : ∀ (j : Nat) (x y : ByteArray), K[j]? = some x → K[j + 1]? = some y → lt14 x y = true) : Kup K := by
  have hs : ∀ d i a b, K[i]? = some a → K[i + d + 1]? = some b → lt14 a b = true := by
    intro d
    induction d with
    | zero => exact fun i a b ha hb => h2 i a b ha hb
    | succ d ih =>
      intro i a b ha hb
      have hl := (List.getElem?_eq_some_iff.1 hb).1
      obtain ⟨c, hc⟩ : ∃ c, K[i + d + 1]? = some c := ⟨_, List.getElem?_eq_getElem (by omega)⟩
      exact lt14_trans (ih i a c ha hc) (h2 _ c b hc hb)
  refine List.pairwise_iff_getElem.2 (fun i j hi hj hij => ?_)
  obtain ⟨d, rfl⟩ : ∃ d, j = i + d + 1 := ⟨j - i - 1, by omega⟩
  exact hs d i _ _ (List.getElem?_eq_getElem hi) (List.getElem?_eq_getElem hj)
theorem Spo16.at_ {S : List Pq2} (h : Spo16 S) {j : Nat} {x y : Pq2} (h1 : S[j]? = some x) (h2 : S[j + 1]? = some y) : apt16 x y = true := by
  have l1 := (List.getElem?_eq_some_iff.1 h1)
  have l2 := (List.getElem?_eq_some_iff.1 h2)
  have := List.pairwise_iff_getElem.1 h.2 j (j + 1) l1.1 l2.1 (by omega)
  rw [l1.2, l2.2] at this
  exact this
theorem Kup.at_ {K : List ByteArray} (h : Kup K) {j : Nat} {x y : ByteArray} (h1 : K[j]? = some x) (h2 : K[j + 1]? = some y) : lt14 x y = true := by
  have l1 := (List.getElem?_eq_some_iff.1 h1)
  have l2 := (List.getElem?_eq_some_iff.1 h2)
  have := List.pairwise_iff_getElem.1 h j (j + 1) l1.1 l2.1 (by omega)
  rw [l1.2, l2.2] at this
  exact this
/-- A span's cells, wherever it stands. -/
theorem Px.cells {w : World} {A : Option Addr} {n c : Nat} {S : List Pq2} (h : Px w (.slice A n c) S) (hp : 0 < S.length) : ∃ b o, A = some ⟨b, o, none⟩ ∧ ∀ X, Turn (fun _ => False) w X → ∀ (j : Nat) (x : Pq2), S[j]? = some x → X.cell? ⟨b, o + j * 2, none⟩ = some (.string x.k) ∧ X.cell? ⟨b, o + j * 2 + 1, none⟩ = some (.string x.v) := by
  obtain ⟨A', c', e, hl, hr⟩ := h
  injection e with e1 _ _
  subst e1
  obtain ⟨b, o, rfl, hb, hc⟩ := hr (by rw [flat_len pc2_len]; omega)
  refine ⟨b, o, rfl, fun X hX j x hx => ?_⟩
  have hcx : ∀ k, X.cell? ⟨b, k, none⟩ = w.cell? ⟨b, k, none⟩ := fun k => World.cell?_of_block (w := w) (a := ⟨b, k, none⟩) (hX.block b hb (fun h => h))
  have c0 := hc _ _ (flat_at pc2_len S j 0 x hx (by decide))
  have c1 := hc _ _ (flat_at pc2_len S j 1 x hx (by decide))
  rw [hcx, hcx]
  rw [← Nat.add_assoc] at c1
  exact ⟨c0, c1⟩
theorem Kx.cells {w : World} {A : Option Addr} {n c : Nat} {K : List ByteArray} (h : Kx w (.slice A n c) K) (hp : 0 < K.length) : ∃ b o, A = some ⟨b, o, none⟩ ∧ ∀ X, Turn (fun _ => False) w X → ∀ (j : Nat) (x : ByteArray), K[j]? = some x → X.cell? ⟨b, o + j, none⟩ = some (.string x) := by
  obtain ⟨A', c', e, hl, hr⟩ := h
  injection e with e1 _ _
  subst e1
  obtain ⟨b, o, rfl, hb, hc⟩ := hr (by rw [List.length_map]; omega)
  refine ⟨b, o, rfl, fun X hX j x hx => ?_⟩
  rw [World.cell?_of_block (w := w) (a := ⟨b, o + j, none⟩) (hX.block b hb (fun h => h))]
  exact hc j _ (by rw [List.getElem?_map, hx]; rfl)
theorem ba_le {a b : ByteArray} : Op.bytesLess a.toList b.toList = lt14 a b := lt_tl a b
set_option maxHeartbeats 8000000 in
theorem check_16 (K : List ByteArray) (S : List Pq2) (A1 : Option Addr) (n1 c1 : Nat) (A2 : Option Addr) (n2 c2 : Nat) (w : World) (hk : Kx w (.slice A1 n1 c1) K) (hs : Px w (.slice A2 n2 c2) S) :
    Calls Try.prog 23 #[.agg #[.slice A1 n1 c1, .slice A2 n2 c2]] w fun e w' => e = .returned (.int .i64 (if rgb16 K S then 0 else 4)) ∧ Turn (fun _ => False) w w' := by
  have HN1 : Hid (K.length = n1) := Lib.hid (by obtain ⟨_, _, e, _⟩ := id hk; injection e with _ e _; exact e.symm)
  have HN2 : Hid (S.length = n2) := Lib.hid (by obtain ⟨_, _, e, _⟩ := id hs; injection e with _ e _; exact e.symm)
  have HK := Lib.hid hk
  have HS := Lib.hid hs
  obtain ⟨R, hR⟩ : ∃ R : Int, (if rgb16 K S then 0 else 4) = R := ⟨_, rfl⟩
  rw [hR]
  have HRR := Lib.hid hR
  clear hk hs hR
  have hno : ¬ Rgt16 K S → R = 4 := fun h => by rw [← HRR.out, rgb_no h]; rfl
  have HRN := Lib.hid hno
  clear hno
  obtain ⟨W1, hW1⟩ : ∃ W, w.alloc (.cells #[.slice A1 n1 c1, .slice A2 n2 c2] 46) = W := ⟨_, rfl⟩
  have T1 : Hid (Turn (fun _ => False) w W1) := Lib.hid (hW1 ▸ (Turn.refl _ _).alloc _)
  have B1 : Hid (Blk W1 w.heap.size 46 [.slice A1 n1 c1, .slice A2 n2 c2]) := Lib.hid (hW1 ▸ Blk.new _ _ _)
  obtain ⟨x0, x1⟩ := cells2b16 B1.out
  by_cases hbig : (64 : Int) < (n1 : Int) ∨ (64 : Int) < (n2 : Int)
  · have HNO := Lib.hid (HRN.out (fun h => by have := HN1.out; have := HN2.out; have := h.1; omega))
    rw [HNO.out]
    rcases hbig with hb | hb
    · go_enter Try.func23, Try.ntmps23
      go_wp2_with fail
      go_ret
      exact ⟨rfl, T1.out⟩
    · by_cases hb1 : (64 : Int) < (n1 : Int)
      all_goals go_enter Try.func23, Try.ntmps23
      all_goals go_wp2_with fail
      all_goals go_ret
      all_goals exact ⟨rfl, T1.out⟩
  · have hb1 : ¬ (64 : Int) < (n1 : Int) := by omega
    have hb2 : ¬ (64 : Int) < (n2 : Int) := by omega
    have HLN : Hid (K.length ≤ 64 ∧ S.length ≤ 64) := Lib.hid (by have := HN1.out; have := HN2.out; omega)
    clear hbig
    go_enter Try.func23, Try.ntmps23
    go_wp2_with fail
    go_loopw [20] (fun v wr => ∃ i : Nat, i ≤ n2 ∧ v = .int .i64 i ∧ Hid (∀ (j : Nat) (y : Pq2), j < i → S[j]? = some y → some16 y = true ∧ ∀ x, 0 < j → S[j - 1]? = some x → apt16 x y = true) ∧ Turn (fun _ => False) W1 wr) (fun v _ => n2 - (intOf v).toNat)
    case atStart => exact ⟨0, Nat.zero_le _, rfl, Lib.hid (fun j y hj => by omega), Turn.refl _ _⟩
    case round =>
      obtain ⟨i, hi, rfl, HOK, ht⟩ := hrel
      obtain ⟨wx, rfl⟩ : ∃ W, W = wr := ⟨_, rfl⟩
      have TT := Lib.hid ht
      clear ht
      by_cases hlt : i < n2
      · have hl1 : (i : Int) < (n2 : Int) := by omega
        have hl0 : (0 : Int) ≤ (i : Int) := by omega
        have hq := wrap_of ((i : Int) + 1) (by omega) (by omega)
        obtain ⟨y, hy⟩ : ∃ y, S[i]? = some y := ⟨_, List.getElem?_eq_getElem (by rw [HN2.out]; exact hlt)⟩
        have HY := Lib.hid hy
        obtain ⟨b, o, rfl, hcs⟩ := HS.out.cells (by rw [HN2.out]; omega)
        have HCS := Lib.hid hcs
        obtain ⟨c0, c1x⟩ := hcs wx (T1.out.trans TT.out) i y hy
        clear hcs hy
        obtain ⟨yk, yv⟩ := y
        simp only at c0 c1x
        obtain ⟨wz, hwz⟩ : ∃ W, wx.alloc (.cells #[.string yk, .string yv] 59) = W := ⟨_, rfl⟩
        have TZ : Hid (Turn (fun _ => False) W1 wz) := Lib.hid (hwz ▸ TT.out.alloc _)
        have B4 : Hid (Blk wz wx.heap.size 59 [.string yk, .string yv]) := Lib.hid (hwz ▸ Blk.new _ _ _)
        go_upto_region 6 with fail
        cases hso : some16 ⟨yk, yv⟩ with
        | false =>
          have HSO := Lib.hid (fun W => by have := some_16 ⟨yk, yv⟩ W; rw [hso] at this; exact this)
          have HNO := Lib.hid (HRN.out (fun h => by
            have := h.2.1.1 _ (List.mem_of_getElem? HY.out)
            rw [hso] at this; cases this))
          clear hso
          have T0 : Hid (Turn (fun _ => False) wz wz.drew) := Lib.hid (Turn.refl _ _).drew
          refine wp_region_noPanic ?_
          refine wp_region_held_drew (S := (fun X => Turn (fun _ => False) wz X)) (by kernel_rfl) T0.out (fun hHeld => ?_)
          clear hHeld
          refine wpAnyH_take (i := 0) (v := ?_) rfl (by kernel_rfl) (by kernel_rfl) (by kernel_rfl) (fun _ _ _ h => h) (Or.inl ⟨by rfl, ?_⟩) (by assumption) ?_
          rotate_left 1
          · intro w' hSw
            obtain ⟨z0, z1⟩ := cells2b16 (B4.out.turn hSw (fun h => h))
            go_simp
            all_goals first | with_reducible rfl | (rw [if_neg (by omega)]; done) | (rw [if_pos (by omega)]; done)
          try simp only [List.getElem_toArray, List.getElem_cons_zero, List.getElem_cons_succ, Act.put, List.setIfInBounds_toArray, List.set_cons_zero, List.set_cons_succ]
          refine wpAnyH_ready (rs := [1]) (by kernel_rfl) (by simp) ?_
          refine AllReadyH.cons rfl (fun K hK => ?_) AllReadyH.nil
          refine step_call_on 59 Try.f59 _ _ rfl Try.func59 (by kernel_rfl) (by kernel_rfl) _ _ ((HSO.out _).mono fun e W' h => (⟨_, h.1, rfl, h.2⟩ : ∃ v, e = .returned v ∧ v = _ ∧ Turn (fun _ => False) _ W')) (by go_simp) (by rfl) ?_
          rintro v9 w6 ⟨rfl, ht9⟩
          have T6 := Lib.hid (T0.out.trans ht9)
          clear ht9
          refine hK.out _ _ T6.out (fun hHeld => ?_)
          clear hHeld hK K
          try simp only [List.getElem_toArray, List.getElem_cons_zero, List.getElem_cons_succ, Act.put, List.setIfInBounds_toArray, List.set_cons_zero, List.set_cons_succ]
          refine wpAnyH_take (i := 2) (v := .bool true) rfl (by kernel_rfl) (by kernel_rfl) (by kernel_rfl) (fun _ _ _ h => h) (Or.inl ⟨by rfl, ?_⟩) (by assumption) ?_
          · intro w' hSw
            go_simp
            all_goals first | (simp; done) | with_reducible rfl | (rw [if_neg (by omega)]; done) | (rw [if_pos (by omega)]; done)
          try simp only [List.getElem_toArray, List.getElem_cons_zero, List.getElem_cons_succ, Act.put, List.setIfInBounds_toArray, List.set_cons_zero, List.set_cons_succ]
          refine wpAnyH_take (i := 3) (v := ?_) rfl (by kernel_rfl) (by kernel_rfl) (by kernel_rfl) (fun _ _ _ h => h) (Or.inl ⟨by rfl, ?_⟩) (by assumption) ?_
          rotate_left 1
          · intro w' hSw
            go_simp
            all_goals first | with_reducible rfl | (rw [if_neg (by omega)]; done) | (rw [if_pos (by omega)]; done)
          try simp only [List.getElem_toArray, List.getElem_cons_zero, List.getElem_cons_succ, Act.put, List.setIfInBounds_toArray, List.set_cons_zero, List.set_cons_succ]
          refine wpAnyH_take (i := 4) (v := undef) rfl (by kernel_rfl) (by kernel_rfl) (by kernel_rfl) (fun _ _ _ h => h) (Or.inr ⟨by rfl, rfl⟩) (by assumption) ?_
          try simp only [List.getElem_toArray, List.getElem_cons_zero, List.getElem_cons_succ, Act.put, List.setIfInBounds_toArray, List.set_cons_zero, List.set_cons_succ]
          refine wpAnyH_take (i := 5) (v := undef) rfl (by kernel_rfl) (by kernel_rfl) (by kernel_rfl) (fun _ _ _ h => h) (Or.inr ⟨by rfl, rfl⟩) (by assumption) ?_
          try simp only [List.getElem_toArray, List.getElem_cons_zero, List.getElem_cons_succ, Act.put, List.setIfInBounds_toArray, List.set_cons_zero, List.set_cons_succ]
          refine wpAnyH_take (i := 6) (v := undef) rfl (by kernel_rfl) (by kernel_rfl) (by kernel_rfl) (fun _ _ _ h => h) (Or.inr ⟨by rfl, rfl⟩) (by assumption) ?_
          try simp only [List.getElem_toArray, List.getElem_cons_zero, List.getElem_cons_succ, Act.put, List.setIfInBounds_toArray, List.set_cons_zero, List.set_cons_succ]
          refine wpAnyH_take (i := 7) (v := undef) rfl (by kernel_rfl) (by kernel_rfl) (by kernel_rfl) (fun _ _ _ h => h) (Or.inr ⟨by rfl, rfl⟩) (by assumption) ?_
          try simp only [List.getElem_toArray, List.getElem_cons_zero, List.getElem_cons_succ, Act.put, List.setIfInBounds_toArray, List.set_cons_zero, List.set_cons_succ]
          refine wpAnyH_take (i := 8) (v := undef) rfl (by kernel_rfl) (by kernel_rfl) (by kernel_rfl) (fun _ _ _ h => h) (Or.inr ⟨by rfl, rfl⟩) (by assumption) ?_
          try simp only [List.getElem_toArray, List.getElem_cons_zero, List.getElem_cons_succ, Act.put, List.setIfInBounds_toArray, List.set_cons_zero, List.set_cons_succ]
          refine wpAnyH_take (i := 9) (v := undef) rfl (by kernel_rfl) (by kernel_rfl) (by kernel_rfl) (fun _ _ _ h => h) (Or.inr ⟨by rfl, rfl⟩) (by assumption) ?_
          try simp only [List.getElem_toArray, List.getElem_cons_zero, List.getElem_cons_succ, Act.put, List.setIfInBounds_toArray, List.set_cons_zero, List.set_cons_succ]
          refine wpAnyH_take (i := 10) (v := undef) rfl (by kernel_rfl) (by kernel_rfl) (by kernel_rfl) (fun _ _ _ h => h) (Or.inr ⟨by rfl, rfl⟩) (by assumption) ?_
          try simp only [List.getElem_toArray, List.getElem_cons_zero, List.getElem_cons_succ, Act.put, List.setIfInBounds_toArray, List.set_cons_zero, List.set_cons_succ]
          refine wpAnyH_take (i := 11) (v := undef) rfl (by kernel_rfl) (by kernel_rfl) (by kernel_rfl) (fun _ _ _ h => h) (Or.inr ⟨by rfl, rfl⟩) (by assumption) ?_
          try simp only [List.getElem_toArray, List.getElem_cons_zero, List.getElem_cons_succ, Act.put, List.setIfInBounds_toArray, List.set_cons_zero, List.set_cons_succ]
          refine wpAnyH_take (i := 12) (v := undef) rfl (by kernel_rfl) (by kernel_rfl) (by kernel_rfl) (fun _ _ _ h => h) (Or.inr ⟨by rfl, rfl⟩) (by assumption) ?_
          try simp only [List.getElem_toArray, List.getElem_cons_zero, List.getElem_cons_succ, Act.put, List.setIfInBounds_toArray, List.set_cons_zero, List.set_cons_succ]
          refine wpAnyH_take (i := 13) (v := undef) rfl (by kernel_rfl) (by kernel_rfl) (by kernel_rfl) (fun _ _ _ h => h) (Or.inr ⟨by rfl, rfl⟩) (by assumption) ?_
          try simp only [List.getElem_toArray, List.getElem_cons_zero, List.getElem_cons_succ, Act.put, List.setIfInBounds_toArray, List.set_cons_zero, List.set_cons_succ]
          refine wpAnyH_take (i := 14) (v := undef) rfl (by kernel_rfl) (by kernel_rfl) (by kernel_rfl) (fun _ _ _ h => h) (Or.inr ⟨by rfl, rfl⟩) (by assumption) ?_
          try simp only [List.getElem_toArray, List.getElem_cons_zero, List.getElem_cons_succ, Act.put, List.setIfInBounds_toArray, List.set_cons_zero, List.set_cons_succ]
          refine wpAnyH_take (i := 15) (v := undef) rfl (by kernel_rfl) (by kernel_rfl) (by kernel_rfl) (fun _ _ _ h => h) (Or.inr ⟨by rfl, rfl⟩) (by assumption) ?_
          try simp only [List.getElem_toArray, List.getElem_cons_zero, List.getElem_cons_succ, Act.put, List.setIfInBounds_toArray, List.set_cons_zero, List.set_cons_succ]
          refine wpAnyH_take (i := 16) (v := undef) rfl (by kernel_rfl) (by kernel_rfl) (by kernel_rfl) (fun _ _ _ h => h) (Or.inr ⟨by rfl, rfl⟩) (by assumption) ?_
          try simp only [List.getElem_toArray, List.getElem_cons_zero, List.getElem_cons_succ, Act.put, List.setIfInBounds_toArray, List.set_cons_zero, List.set_cons_succ]
          refine wpAnyH_take (i := 17) (v := ?_) rfl (by kernel_rfl) (by kernel_rfl) (by kernel_rfl) (fun _ _ _ h => h) (Or.inl ⟨by rfl, ?_⟩) (by assumption) ?_
          rotate_left 1
          · intro w' hSw
            go_simp
            all_goals first | with_reducible rfl | (rw [if_neg (by omega)]; done) | (rw [if_pos (by omega)]; done)
          try simp only [List.getElem_toArray, List.getElem_cons_zero, List.getElem_cons_succ, Act.put, List.setIfInBounds_toArray, List.set_cons_zero, List.set_cons_succ]
          refine wpAnyH_done (by kernel_rfl) ?_ _
          refine NoPanic.normal ?_
          go_wp2_with fail
          go_ret
          exact ⟨by rw [HNO.out]; rfl, T1.out.trans (TZ.out.trans T6.out)⟩
        | true =>
          have HSO := Lib.hid (fun W => by have := some_16 ⟨yk, yv⟩ W; rw [hso] at this; exact this)
          have HSY := Lib.hid hso
          clear hso
          by_cases hip : i = 0
          · have HI0 := Lib.hid hip
            have hp0 : ¬ (0 : Int) < (i : Int) := by omega
            have HOK2 : Hid (∀ (j : Nat) (y : Pq2), j < i + 1 → S[j]? = some y → some16 y = true ∧ ∀ x, 0 < j → S[j - 1]? = some x → apt16 x y = true) := Lib.hid (fun j z hj hz => by
              obtain rfl : j = i := by omega
              rw [HY.out] at hz
              cases hz
              exact ⟨HSY.out, fun x h => by omega⟩)
            clear hip
            have T0 : Hid (Turn (fun _ => False) wz wz.drew) := Lib.hid (Turn.refl _ _).drew
            refine wp_region_noPanic ?_
            refine wp_region_held_drew (S := (fun X => Turn (fun _ => False) wz X)) (by kernel_rfl) T0.out (fun hHeld => ?_)
            clear hHeld
            refine wpAnyH_take (i := 0) (v := ?_) rfl (by kernel_rfl) (by kernel_rfl) (by kernel_rfl) (fun _ _ _ h => h) (Or.inl ⟨by rfl, ?_⟩) (by assumption) ?_
            rotate_left 1
            · intro w' hSw
              obtain ⟨z0, z1⟩ := cells2b16 (B4.out.turn hSw (fun h => h))
              go_simp
              all_goals first | with_reducible rfl | (rw [if_neg (by omega)]; done) | (rw [if_pos (by omega)]; done)
            try simp only [List.getElem_toArray, List.getElem_cons_zero, List.getElem_cons_succ, Act.put, List.setIfInBounds_toArray, List.set_cons_zero, List.set_cons_succ]
            refine wpAnyH_ready (rs := [1]) (by kernel_rfl) (by simp) ?_
            refine AllReadyH.cons rfl (fun K hK => ?_) AllReadyH.nil
            refine step_call_on 59 Try.f59 _ _ rfl Try.func59 (by kernel_rfl) (by kernel_rfl) _ _ ((HSO.out _).mono fun e W' h => (⟨_, h.1, rfl, h.2⟩ : ∃ v, e = .returned v ∧ v = _ ∧ Turn (fun _ => False) _ W')) (by go_simp) (by rfl) ?_
            rintro v9 w6 ⟨rfl, ht9⟩
            have T6 := Lib.hid (T0.out.trans ht9)
            clear ht9
            refine hK.out _ _ T6.out (fun hHeld => ?_)
            clear hHeld hK K
            try simp only [List.getElem_toArray, List.getElem_cons_zero, List.getElem_cons_succ, Act.put, List.setIfInBounds_toArray, List.set_cons_zero, List.set_cons_succ]
            refine wpAnyH_take (i := 2) (v := .bool false) rfl (by kernel_rfl) (by kernel_rfl) (by kernel_rfl) (fun _ _ _ h => h) (Or.inl ⟨by rfl, ?_⟩) (by assumption) ?_
            · intro w' hSw
              go_simp
              all_goals first | (simp; done) | with_reducible rfl | (rw [if_neg (by omega)]; done) | (rw [if_pos (by omega)]; done)
            try simp only [List.getElem_toArray, List.getElem_cons_zero, List.getElem_cons_succ, Act.put, List.setIfInBounds_toArray, List.set_cons_zero, List.set_cons_succ]
            refine wpAnyH_take (i := 3) (v := ?_) rfl (by kernel_rfl) (by kernel_rfl) (by kernel_rfl) (fun _ _ _ h => h) (Or.inl ⟨by rfl, ?_⟩) (by assumption) ?_
            rotate_left 1
            · intro w' hSw
              go_simp
              all_goals first | with_reducible rfl | (rw [if_neg (by omega)]; done) | (rw [if_pos (by omega)]; done)
            try simp only [List.getElem_toArray, List.getElem_cons_zero, List.getElem_cons_succ, Act.put, List.setIfInBounds_toArray, List.set_cons_zero, List.set_cons_succ]
            refine wpAnyH_take (i := 4) (v := ?_) rfl (by kernel_rfl) (by kernel_rfl) (by kernel_rfl) (fun _ _ _ h => h) (Or.inl ⟨by rfl, ?_⟩) (by assumption) ?_
            rotate_left 1
            · intro w' hSw
              go_simp
              all_goals first | with_reducible rfl | (rw [if_neg (by omega)]; done) | (rw [if_pos (by omega)]; done)
            try simp only [List.getElem_toArray, List.getElem_cons_zero, List.getElem_cons_succ, Act.put, List.setIfInBounds_toArray, List.set_cons_zero, List.set_cons_succ]
            refine wpAnyH_take (i := 5) (v := .bool false) rfl (by kernel_rfl) (by kernel_rfl) (by kernel_rfl) (fun _ _ _ h => h) (Or.inl ⟨by rfl, ?_⟩) (by assumption) ?_
            · intro w' hSw
              go_simp
              all_goals first | (simp [HI0.out]; done) | (simp; exact HI0.out) | with_reducible rfl | (rw [if_neg (by omega)]; done) | (rw [if_pos (by omega)]; done)
            try simp only [List.getElem_toArray, List.getElem_cons_zero, List.getElem_cons_succ, Act.put, List.setIfInBounds_toArray, List.set_cons_zero, List.set_cons_succ]
            refine wpAnyH_take (i := 6) (v := ?_) rfl (by kernel_rfl) (by kernel_rfl) (by kernel_rfl) (fun _ _ _ h => h) (Or.inl ⟨by rfl, ?_⟩) (by assumption) ?_
            rotate_left 1
            · intro w' hSw
              go_simp
              all_goals first | with_reducible rfl | (rw [if_neg (by omega)]; done) | (rw [if_pos (by omega)]; done)
            try simp only [List.getElem_toArray, List.getElem_cons_zero, List.getElem_cons_succ, Act.put, List.setIfInBounds_toArray, List.set_cons_zero, List.set_cons_succ]
            refine wpAnyH_take (i := 7) (v := undef) rfl (by kernel_rfl) (by kernel_rfl) (by kernel_rfl) (fun _ _ _ h => h) (Or.inr ⟨by rfl, rfl⟩) (by assumption) ?_
            try simp only [List.getElem_toArray, List.getElem_cons_zero, List.getElem_cons_succ, Act.put, List.setIfInBounds_toArray, List.set_cons_zero, List.set_cons_succ]
            refine wpAnyH_take (i := 8) (v := undef) rfl (by kernel_rfl) (by kernel_rfl) (by kernel_rfl) (fun _ _ _ h => h) (Or.inr ⟨by rfl, rfl⟩) (by assumption) ?_
            try simp only [List.getElem_toArray, List.getElem_cons_zero, List.getElem_cons_succ, Act.put, List.setIfInBounds_toArray, List.set_cons_zero, List.set_cons_succ]
            refine wpAnyH_take (i := 9) (v := undef) rfl (by kernel_rfl) (by kernel_rfl) (by kernel_rfl) (fun _ _ _ h => h) (Or.inr ⟨by rfl, rfl⟩) (by assumption) ?_
            try simp only [List.getElem_toArray, List.getElem_cons_zero, List.getElem_cons_succ, Act.put, List.setIfInBounds_toArray, List.set_cons_zero, List.set_cons_succ]
            refine wpAnyH_take (i := 10) (v := undef) rfl (by kernel_rfl) (by kernel_rfl) (by kernel_rfl) (fun _ _ _ h => h) (Or.inr ⟨by rfl, rfl⟩) (by assumption) ?_
            try simp only [List.getElem_toArray, List.getElem_cons_zero, List.getElem_cons_succ, Act.put, List.setIfInBounds_toArray, List.set_cons_zero, List.set_cons_succ]
            refine wpAnyH_take (i := 11) (v := undef) rfl (by kernel_rfl) (by kernel_rfl) (by kernel_rfl) (fun _ _ _ h => h) (Or.inr ⟨by rfl, rfl⟩) (by assumption) ?_
            try simp only [List.getElem_toArray, List.getElem_cons_zero, List.getElem_cons_succ, Act.put, List.setIfInBounds_toArray, List.set_cons_zero, List.set_cons_succ]
            refine wpAnyH_take (i := 12) (v := undef) rfl (by kernel_rfl) (by kernel_rfl) (by kernel_rfl) (fun _ _ _ h => h) (Or.inr ⟨by rfl, rfl⟩) (by assumption) ?_
            try simp only [List.getElem_toArray, List.getElem_cons_zero, List.getElem_cons_succ, Act.put, List.setIfInBounds_toArray, List.set_cons_zero, List.set_cons_succ]
            refine wpAnyH_take (i := 13) (v := undef) rfl (by kernel_rfl) (by kernel_rfl) (by kernel_rfl) (fun _ _ _ h => h) (Or.inr ⟨by rfl, rfl⟩) (by assumption) ?_
            try simp only [List.getElem_toArray, List.getElem_cons_zero, List.getElem_cons_succ, Act.put, List.setIfInBounds_toArray, List.set_cons_zero, List.set_cons_succ]
            refine wpAnyH_take (i := 14) (v := undef) rfl (by kernel_rfl) (by kernel_rfl) (by kernel_rfl) (fun _ _ _ h => h) (Or.inr ⟨by rfl, rfl⟩) (by assumption) ?_
            try simp only [List.getElem_toArray, List.getElem_cons_zero, List.getElem_cons_succ, Act.put, List.setIfInBounds_toArray, List.set_cons_zero, List.set_cons_succ]
            refine wpAnyH_take (i := 15) (v := undef) rfl (by kernel_rfl) (by kernel_rfl) (by kernel_rfl) (fun _ _ _ h => h) (Or.inr ⟨by rfl, rfl⟩) (by assumption) ?_
            try simp only [List.getElem_toArray, List.getElem_cons_zero, List.getElem_cons_succ, Act.put, List.setIfInBounds_toArray, List.set_cons_zero, List.set_cons_succ]
            refine wpAnyH_take (i := 16) (v := ?_) rfl (by kernel_rfl) (by kernel_rfl) (by kernel_rfl) (fun _ _ _ h => h) (Or.inl ⟨by rfl, ?_⟩) (by assumption) ?_
            rotate_left 1
            · intro w' hSw
              go_simp
              all_goals first | with_reducible rfl | (rw [if_neg (by omega)]; done) | (rw [if_pos (by omega)]; done)
            try simp only [List.getElem_toArray, List.getElem_cons_zero, List.getElem_cons_succ, Act.put, List.setIfInBounds_toArray, List.set_cons_zero, List.set_cons_succ]
            refine wpAnyH_take (i := 17) (v := ?_) rfl (by kernel_rfl) (by kernel_rfl) (by kernel_rfl) (fun _ _ _ h => h) (Or.inl ⟨by rfl, ?_⟩) (by assumption) ?_
            rotate_left 1
            · intro w' hSw
              go_simp
              all_goals first | with_reducible rfl | (rw [if_neg (by omega)]; done) | (rw [if_pos (by omega)]; done)
            try simp only [List.getElem_toArray, List.getElem_cons_zero, List.getElem_cons_succ, Act.put, List.setIfInBounds_toArray, List.set_cons_zero, List.set_cons_succ]
            refine wpAnyH_done (by kernel_rfl) ?_ _
            refine NoPanic.normal ?_
            go_wp2_with fail
            go_roundw
            case rel => exact ⟨i + 1, by omega, by simp [hq], HOK2, TZ.out.trans T6.out⟩
            case measure => simp [intOf, hq]; omega
          · obtain ⟨k, hk⟩ : ∃ k, i = k + 1 := ⟨i - 1, by omega⟩
            have HKI := Lib.hid hk
            have HIP := Lib.hid (show 0 < i by omega)
            have hp0 : (0 : Int) < (i : Int) := by omega
            have hqk : IntKind.i64.wrap ((i : Int) - 1) = (k : Int) := by rw [wrap_of _ (by omega) (by omega)]; omega
            have hk1 : (k : Int) < (n2 : Int) := by omega
            have hk0 : (0 : Int) ≤ (k : Int) := by omega
            obtain ⟨z, hz⟩ : ∃ z, S[k]? = some z := ⟨_, List.getElem?_eq_getElem (by rw [HN2.out]; omega)⟩
            obtain ⟨zk, zv⟩ := z
            have HP := Lib.hid hz
            clear hz hk hip
            cases hap : apt16 ⟨zk, zv⟩ ⟨yk, yv⟩ with
            | true =>
              have HAP := Lib.hid (fun W => by have := apart_16 ⟨zk, zv⟩ ⟨yk, yv⟩ W; rw [hap] at this; exact this)
              have HOK2 : Hid (∀ (j : Nat) (y : Pq2), j < i + 1 → S[j]? = some y → some16 y = true ∧ ∀ x, 0 < j → S[j - 1]? = some x → apt16 x y = true) := Lib.hid (fun j z hj hz => by
                by_cases h : j < i
                · exact HOK.out j z h hz
                · obtain rfl : j = i := by omega
                  rw [HY.out] at hz
                  cases hz
                  refine ⟨HSY.out, fun x h hx => ?_⟩
                  rw [show j - 1 = k from by have := HKI.out; omega, HP.out] at hx
                  cases hx
                  exact hap)
              clear hap
              have T0 : Hid (Turn (fun _ => False) wz wz.drew) := Lib.hid (Turn.refl _ _).drew
              refine wp_region_noPanic ?_
              refine wp_region_held_drew (S := (fun X => Turn (fun _ => False) wz X)) (by kernel_rfl) T0.out (fun hHeld => ?_)
              clear hHeld
              refine wpAnyH_take (i := 0) (v := ?_) rfl (by kernel_rfl) (by kernel_rfl) (by kernel_rfl) (fun _ _ _ h => h) (Or.inl ⟨by rfl, ?_⟩) (by assumption) ?_
              rotate_left 1
              · intro w' hSw
                obtain ⟨z0, z1⟩ := cells2b16 (B4.out.turn hSw (fun h => h))
                go_simp
                all_goals first | with_reducible rfl | (rw [if_neg (by omega)]; done) | (rw [if_pos (by omega)]; done)
              try simp only [List.getElem_toArray, List.getElem_cons_zero, List.getElem_cons_succ, Act.put, List.setIfInBounds_toArray, List.set_cons_zero, List.set_cons_succ]
              refine wpAnyH_ready (rs := [1]) (by kernel_rfl) (by simp) ?_
              refine AllReadyH.cons rfl (fun K hK => ?_) AllReadyH.nil
              refine step_call_on 59 Try.f59 _ _ rfl Try.func59 (by kernel_rfl) (by kernel_rfl) _ _ ((HSO.out _).mono fun e W' h => (⟨_, h.1, rfl, h.2⟩ : ∃ v, e = .returned v ∧ v = _ ∧ Turn (fun _ => False) _ W')) (by go_simp) (by rfl) ?_
              rintro v9 w6 ⟨rfl, ht9⟩
              have T6 := Lib.hid (T0.out.trans ht9)
              clear ht9
              refine hK.out _ _ T6.out (fun hHeld => ?_)
              clear hHeld hK K
              try simp only [List.getElem_toArray, List.getElem_cons_zero, List.getElem_cons_succ, Act.put, List.setIfInBounds_toArray, List.set_cons_zero, List.set_cons_succ]
              refine wpAnyH_take (i := 2) (v := .bool false) rfl (by kernel_rfl) (by kernel_rfl) (by kernel_rfl) (fun _ _ _ h => h) (Or.inl ⟨by rfl, ?_⟩) (by assumption) ?_
              · intro w' hSw
                go_simp
                all_goals first | (simp; done) | with_reducible rfl | (rw [if_neg (by omega)]; done) | (rw [if_pos (by omega)]; done)
              try simp only [List.getElem_toArray, List.getElem_cons_zero, List.getElem_cons_succ, Act.put, List.setIfInBounds_toArray, List.set_cons_zero, List.set_cons_succ]
              refine wpAnyH_take (i := 3) (v := ?_) rfl (by kernel_rfl) (by kernel_rfl) (by kernel_rfl) (fun _ _ _ h => h) (Or.inl ⟨by rfl, ?_⟩) (by assumption) ?_
              rotate_left 1
              · intro w' hSw
                go_simp
                all_goals first | with_reducible rfl | (rw [if_neg (by omega)]; done) | (rw [if_pos (by omega)]; done)
              try simp only [List.getElem_toArray, List.getElem_cons_zero, List.getElem_cons_succ, Act.put, List.setIfInBounds_toArray, List.set_cons_zero, List.set_cons_succ]
              refine wpAnyH_take (i := 4) (v := ?_) rfl (by kernel_rfl) (by kernel_rfl) (by kernel_rfl) (fun _ _ _ h => h) (Or.inl ⟨by rfl, ?_⟩) (by assumption) ?_
              rotate_left 1
              · intro w' hSw
                go_simp
                all_goals first | with_reducible rfl | (rw [if_neg (by omega)]; done) | (rw [if_pos (by omega)]; done)
              try simp only [List.getElem_toArray, List.getElem_cons_zero, List.getElem_cons_succ, Act.put, List.setIfInBounds_toArray, List.set_cons_zero, List.set_cons_succ]
              refine wpAnyH_take (i := 5) (v := .bool true) rfl (by kernel_rfl) (by kernel_rfl) (by kernel_rfl) (fun _ _ _ h => h) (Or.inl ⟨by rfl, ?_⟩) (by assumption) ?_
              · intro w' hSw
                go_simp
                all_goals first | (exact HIP.out) | (simp; exact HIP.out) | with_reducible rfl | (rw [if_neg (by omega)]; done) | (rw [if_pos (by omega)]; done)
              try simp only [List.getElem_toArray, List.getElem_cons_zero, List.getElem_cons_succ, Act.put, List.setIfInBounds_toArray, List.set_cons_zero, List.set_cons_succ]
              refine wpAnyH_take (i := 6) (v := ?_) rfl (by kernel_rfl) (by kernel_rfl) (by kernel_rfl) (fun _ _ _ h => h) (Or.inl ⟨by rfl, ?_⟩) (by assumption) ?_
              rotate_left 1
              · intro w' hSw
                go_simp
                all_goals first | with_reducible rfl | (rw [if_neg (by omega)]; done) | (rw [if_pos (by omega)]; done)
              try simp only [List.getElem_toArray, List.getElem_cons_zero, List.getElem_cons_succ, Act.put, List.setIfInBounds_toArray, List.set_cons_zero, List.set_cons_succ]
              refine wpAnyH_take (i := 7) (v := ?_) rfl (by kernel_rfl) (by kernel_rfl) (by kernel_rfl) (fun _ _ _ h => h) (Or.inl ⟨by rfl, ?_⟩) (by assumption) ?_
              rotate_left 1
              · intro w' hSw
                go_simp
                all_goals first | with_reducible rfl | (rw [if_neg (by omega)]; done) | (rw [if_pos (by omega)]; done)
              try simp only [List.getElem_toArray, List.getElem_cons_zero, List.getElem_cons_succ, Act.put, List.setIfInBounds_toArray, List.set_cons_zero, List.set_cons_succ]
              refine wpAnyH_take (i := 8) (v := ?_) rfl (by kernel_rfl) (by kernel_rfl) (by kernel_rfl) (fun _ _ _ h => h) (Or.inl ⟨by rfl, ?_⟩) (by assumption) ?_
              rotate_left 1
              · intro w' hSw
                obtain ⟨x2, x3⟩ := cells2b16 (B1.out.turn (TZ.out.trans hSw) (fun h => h))
                go_simp
                all_goals first | with_reducible rfl | (rw [if_neg (by omega)]; done) | (rw [if_pos (by omega)]; done)
              try simp only [List.getElem_toArray, List.getElem_cons_zero, List.getElem_cons_succ, Act.put, List.setIfInBounds_toArray, List.set_cons_zero, List.set_cons_succ]
              refine wpAnyH_take (i := 9) (v := ?_) rfl (by kernel_rfl) (by kernel_rfl) (by kernel_rfl) (fun _ _ _ h => h) (Or.inl ⟨by rfl, ?_⟩) (by assumption) ?_
              rotate_left 1
              · intro w' hSw
                go_simp
                all_goals first | with_reducible rfl | (rw [if_neg (by omega)]; done) | (rw [if_pos (by omega)]; done)
              try simp only [List.getElem_toArray, List.getElem_cons_zero, List.getElem_cons_succ, Act.put, List.setIfInBounds_toArray, List.set_cons_zero, List.set_cons_succ]
              refine wpAnyH_take (i := 10) (v := .int .i64 (k : Int)) rfl (by kernel_rfl) (by kernel_rfl) (by kernel_rfl) (fun _ _ _ h => h) (Or.inl ⟨by rfl, ?_⟩) (by assumption) ?_
              · intro w' hSw
                go_simp
                all_goals first | (simp [hqk]; done) | with_reducible rfl | (rw [if_neg (by omega)]; done) | (rw [if_pos (by omega)]; done)
              try simp only [List.getElem_toArray, List.getElem_cons_zero, List.getElem_cons_succ, Act.put, List.setIfInBounds_toArray, List.set_cons_zero, List.set_cons_succ]
              refine wpAnyH_take (i := 11) (v := ?_) rfl (by kernel_rfl) (by kernel_rfl) (by kernel_rfl) (fun _ _ _ h => h) (Or.inl ⟨by rfl, ?_⟩) (by assumption) ?_
              rotate_left 1
              · intro w' hSw
                go_simp
                all_goals first | with_reducible rfl | (rw [if_neg (by omega)]; done) | (rw [if_pos (by omega)]; done)
              try simp only [List.getElem_toArray, List.getElem_cons_zero, List.getElem_cons_succ, Act.put, List.setIfInBounds_toArray, List.set_cons_zero, List.set_cons_succ]
              refine wpAnyH_take (i := 12) (v := ?_) rfl (by kernel_rfl) (by kernel_rfl) (by kernel_rfl) (fun _ _ _ h => h) (Or.inl ⟨by rfl, ?_⟩) (by assumption) ?_
              rotate_left 1
              · intro w' hSw
                obtain ⟨p0, p1⟩ := HCS.out _ (T1.out.trans (TZ.out.trans hSw)) k _ HP.out
                simp only at p0 p1
                go_simp
                all_goals first | with_reducible rfl | (rw [if_neg (by omega)]; done) | (rw [if_pos (by omega)]; done)
              try simp only [List.getElem_toArray, List.getElem_cons_zero, List.getElem_cons_succ, Act.put, List.setIfInBounds_toArray, List.set_cons_zero, List.set_cons_succ]
              refine wpAnyH_take (i := 13) (v := ?_) rfl (by kernel_rfl) (by kernel_rfl) (by kernel_rfl) (fun _ _ _ h => h) (Or.inl ⟨by rfl, ?_⟩) (by assumption) ?_
              rotate_left 1
              · intro w' hSw
                obtain ⟨z0, z1⟩ := cells2b16 (B4.out.turn hSw (fun h => h))
                go_simp
                all_goals first | with_reducible rfl | (rw [if_neg (by omega)]; done) | (rw [if_pos (by omega)]; done)
              try simp only [List.getElem_toArray, List.getElem_cons_zero, List.getElem_cons_succ, Act.put, List.setIfInBounds_toArray, List.set_cons_zero, List.set_cons_succ]
              refine wpAnyH_ready (rs := [14]) (by kernel_rfl) (by simp) ?_
              refine AllReadyH.cons rfl (fun K hK => ?_) AllReadyH.nil
              refine step_call_on 66 Try.f66 _ _ rfl Try.func66 (by kernel_rfl) (by kernel_rfl) _ _ ((HAP.out _).mono fun e W' h => (⟨_, h.1, rfl, h.2⟩ : ∃ v, e = .returned v ∧ v = _ ∧ Turn (fun _ => False) _ W')) (by go_simp) (by rfl) ?_
              rintro v9 w7 ⟨rfl, ht9⟩
              have T7 := Lib.hid (T6.out.trans ht9)
              clear ht9
              refine hK.out _ _ T7.out (fun hHeld => ?_)
              clear hHeld hK K
              try simp only [List.getElem_toArray, List.getElem_cons_zero, List.getElem_cons_succ, Act.put, List.setIfInBounds_toArray, List.set_cons_zero, List.set_cons_succ]
              refine wpAnyH_take (i := 15) (v := .bool false) rfl (by kernel_rfl) (by kernel_rfl) (by kernel_rfl) (fun _ _ _ h => h) (Or.inl ⟨by rfl, ?_⟩) (by assumption) ?_
              · intro w' hSw
                go_simp
                all_goals first | (simp; done) | with_reducible rfl | (rw [if_neg (by omega)]; done) | (rw [if_pos (by omega)]; done)
              try simp only [List.getElem_toArray, List.getElem_cons_zero, List.getElem_cons_succ, Act.put, List.setIfInBounds_toArray, List.set_cons_zero, List.set_cons_succ]
              refine wpAnyH_take (i := 16) (v := ?_) rfl (by kernel_rfl) (by kernel_rfl) (by kernel_rfl) (fun _ _ _ h => h) (Or.inl ⟨by rfl, ?_⟩) (by assumption) ?_
              rotate_left 1
              · intro w' hSw
                go_simp
                all_goals first | with_reducible rfl | (rw [if_neg (by omega)]; done) | (rw [if_pos (by omega)]; done)
              try simp only [List.getElem_toArray, List.getElem_cons_zero, List.getElem_cons_succ, Act.put, List.setIfInBounds_toArray, List.set_cons_zero, List.set_cons_succ]
              refine wpAnyH_take (i := 17) (v := ?_) rfl (by kernel_rfl) (by kernel_rfl) (by kernel_rfl) (fun _ _ _ h => h) (Or.inl ⟨by rfl, ?_⟩) (by assumption) ?_
              rotate_left 1
              · intro w' hSw
                go_simp
                all_goals first | with_reducible rfl | (rw [if_neg (by omega)]; done) | (rw [if_pos (by omega)]; done)
              try simp only [List.getElem_toArray, List.getElem_cons_zero, List.getElem_cons_succ, Act.put, List.setIfInBounds_toArray, List.set_cons_zero, List.set_cons_succ]
              refine wpAnyH_done (by kernel_rfl) ?_ _
              refine NoPanic.normal ?_
              go_wp2_with fail
              go_roundw
              case rel => exact ⟨i + 1, by omega, by simp [hq], HOK2, TZ.out.trans T7.out⟩
              case measure => simp [intOf, hq]; omega
            | false =>
              have HAP := Lib.hid (fun W => by have := apart_16 ⟨zk, zv⟩ ⟨yk, yv⟩ W; rw [hap] at this; exact this)
              have HNO := Lib.hid (HRN.out (fun h => by
                have := h.2.1.at_ HP.out (y := ⟨yk, yv⟩) (by rw [← HKI.out]; exact HY.out)
                rw [hap] at this; cases this))
              clear hap
              have T0 : Hid (Turn (fun _ => False) wz wz.drew) := Lib.hid (Turn.refl _ _).drew
              refine wp_region_noPanic ?_
              refine wp_region_held_drew (S := (fun X => Turn (fun _ => False) wz X)) (by kernel_rfl) T0.out (fun hHeld => ?_)
              clear hHeld
              refine wpAnyH_take (i := 0) (v := ?_) rfl (by kernel_rfl) (by kernel_rfl) (by kernel_rfl) (fun _ _ _ h => h) (Or.inl ⟨by rfl, ?_⟩) (by assumption) ?_
              rotate_left 1
              · intro w' hSw
                obtain ⟨z0, z1⟩ := cells2b16 (B4.out.turn hSw (fun h => h))
                go_simp
                all_goals first | with_reducible rfl | (rw [if_neg (by omega)]; done) | (rw [if_pos (by omega)]; done)
              try simp only [List.getElem_toArray, List.getElem_cons_zero, List.getElem_cons_succ, Act.put, List.setIfInBounds_toArray, List.set_cons_zero, List.set_cons_succ]
              refine wpAnyH_ready (rs := [1]) (by kernel_rfl) (by simp) ?_
              refine AllReadyH.cons rfl (fun K hK => ?_) AllReadyH.nil
              refine step_call_on 59 Try.f59 _ _ rfl Try.func59 (by kernel_rfl) (by kernel_rfl) _ _ ((HSO.out _).mono fun e W' h => (⟨_, h.1, rfl, h.2⟩ : ∃ v, e = .returned v ∧ v = _ ∧ Turn (fun _ => False) _ W')) (by go_simp) (by rfl) ?_
              rintro v9 w6 ⟨rfl, ht9⟩
              have T6 := Lib.hid (T0.out.trans ht9)
              clear ht9
              refine hK.out _ _ T6.out (fun hHeld => ?_)
              clear hHeld hK K
              try simp only [List.getElem_toArray, List.getElem_cons_zero, List.getElem_cons_succ, Act.put, List.setIfInBounds_toArray, List.set_cons_zero, List.set_cons_succ]
              refine wpAnyH_take (i := 2) (v := .bool false) rfl (by kernel_rfl) (by kernel_rfl) (by kernel_rfl) (fun _ _ _ h => h) (Or.inl ⟨by rfl, ?_⟩) (by assumption) ?_
              · intro w' hSw
                go_simp
                all_goals first | (simp; done) | with_reducible rfl | (rw [if_neg (by omega)]; done) | (rw [if_pos (by omega)]; done)
              try simp only [List.getElem_toArray, List.getElem_cons_zero, List.getElem_cons_succ, Act.put, List.setIfInBounds_toArray, List.set_cons_zero, List.set_cons_succ]
              refine wpAnyH_take (i := 3) (v := ?_) rfl (by kernel_rfl) (by kernel_rfl) (by kernel_rfl) (fun _ _ _ h => h) (Or.inl ⟨by rfl, ?_⟩) (by assumption) ?_
              rotate_left 1
              · intro w' hSw
                go_simp
                all_goals first | with_reducible rfl | (rw [if_neg (by omega)]; done) | (rw [if_pos (by omega)]; done)
              try simp only [List.getElem_toArray, List.getElem_cons_zero, List.getElem_cons_succ, Act.put, List.setIfInBounds_toArray, List.set_cons_zero, List.set_cons_succ]
              refine wpAnyH_take (i := 4) (v := ?_) rfl (by kernel_rfl) (by kernel_rfl) (by kernel_rfl) (fun _ _ _ h => h) (Or.inl ⟨by rfl, ?_⟩) (by assumption) ?_
              rotate_left 1
              · intro w' hSw
                go_simp
                all_goals first | with_reducible rfl | (rw [if_neg (by omega)]; done) | (rw [if_pos (by omega)]; done)
              try simp only [List.getElem_toArray, List.getElem_cons_zero, List.getElem_cons_succ, Act.put, List.setIfInBounds_toArray, List.set_cons_zero, List.set_cons_succ]
              refine wpAnyH_take (i := 5) (v := .bool true) rfl (by kernel_rfl) (by kernel_rfl) (by kernel_rfl) (fun _ _ _ h => h) (Or.inl ⟨by rfl, ?_⟩) (by assumption) ?_
              · intro w' hSw
                go_simp
                all_goals first | (exact HIP.out) | (simp; exact HIP.out) | with_reducible rfl | (rw [if_neg (by omega)]; done) | (rw [if_pos (by omega)]; done)
              try simp only [List.getElem_toArray, List.getElem_cons_zero, List.getElem_cons_succ, Act.put, List.setIfInBounds_toArray, List.set_cons_zero, List.set_cons_succ]
              refine wpAnyH_take (i := 6) (v := ?_) rfl (by kernel_rfl) (by kernel_rfl) (by kernel_rfl) (fun _ _ _ h => h) (Or.inl ⟨by rfl, ?_⟩) (by assumption) ?_
              rotate_left 1
              · intro w' hSw
                go_simp
                all_goals first | with_reducible rfl | (rw [if_neg (by omega)]; done) | (rw [if_pos (by omega)]; done)
              try simp only [List.getElem_toArray, List.getElem_cons_zero, List.getElem_cons_succ, Act.put, List.setIfInBounds_toArray, List.set_cons_zero, List.set_cons_succ]
              refine wpAnyH_take (i := 7) (v := ?_) rfl (by kernel_rfl) (by kernel_rfl) (by kernel_rfl) (fun _ _ _ h => h) (Or.inl ⟨by rfl, ?_⟩) (by assumption) ?_
              rotate_left 1
              · intro w' hSw
                go_simp
                all_goals first | with_reducible rfl | (rw [if_neg (by omega)]; done) | (rw [if_pos (by omega)]; done)
              try simp only [List.getElem_toArray, List.getElem_cons_zero, List.getElem_cons_succ, Act.put, List.setIfInBounds_toArray, List.set_cons_zero, List.set_cons_succ]
              refine wpAnyH_take (i := 8) (v := ?_) rfl (by kernel_rfl) (by kernel_rfl) (by kernel_rfl) (fun _ _ _ h => h) (Or.inl ⟨by rfl, ?_⟩) (by assumption) ?_
              rotate_left 1
              · intro w' hSw
                obtain ⟨x2, x3⟩ := cells2b16 (B1.out.turn (TZ.out.trans hSw) (fun h => h))
                go_simp
                all_goals first | with_reducible rfl | (rw [if_neg (by omega)]; done) | (rw [if_pos (by omega)]; done)
              try simp only [List.getElem_toArray, List.getElem_cons_zero, List.getElem_cons_succ, Act.put, List.setIfInBounds_toArray, List.set_cons_zero, List.set_cons_succ]
              refine wpAnyH_take (i := 9) (v := ?_) rfl (by kernel_rfl) (by kernel_rfl) (by kernel_rfl) (fun _ _ _ h => h) (Or.inl ⟨by rfl, ?_⟩) (by assumption) ?_
              rotate_left 1
              · intro w' hSw
                go_simp
                all_goals first | with_reducible rfl | (rw [if_neg (by omega)]; done) | (rw [if_pos (by omega)]; done)
              try simp only [List.getElem_toArray, List.getElem_cons_zero, List.getElem_cons_succ, Act.put, List.setIfInBounds_toArray, List.set_cons_zero, List.set_cons_succ]
              refine wpAnyH_take (i := 10) (v := .int .i64 (k : Int)) rfl (by kernel_rfl) (by kernel_rfl) (by kernel_rfl) (fun _ _ _ h => h) (Or.inl ⟨by rfl, ?_⟩) (by assumption) ?_
              · intro w' hSw
                go_simp
                all_goals first | (simp [hqk]; done) | with_reducible rfl | (rw [if_neg (by omega)]; done) | (rw [if_pos (by omega)]; done)
              try simp only [List.getElem_toArray, List.getElem_cons_zero, List.getElem_cons_succ, Act.put, List.setIfInBounds_toArray, List.set_cons_zero, List.set_cons_succ]
              refine wpAnyH_take (i := 11) (v := ?_) rfl (by kernel_rfl) (by kernel_rfl) (by kernel_rfl) (fun _ _ _ h => h) (Or.inl ⟨by rfl, ?_⟩) (by assumption) ?_
              rotate_left 1
              · intro w' hSw
                go_simp
                all_goals first | with_reducible rfl | (rw [if_neg (by omega)]; done) | (rw [if_pos (by omega)]; done)
              try simp only [List.getElem_toArray, List.getElem_cons_zero, List.getElem_cons_succ, Act.put, List.setIfInBounds_toArray, List.set_cons_zero, List.set_cons_succ]
              refine wpAnyH_take (i := 12) (v := ?_) rfl (by kernel_rfl) (by kernel_rfl) (by kernel_rfl) (fun _ _ _ h => h) (Or.inl ⟨by rfl, ?_⟩) (by assumption) ?_
              rotate_left 1
              · intro w' hSw
                obtain ⟨p0, p1⟩ := HCS.out _ (T1.out.trans (TZ.out.trans hSw)) k _ HP.out
                simp only at p0 p1
                go_simp
                all_goals first | with_reducible rfl | (rw [if_neg (by omega)]; done) | (rw [if_pos (by omega)]; done)
              try simp only [List.getElem_toArray, List.getElem_cons_zero, List.getElem_cons_succ, Act.put, List.setIfInBounds_toArray, List.set_cons_zero, List.set_cons_succ]
              refine wpAnyH_take (i := 13) (v := ?_) rfl (by kernel_rfl) (by kernel_rfl) (by kernel_rfl) (fun _ _ _ h => h) (Or.inl ⟨by rfl, ?_⟩) (by assumption) ?_
              rotate_left 1
              · intro w' hSw
                obtain ⟨z0, z1⟩ := cells2b16 (B4.out.turn hSw (fun h => h))
                go_simp
                all_goals first | with_reducible rfl | (rw [if_neg (by omega)]; done) | (rw [if_pos (by omega)]; done)
              try simp only [List.getElem_toArray, List.getElem_cons_zero, List.getElem_cons_succ, Act.put, List.setIfInBounds_toArray, List.set_cons_zero, List.set_cons_succ]
              refine wpAnyH_ready (rs := [14]) (by kernel_rfl) (by simp) ?_
              refine AllReadyH.cons rfl (fun K hK => ?_) AllReadyH.nil
              refine step_call_on 66 Try.f66 _ _ rfl Try.func66 (by kernel_rfl) (by kernel_rfl) _ _ ((HAP.out _).mono fun e W' h => (⟨_, h.1, rfl, h.2⟩ : ∃ v, e = .returned v ∧ v = _ ∧ Turn (fun _ => False) _ W')) (by go_simp) (by rfl) ?_
              rintro v9 w7 ⟨rfl, ht9⟩
              have T7 := Lib.hid (T6.out.trans ht9)
              clear ht9
              refine hK.out _ _ T7.out (fun hHeld => ?_)
              clear hHeld hK K
              try simp only [List.getElem_toArray, List.getElem_cons_zero, List.getElem_cons_succ, Act.put, List.setIfInBounds_toArray, List.set_cons_zero, List.set_cons_succ]
              refine wpAnyH_take (i := 15) (v := .bool true) rfl (by kernel_rfl) (by kernel_rfl) (by kernel_rfl) (fun _ _ _ h => h) (Or.inl ⟨by rfl, ?_⟩) (by assumption) ?_
              · intro w' hSw
                go_simp
                all_goals first | (simp; done) | with_reducible rfl | (rw [if_neg (by omega)]; done) | (rw [if_pos (by omega)]; done)
              try simp only [List.getElem_toArray, List.getElem_cons_zero, List.getElem_cons_succ, Act.put, List.setIfInBounds_toArray, List.set_cons_zero, List.set_cons_succ]
              refine wpAnyH_take (i := 16) (v := ?_) rfl (by kernel_rfl) (by kernel_rfl) (by kernel_rfl) (fun _ _ _ h => h) (Or.inl ⟨by rfl, ?_⟩) (by assumption) ?_
              rotate_left 1
              · intro w' hSw
                go_simp
                all_goals first | with_reducible rfl | (rw [if_neg (by omega)]; done) | (rw [if_pos (by omega)]; done)
              try simp only [List.getElem_toArray, List.getElem_cons_zero, List.getElem_cons_succ, Act.put, List.setIfInBounds_toArray, List.set_cons_zero, List.set_cons_succ]
              refine wpAnyH_take (i := 17) (v := ?_) rfl (by kernel_rfl) (by kernel_rfl) (by kernel_rfl) (fun _ _ _ h => h) (Or.inl ⟨by rfl, ?_⟩) (by assumption) ?_
              rotate_left 1
              · intro w' hSw
                go_simp
                all_goals first | with_reducible rfl | (rw [if_neg (by omega)]; done) | (rw [if_pos (by omega)]; done)
              try simp only [List.getElem_toArray, List.getElem_cons_zero, List.getElem_cons_succ, Act.put, List.setIfInBounds_toArray, List.set_cons_zero, List.set_cons_succ]
              refine wpAnyH_done (by kernel_rfl) ?_ _
              refine NoPanic.normal ?_
              go_wp2_with fail
              go_ret
              exact ⟨by rw [HNO.out]; rfl, T1.out.trans (TZ.out.trans T7.out)⟩
      · obtain rfl : n2 = i := by omega
        have HSP : Hid (Spo16 S) := Lib.hid (spo_of (fun s hs => by
          obtain ⟨j, hj⟩ := List.getElem?_of_mem hs
          exact (HOK.out j s (by rw [← HN2.out]; exact (List.getElem?_eq_some_iff.1 hj).1) hj).1) (fun j x y hx hy => by
          have := (HOK.out (j + 1) y (by rw [← HN2.out]; exact (List.getElem?_eq_some_iff.1 hy).1) hy).2 x (by omega) (by simpa using hx)
          exact this))
        obtain ⟨x2, x3⟩ := cells2b16 (B1.out.turn TT.out (fun h => h))
        have TT1 := Lib.hid TT.out
        go_wp2_with fail
        go_loopw [47] (fun v wr => ∃ i : Nat, i ≤ n1 ∧ v = .int .i64 i ∧ Hid (∀ (j : Nat) (y : ByteArray), j < i → K[j]? = some y → ∀ x, 0 < j → K[j - 1]? = some x → lt14 x y = true) ∧ Turn (fun _ => False) W1 wr) (fun v _ => n1 - (intOf v).toNat)
        case atStart => exact ⟨0, Nat.zero_le _, rfl, Lib.hid (fun j y hj => by omega), TT1.out⟩
        case round =>
          clear HOK hi
          obtain ⟨i, hi, rfl, HOK, ht⟩ := hrel
          obtain ⟨wy, rfl⟩ : ∃ W, W = wr := ⟨_, rfl⟩
          have TY := Lib.hid ht
          clear ht x2 x3
          obtain ⟨x2, x3⟩ := cells2b16 (B1.out.turn TY.out (fun h => h))
          by_cases hlt : i < n1
          · have hl1 : (i : Int) < (n1 : Int) := by omega
            have hl0 : (0 : Int) ≤ (i : Int) := by omega
            have hq := wrap_of ((i : Int) + 1) (by omega) (by omega)
            obtain ⟨y, hy⟩ : ∃ y, K[i]? = some y := ⟨_, List.getElem?_eq_getElem (by rw [HN1.out]; exact hlt)⟩
            have HY := Lib.hid hy
            obtain ⟨b, o, rfl, hcs⟩ := HK.out.cells (by rw [HN1.out]; omega)
            have HCS := Lib.hid hcs
            have c0 := hcs wy (T1.out.trans TY.out) i y hy
            clear hy
            by_cases hip : i = 0
            · have hp0 : ¬ (0 : Int) < (i : Int) := by omega
              have HOK2 : Hid (∀ (j : Nat) (y : ByteArray), j < i + 1 → K[j]? = some y → ∀ x, 0 < j → K[j - 1]? = some x → lt14 x y = true) := Lib.hid (fun j z hj hz x h => by omega)
              clear hip hcs
              go_wp2_with fail
              refine ⟨⟨i + 1, by omega, by go_num, HOK2, TY.out⟩, ?_⟩
              simp [intOf]
              omega
            · obtain ⟨k, hk⟩ : ∃ k, i = k + 1 := ⟨i - 1, by omega⟩
              have HKI := Lib.hid hk
              have hp0 : (0 : Int) < (i : Int) := by omega
              have hqk : IntKind.i64.wrap ((i : Int) - 1) = (k : Int) := by rw [wrap_of _ (by omega) (by omega)]; omega
              have hk1 : (k : Int) < (n1 : Int) := by omega
              have hk0 : (0 : Int) ≤ (k : Int) := by omega
              obtain ⟨z, hz⟩ : ∃ z, K[k]? = some z := ⟨_, List.getElem?_eq_getElem (by rw [HN1.out]; omega)⟩
              have HP := Lib.hid hz
              have p0 := hcs wy (T1.out.trans TY.out) k z hz
              have g1 := lt_tl z y
              clear hz hk hip hcs
              cases hap : lt14 z y with
              | true =>
                have g2 : Op.bytesLess y.toList z.toList = false := by
                  rw [lt_tl]
                  cases h : lt14 y z with
                  | false => rfl
                  | true => have := lt14_trans h hap; rw [lt14_self] at this; cases this
                have g3 : (y.toList == z.toList) = false := by
                  rw [beq_eq_false_iff_ne]
                  intro e
                  rw [ByteArray.toList_eq, ByteArray.toList_eq] at e
                  rw [ba_ext e, lt14_self] at hap
                  cases hap
                clear g1
                have HOK2 : Hid (∀ (j : Nat) (y : ByteArray), j < i + 1 → K[j]? = some y → ∀ x, 0 < j → K[j - 1]? = some x → lt14 x y = true) := Lib.hid (fun j u hj hu x h hx => by
                  by_cases hji : j < i
                  · exact HOK.out j u hji hu x h hx
                  · obtain rfl : j = i := by omega
                    rw [HY.out] at hu
                    cases hu
                    rw [show j - 1 = k from by have := HKI.out; omega, HP.out] at hx
                    cases hx
                    exact hap)
                clear hap
                go_wp2_with fail
                refine ⟨⟨i + 1, by omega, by go_num, HOK2, TY.out⟩, ?_⟩
                simp [intOf]
                omega
              | false =>
                have g2 : (Op.bytesLess y.toList z.toList || y.toList == z.toList) = true := by
                  rw [lt_tl]
                  cases h : lt14 y z with
                  | true => rfl
                  | false => rw [lt14_eq h hap]; simp
                clear g1
                have HNO := Lib.hid (HRN.out (fun h => by
                  have := h.2.2.1.at_ HP.out (y := y) (by rw [← HKI.out]; exact HY.out)
                  rw [hap] at this; cases this))
                clear hap
                go_wp2_with fail
                go_ret
                exact ⟨by rw [HNO.out]; rfl, T1.out.trans TY.out⟩
          · obtain rfl : n1 = i := by omega
            have HUP : Hid (Kup K) := Lib.hid (kup_of (fun j x y hx hy => HOK.out (j + 1) y (by rw [← HN1.out]; exact (List.getElem?_eq_some_iff.1 hy).1) hy x (by omega) (by simpa using hx)))
            have HCK := Lib.hid (fun lb W (hW : Turn (fun _ => False) W1 W) (hb : Blk W lb 44 [.slice A2 n2 c2]) => csK_16 S _ lb K _ W (HK.out.still (T1.out.trans hW)) (HS.out.still (T1.out.trans hW)) hb)
            go_upto_region 15 with fail
            have T0 : Hid (Turn (fun _ => False) wy wy.drew) := Lib.hid (Turn.refl _ _).drew
            refine wp_region_noPanic ?_
            refine wp_region_held_drew (S := (fun X => Turn (fun _ => False) wy X)) (by kernel_rfl) T0.out (fun hHeld => ?_)
            clear hHeld
            refine wpAnyH_take (i := 0) (v := ?_) rfl (by kernel_rfl) (by kernel_rfl) (by kernel_rfl) (fun _ _ _ h => h) (Or.inl ⟨by rfl, ?_⟩) (by assumption) ?_
            rotate_left 1
            · intro w' hSw
              go_simp
              all_goals first | with_reducible rfl | (rw [if_neg (by omega)]; done) | (rw [if_pos (by omega)]; done)
            try simp only [List.getElem_toArray, List.getElem_cons_zero, List.getElem_cons_succ, Act.put, List.setIfInBounds_toArray, List.set_cons_zero, List.set_cons_succ]
            refine wpAnyH_take (i := 1) (v := ?_) rfl (by kernel_rfl) (by kernel_rfl) (by kernel_rfl) (fun _ _ _ h => h) (Or.inl ⟨by rfl, ?_⟩) (by assumption) ?_
            rotate_left 1
            · intro w' hSw
              obtain ⟨x2, x3⟩ := cells2b16 (B1.out.turn (TY.out.trans hSw) (fun h => h))
              go_simp
              all_goals first | with_reducible rfl | (rw [if_neg (by omega)]; done) | (rw [if_pos (by omega)]; done)
            try simp only [List.getElem_toArray, List.getElem_cons_zero, List.getElem_cons_succ, Act.put, List.setIfInBounds_toArray, List.set_cons_zero, List.set_cons_succ]
            refine wpAnyH_take (i := 2) (v := ?_) rfl (by kernel_rfl) (by kernel_rfl) (by kernel_rfl) (fun _ _ _ h => h) (Or.inl ⟨by rfl, ?_⟩) (by assumption) ?_
            rotate_left 1
            · intro w' hSw
              go_simp
              all_goals first | with_reducible rfl | (rw [if_neg (by omega)]; done) | (rw [if_pos (by omega)]; done)
            try simp only [List.getElem_toArray, List.getElem_cons_zero, List.getElem_cons_succ, Act.put, List.setIfInBounds_toArray, List.set_cons_zero, List.set_cons_succ]
            refine wpAnyH_take (i := 3) (v := ?_) rfl (by kernel_rfl) (by kernel_rfl) (by kernel_rfl) (fun _ _ _ h => h) (Or.inl ⟨by rfl, ?_⟩) (by assumption) ?_
            rotate_left 1
            · intro w' hSw
              obtain ⟨x2, x3⟩ := cells2b16 (B1.out.turn (TY.out.trans hSw) (fun h => h))
              go_simp
              all_goals first | with_reducible rfl | (rw [if_neg (by omega)]; done) | (rw [if_pos (by omega)]; done)
            try simp only [List.getElem_toArray, List.getElem_cons_zero, List.getElem_cons_succ, Act.put, List.setIfInBounds_toArray, List.set_cons_zero, List.set_cons_succ]
            refine wpAnyH_ready (rs := [4]) (by kernel_rfl) (by simp) ?_
            refine AllReadyH.cons rfl (fun K hK => ?_) AllReadyH.nil
            refine step_call_on 63 Try.f63 _ _ rfl Try.func63 (by kernel_rfl) (by kernel_rfl) _ _ ((within_16 A2 n2 c2 _).mono fun e W' h => (⟨_, h.1, rfl, h.2⟩ : ∃ v, e = .returned v ∧ v = _ ∧ W' = _)) (by go_simp) (by rfl) ?_
            rintro v9 w5 ⟨rfl, hw9⟩
            have T5 : Hid (Turn (fun _ => False) wy w5) := Lib.hid (hw9 ▸ T0.out.alloc _)
            have L5 : Hid (Blk w5 _ 44 [.slice A2 n2 c2]) := Lib.hid (hw9 ▸ Blk.new _ _ _)
            clear hw9
            refine hK.out _ _ T5.out (fun hHeld => ?_)
            clear hHeld hK K
            try simp only [List.getElem_toArray, List.getElem_cons_zero, List.getElem_cons_succ, Act.put, List.setIfInBounds_toArray, List.set_cons_zero, List.set_cons_succ]
            refine wpAnyH_ready (rs := [5]) (by kernel_rfl) (by simp) ?_
            refine AllReadyH.cons rfl (fun K hK => ?_) AllReadyH.nil
            refine step_call_on 67 Try.f67 _ _ rfl Try.func67 (by kernel_rfl) (by kernel_rfl) _ _ ((HCK.out _ _ (TY.out.trans T5.out) L5.out).mono fun e W' h => (⟨_, h.1, rfl, h.2⟩ : ∃ v, e = .returned v ∧ v = _ ∧ Turn (fun _ => False) _ W')) (by go_simp) (by rfl) ?_
            rintro v9 w6 ⟨rfl, ht9⟩
            have T6 := Lib.hid (T5.out.trans ht9)
            clear ht9
            refine hK.out _ _ T6.out (fun hHeld => ?_)
            clear hHeld hK K
            try simp only [List.getElem_toArray, List.getElem_cons_zero, List.getElem_cons_succ, Act.put, List.setIfInBounds_toArray, List.set_cons_zero, List.set_cons_succ]
            refine wpAnyH_done (by kernel_rfl) ?_ _
            refine NoPanic.normal ?_
            cases hany : K.any (spd16 S) with
            | true =>
              have HNO := Lib.hid (HRN.out (fun h => by
                obtain ⟨k, hk, h2⟩ := List.any_eq_true.1 hany
                rw [h.2.2.2 k hk] at h2; cases h2))
              clear hany
              go_wp2_with fail
              go_ret
              exact ⟨by rw [HNO.out]; rfl, T1.out.trans (TY.out.trans T6.out)⟩
            | false =>
              have HYS : Hid (R = 0) := Lib.hid (by
                rw [← HRR.out, rgb_yes ⟨HLN.out, HSP.out, HUP.out, fun k hk => by
                  have := List.any_eq_false.1 hany k hk
                  simpa using this⟩]
                rfl)
              clear hany
              go_wp2_with fail
              go_ret
              exact ⟨by rw [HYS.out]; rfl, T1.out.trans (TY.out.trans T6.out)⟩
end Go.Proofs.Ytjkfgbmlhglnfaa
