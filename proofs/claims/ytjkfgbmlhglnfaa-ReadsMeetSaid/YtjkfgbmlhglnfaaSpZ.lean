/- Layer 14: the program's fits, Load. (mkSpZ.py) -/
import Derived.Test.YtjkfgbmlhglnfaaSpY
namespace Go.Proofs.Ytjkfgbmlhglnfaa
open Go.RowKit Go.Shelf
set_option linter.unusedVariables false
set_option linter.unusedSimpArgs false
set_option maxRecDepth 100000

def fit14 (x : Itm) (last : Int) : Bool := decide (x.k.size ≤ 128) && (decide (0 < x.vs.length) && (chn x.vs && !snc x.vs last))
set_option maxHeartbeats 2000000 in
theorem fits14 (x : Itm) (u : Value) (last : Int) (w : World) (h : Vr w u x.vs) (hb : x.vs.length ≤ 1000000000000000) (hk : x.k.size ≤ maxLen) :
    Calls Try.prog 77 #[.agg #[.string x.k, u], .int .i64 last] w fun e w' => e = .returned (.bool (fit14 x last)) ∧ Turn (fun _ => False) w w' := by
  obtain ⟨k, vs⟩ := x
  simp only at h hb hk ⊢
  obtain ⟨A, c, rfl⟩ := h.len
  obtain ⟨W1, hW1⟩ : ∃ W, w.alloc (.cells #[.string k, .slice A vs.length c] 40) = W := ⟨_, rfl⟩
  have TW : Hid (Turn (fun _ => False) w W1) := Lib.hid (hW1 ▸ (Turn.refl _ _).alloc _)
  have BX : Hid (Blk W1 w.heap.size 40 [.string k, .slice A vs.length c]) := Lib.hid (hW1 ▸ Blk.new _ _ _)
  have HC := Lib.hid (fun X (hX : Turn (fun _ => False) w X) => check13 vs _ X (h.still hX))
  have HS := Lib.hid (fun X (hX : Turn (fun _ => False) w X) => since13 vs _ last X (h.still hX) (by omega))
  obtain ⟨n, hn⟩ : ∃ n, vs.length = n := ⟨_, rfl⟩
  have HX : Hid (∀ X, Turn (fun _ => False) W1 X → X.cell? ⟨w.heap.size, 0, none⟩ = some (.string k) ∧ X.cell? ⟨w.heap.size, 1, none⟩ = some (.slice A vs.length c)) := Lib.hid (fun X hX => ⟨(BX.out.turn hX (fun h => h)).cell 0, (BX.out.turn hX (fun h => h)).cell 1⟩)
  unfold fit14
  simp only
  rw [hn] at HC HS HX hW1 hb ⊢
  generalize chn vs = cb at *
  generalize snc vs last = sb at *
  obtain ⟨x0, x1⟩ := HX.out W1 (Turn.refl _ _)
  clear h hn BX
  by_cases h1 : k.size ≤ 128
  · have h1i : (k.size : Int) ≤ 128 := by omega
    have h1b : decide ((k.size : Int) ≤ 128) = true := by simpa using h1i
    have h1c : decide (k.size ≤ 128) = true := by simpa using h1
    rw [h1c]
    by_cases h2 : 0 < n
    · have h2i : (0 : Int) < (n : Int) := by omega
      have h2b : decide ((0 : Int) < (n : Int)) = true := by simpa using h2i
      have h2c : decide (0 < n) = true := by simpa using h2
      rw [h2c]
      cases cb with
      | true =>
        go_enter Try.func77, Try.ntmps77
        go_wp2_with (first | (go_at_call 90; refine (HC.out _ TW.out).mono ?_; rintro e w2 ⟨rfl, ht2⟩; have T2 := Lib.hid (TW.out.trans ht2); obtain ⟨z0, z1⟩ := HX.out w2 ht2; clear ht2 x0 x1) | (go_at_call 117; refine (HS.out _ T2.out).mono ?_; rintro e w3 ⟨rfl, ht3⟩; have T3 := Lib.hid (T2.out.trans ht3); clear ht3))
        go_ret
        exact ⟨by cases sb <;> rfl, T3.out⟩
      | false =>
        go_enter Try.func77, Try.ntmps77
        go_wp2_with (go_at_call 90; refine (HC.out _ TW.out).mono ?_; rintro e w2 ⟨rfl, ht2⟩; have T2 := Lib.hid (TW.out.trans ht2); obtain ⟨z0, z1⟩ := HX.out w2 ht2; clear ht2 x0 x1)
        go_ret
        exact ⟨rfl, T2.out⟩
    · have h2i : ¬ (0 : Int) < (n : Int) := by omega
      have h2b : decide ((0 : Int) < (n : Int)) = false := by simpa using h2i
      have h2c : decide (0 < n) = false := by simpa using h2
      rw [h2c]
      go_enter Try.func77, Try.ntmps77
      go_wp2_with fail
      go_ret
      exact ⟨rfl, TW.out⟩
  · have h1i : ¬ (k.size : Int) ≤ 128 := by omega
    have h1b : decide ((k.size : Int) ≤ 128) = false := by simpa using h1i
    have h1c : decide (k.size ≤ 128) = false := by simpa using h1
    rw [h1c]
    go_enter Try.func77, Try.ntmps77
    go_wp2_with fail
    go_ret
    exact ⟨rfl, TW.out⟩
def okL (L : List Itm) (last : Int) (i : Nat) : Bool := match L[i]? with
  | none => false
  | some x => fit14 x last && (match i with
    | 0 => true
    | k + 1 => match L[k]? with
      | none => false
      | some y => lt14 y.k x.k)
def okI (L : List Itm) (last : Int) : Bool := (List.range L.length).all (okL L last)
theorem okI_false {L : List Itm} {last : Int} {i : Nat} (hi : i < L.length) (h : okL L last i = false) : okI L last = false := by
  unfold okI
  rw [List.all_eq_false]
  exact ⟨i, List.mem_range.2 hi, by rw [h]; decide⟩
theorem okI_true {L : List Itm} {last : Int} (h : ∀ j, j < L.length → okL L last j = true) : okI L last = true := by
  unfold okI
  rw [List.all_eq_true]
  exact fun j hj => h j (List.mem_range.1 hj)
theorem leq14 (a b : ByteArray) : (Op.bytesLess a.toList b.toList || a.toList == b.toList) = !lt14 b a := by
  rw [ByteArray.toList_eq, ByteArray.toList_eq]
  show (lt14 a b || a.data.toList == b.data.toList) = !lt14 b a
  cases h1 : lt14 a b with
  | true =>
    cases h2 : lt14 b a with
    | true => have := lt14_trans h1 h2; rw [lt14_self] at this; cases this
    | false => rfl
  | false =>
    cases h2 : lt14 b a with
    | true =>
      have : ¬ a.data.toList = b.data.toList := fun e => by rw [ba_ext e, lt14_self] at h2; cases h2
      simpa using this
    | false =>
      have := lt14_eq h1 h2
      subst this
      simp
theorem okI_at {L : List Itm} {last : Int} (h : okI L last = true) {i : Nat} {x : Itm} (hx : L[i]? = some x) : fit14 x last = true ∧ ∀ k y, i = k + 1 → L[k]? = some y → lt14 y.k x.k = true := by
  unfold okI at h
  rw [List.all_eq_true] at h
  have hl : i < L.length := by
    rcases Nat.lt_or_ge i L.length with h1 | h1
    · exact h1
    · rw [List.getElem?_eq_none h1] at hx; cases hx
  have h2 := h i (List.mem_range.2 hl)
  unfold okL at h2
  rw [hx] at h2
  simp only [Bool.and_eq_true] at h2
  refine ⟨h2.1, fun k y hk hy => ?_⟩
  subst hk
  have h3 := h2.2
  simp only [hy] at h3
  exact h3
theorem okI_ris {M : List (Itm × Value)} {last : Int} (h : okI (M.map (fun p : Itm × Value => p.1)) last = true) : risK (keysM M) := by
  have hs : ∀ d i (a b : ByteArray), (keysM M)[i]? = some a → (keysM M)[i + d + 1]? = some b → lt14 a b = true := by
    intro d
    induction d with
    | zero =>
      intro i a b ha hb
      simp only [keysM, List.getElem?_map, Option.map_eq_some_iff] at ha hb
      obtain ⟨p, hp, rfl⟩ := ha
      obtain ⟨r, hr, rfl⟩ := hb
      exact (okI_at h (i := i + 0 + 1) (x := r.1) (by rw [List.getElem?_map, hr]; rfl)).2 i p.1 rfl (by rw [List.getElem?_map, hp]; rfl)
    | succ d ih =>
      intro i a b ha hb
      have hl : i + (d + 1) + 1 < (keysM M).length := by
        rcases Nat.lt_or_ge (i + (d + 1) + 1) (keysM M).length with h1 | h1
        · exact h1
        · rw [List.getElem?_eq_none h1] at hb; cases hb
      obtain ⟨c, hc⟩ : ∃ c, (keysM M)[i + d + 1]? = some c := ⟨_, List.getElem?_eq_getElem (by omega)⟩
      have h1 := ih i a c ha hc
      have h2 : lt14 c b = true := by
        simp only [keysM, List.getElem?_map, Option.map_eq_some_iff] at hc hb
        obtain ⟨p, hp, rfl⟩ := hc
        obtain ⟨r, hr, rfl⟩ := hb
        exact (okI_at h (i := i + (d + 1) + 1) (x := r.1) (by rw [List.getElem?_map, hr]; rfl)).2 (i + d + 1) p.1 (by omega) (by rw [List.getElem?_map, hp]; rfl)
      exact lt14_trans h1 h2
  unfold risK
  rw [List.pairwise_iff_getElem]
  intro i j hi hj hij
  obtain ⟨d, rfl⟩ : ∃ d, j = i + d + 1 := ⟨j - i - 1, by omega⟩
  exact hs d i _ _ (List.getElem?_eq_getElem hi) (List.getElem?_eq_getElem hj)
theorem okI_fit {M : List (Itm × Value)} {last : Int} (h : okI (M.map (fun p : Itm × Value => p.1)) last = true) : ∀ p ∈ M, fit14 p.1 last = true := fun p hp => by
  obtain ⟨j, hj⟩ := List.getElem?_of_mem hp
  exact (okI_at h (i := j) (x := p.1) (by rw [List.getElem?_map, hj]; rfl)).1
theorem okI_ne {M : List (Itm × Value)} {last : Int} (h : okI (M.map (fun p : Itm × Value => p.1)) last = true) : ∀ p ∈ M, p.1.vs ≠ [] := fun p hp e => by
  have := okI_fit h p hp
  unfold fit14 at this
  rw [e] at this
  simp at this
theorem okI_bm {M : List (Itm × Value)} {last : Int} {N : Nat} (h : okI (M.map (fun p : Itm × Value => p.1)) last = true) (h1 : M.length ≤ N) (h2 : ∀ p ∈ M, p.1.vs.length ≤ N) : Bm N M := ⟨h1, fun p hp => ⟨h2 p hp, by
  have := okI_fit h p hp
  unfold fit14 at this
  simp only [Bool.and_eq_true, decide_eq_true_eq] at this
  exact this.1⟩⟩
set_option maxHeartbeats 8000000 in
theorem load_14 (M : List (Itm × Value)) (v : Value) (last mark : Int) (w : World) (h : Ix w v M) (hb : M.length ≤ 10000000 ∧ ∀ p ∈ M, p.1.vs.length ≤ 1000000000000000 ∧ p.1.k.size ≤ maxLen) (hbm : okI (M.map (fun p : Itm × Value => p.1)) last = true → ∀ p ∈ M, p.1.vs.length ≤ 10000000) (hcv : ∀ p ∈ M, Cv p.2) (hm : ¬ (mark < 0 ∨ last < mark ∨ 1152921504606846976 < last)) :
    Calls Try.prog 32 #[v, .int .i64 last, .int .i64 mark] w fun e w' => ((okI (M.map (fun p : Itm × Value => p.1)) last = true ∧ ∃ q vk g M', e = .returned (.tuple #[.pointer (some ⟨q, 0, none⟩), .int .i64 0]) ∧ Sp w' q vk g M' last mark ∧ M'.map (fun p : Itm × Value => p.1) = M.map (fun p : Itm × Value => p.1) ∧ (∀ k, Sw q vk g k → w.heap.size ≤ k)) ∨ (okI (M.map (fun p : Itm × Value => p.1)) last = false ∧ e = .returned (.tuple #[.pointer none, .int .i64 4]))) ∧ Turn (fun _ => False) w w' := by
  have HIX := Lib.hid h
  obtain ⟨A, c, rfl, hl, hrc, hiw⟩ := h
  obtain ⟨n, hn⟩ : ∃ n, M.length = n := ⟨_, rfl⟩
  have HN := Lib.hid hn
  have HR := Lib.hid hrc
  have HW := Lib.hid hiw
  have HB := Lib.hid hb
  have HBM := Lib.hid hbm
  have HCV := Lib.hid hcv
  have hn1 : n ≤ 10000000 := by rw [← hn]; exact hb.1
  rw [hn] at hl HIX ⊢
  have m1 : ¬ mark < 0 := fun h => hm (.inl h)
  have m2 : ¬ last < mark := fun h => hm (.inr (.inl h))
  have m3 : ¬ 1152921504606846976 < last := fun h => hm (.inr (.inr h))
  obtain ⟨R, hR⟩ : ∃ R, okI (M.map (fun p : Itm × Value => p.1)) last = R := ⟨_, rfl⟩
  have HRR := Lib.hid hR
  rw [hR]
  clear hn hrc hiw hb hbm hcv hm hR
  go_enter Try.func32, Try.ntmps32
  go_wp2_with fail
  go_loopw [8, 23] (fun v8 v23 wr => ∃ (i : Nat), i ≤ n ∧ v23 = .int .i64 i ∧ Hid (∀ j, j < i → okL (M.map (fun p : Itm × Value => p.1)) last j = true) ∧ Turn (fun _ => False) w wr) (fun _ v23 _ => n - (intOf v23).toNat)
  case atStart => exact ⟨0, Nat.zero_le _, rfl, Lib.hid (fun j hj => absurd hj (by omega)), Turn.refl _ _⟩
  case round =>
    obtain ⟨i, hi, rfl, HOK, ht⟩ := hrel
    obtain ⟨wx, rfl⟩ : ∃ W, W = wr := ⟨_, rfl⟩
    by_cases hlt : i < n
    · have hl1 : (i : Int) < (n : Int) := by omega
      have hl0 : (0 : Int) ≤ (i : Int) := by omega
      have hq := wrap_of ((i : Int) + 1) (by omega) (by omega)
      obtain ⟨p, hp⟩ : ∃ p, M[i]? = some p := ⟨_, List.getElem?_eq_getElem (by rw [HN.out]; exact hlt)⟩
      have hpm := List.mem_of_getElem? hp
      have hvv := HW.out p hpm
      obtain ⟨hlb, hkb⟩ := HB.out.2 p hpm
      have HX : Hid ((M.map (fun p : Itm × Value => p.1))[i]? = some p.1) := Lib.hid (by rw [List.getElem?_map, hp]; rfl)
      obtain ⟨b, o, rfl, hb1, hcc⟩ := HR.out.item (by rw [HN.out]; omega)
      obtain ⟨c0, c1⟩ := hcc wx ht i p hp
      have HFT0 := Lib.hid (fun W (hW : Turn (fun _ => False) w W) => fits14 p.1 p.2 last W (hvv.still hW) (by omega) hkb)
      have HPR : Hid (∀ k, i = k + 1 → ∃ y : Itm, (M.map (fun p : Itm × Value => p.1))[k]? = some y ∧ ∀ X, Turn (fun _ => False) w X → X.cell? ⟨b, o + k * 2, none⟩ = some (.string y.k)) := Lib.hid (fun k hk => by
        obtain ⟨y, hy⟩ : ∃ y, M[k]? = some y := ⟨_, List.getElem?_eq_getElem (by rw [HN.out]; omega)⟩
        exact ⟨y.1, by rw [List.getElem?_map, hy]; rfl, fun X hX => (hcc X hX k y hy).1⟩)
      obtain ⟨⟨pk, pvs⟩, pv⟩ := p
      simp only at hvv hlb hkb HX c0 c1 HFT0
      obtain ⟨AV, cV, rfl⟩ := hvv.len
      obtain ⟨m, hm⟩ : ∃ m, pvs.length = m := ⟨_, rfl⟩
      rw [hm] at c1 HFT0
      obtain ⟨W2, hW2⟩ : ∃ W, wx.alloc (.cells #[.string pk, .slice AV m cV] 40) = W := ⟨_, rfl⟩
      have TT2 : Hid (Turn (fun _ => False) w W2) := Lib.hid (hW2 ▸ ht.alloc _)
      have IB : Hid (Blk W2 wx.heap.size 40 [.string pk, .slice AV m cV]) := Lib.hid (hW2 ▸ Blk.new _ _ _)
      have HFT : Hid (∀ X, Turn (fun _ => False) W2 X → Calls Try.prog 77 #[.agg #[.string pk, .slice AV m cV], .int .i64 last] X fun e w' => ∃ v, e = .returned v ∧ (v = .bool (fit14 ⟨pk, pvs⟩ last) ∧ Turn (fun _ => False) W2 w')) := Lib.hid (fun X hX => (HFT0.out X (TT2.out.trans hX)).mono fun e w' ⟨h1, h2⟩ => ⟨_, h1, rfl, hX.trans h2⟩)
      have HXC : Hid (∀ X, Turn (fun _ => False) W2 X → X.cell? ⟨wx.heap.size, 0, none⟩ = some (.string pk) ∧ X.cell? ⟨wx.heap.size, 1, none⟩ = some (.slice AV m cV)) := Lib.hid (fun X hX => ⟨(IB.out.turn hX (fun h => h)).cell 0, (IB.out.turn hX (fun h => h)).cell 1⟩)
      clear hp hpm hvv hcc hb1 hm HFT0
      -- region
      cases hfit : fit14 ⟨pk, pvs⟩ last with
      | false =>
        have HBAD : Hid (R = false) := Lib.hid (by
          rw [← HRR.out]
          refine okI_false (i := i) (by rw [List.length_map, HN.out]; exact hlt) ?_
          unfold okL
          rw [HX.out]
          simp [hfit])
        rw [hfit] at HFT
        clear hfit
        go_wp2_with fail
        refine wp_region_noPanic ?_
        refine wp_region_held_drew (S := (fun X => Turn (fun _ => False) W2 X)) (by kernel_rfl) (Turn.refl (fun _ => False) _).drew (fun hHeld => ?_)
        refine wpAnyH_take (i := 0) (v := ?_) rfl (by kernel_rfl) (by kernel_rfl) (by kernel_rfl) (fun _ _ _ h => h) (Or.inl ⟨by rfl, ?_⟩) (by assumption) ?_
        rotate_left 1
        · intro w' hSw
          have hS1 := hSw
          obtain ⟨z1, z2⟩ := HXC.out _ hS1
          go_simp
          all_goals first | with_reducible rfl | (rw [if_neg (by omega)]; done) | (rw [if_pos (by omega)]; done)
        try simp only [List.getElem_toArray, List.getElem_cons_zero, List.getElem_cons_succ, Act.put, List.setIfInBounds_toArray, List.set_cons_zero, List.set_cons_succ]
        refine wpAnyH_take (i := 1) (v := ?_) rfl (by kernel_rfl) (by kernel_rfl) (by kernel_rfl) (fun _ _ _ h => h) (Or.inl ⟨by rfl, ?_⟩) (by assumption) ?_
        rotate_left 1
        · intro w' hSw
          go_simp
          all_goals first | with_reducible rfl | (rw [if_neg (by omega)]; done) | (rw [if_pos (by omega)]; done)
        try simp only [List.getElem_toArray, List.getElem_cons_zero, List.getElem_cons_succ, Act.put, List.setIfInBounds_toArray, List.set_cons_zero, List.set_cons_succ]
        refine wpAnyH_ready (rs := [2]) (by kernel_rfl) (by simp) ?_
        refine AllReadyH.cons rfl (fun K hK => ?_) AllReadyH.nil
        refine step_call rfl 77 Try.f77 _ _ rfl Try.func77 (by kernel_rfl) (by kernel_rfl) _ _ (HFT.out _ (Turn.refl _ _).drew) (by go_simp) ?_
        rintro v1 w1 ⟨rfl, ht1⟩
        have T1 := Lib.hid ht1
        clear ht1
        refine hK.out _ _ T1.out (fun hHeld => ?_)
        clear hK K
        try simp only [List.getElem_toArray, List.getElem_cons_zero, List.getElem_cons_succ, Act.put, List.setIfInBounds_toArray, List.set_cons_zero, List.set_cons_succ]
        refine wpAnyH_take (i := 3) (v := ?_) rfl (by kernel_rfl) (by kernel_rfl) (by kernel_rfl) (fun _ _ _ h => h) (Or.inl ⟨by rfl, ?_⟩) (by assumption) ?_
        rotate_left 1
        · intro w' hSw
          go_simp
          all_goals first | with_reducible rfl | (rw [if_neg (by omega)]; done) | (rw [if_pos (by omega)]; done)
        try simp only [List.getElem_toArray, List.getElem_cons_zero, List.getElem_cons_succ, Act.put, List.setIfInBounds_toArray, List.set_cons_zero, List.set_cons_succ]
        refine wpAnyH_take (i := 4) (v := ?_) rfl (by kernel_rfl) (by kernel_rfl) (by kernel_rfl) (fun _ _ _ h => h) (Or.inl ⟨by rfl, ?_⟩) (by assumption) ?_
        rotate_left 1
        · intro w' hSw
          go_simp
          all_goals first | with_reducible rfl | (rw [if_neg (by omega)]; done) | (rw [if_pos (by omega)]; done)
        try simp only [List.getElem_toArray, List.getElem_cons_zero, List.getElem_cons_succ, Act.put, List.setIfInBounds_toArray, List.set_cons_zero, List.set_cons_succ]
        refine wpAnyH_take (i := 5) (v := undef) rfl (by kernel_rfl) (by kernel_rfl) (by kernel_rfl) (fun _ _ _ h => h) (Or.inr ⟨by rfl, rfl⟩) (by assumption) ?_
        try simp only [List.getElem_toArray, List.getElem_cons_zero, List.getElem_cons_succ, Act.put, List.setIfInBounds_toArray, List.set_cons_zero, List.set_cons_succ]
        refine wpAnyH_take (i := 6) (v := undef) rfl (by kernel_rfl) (by kernel_rfl) (by kernel_rfl) (fun _ _ _ h => h) (Or.inr ⟨by rfl, rfl⟩) (by assumption) ?_
        try simp only [List.getElem_toArray, List.getElem_cons_zero, List.getElem_cons_succ, Act.put, List.setIfInBounds_toArray, List.set_cons_zero, List.set_cons_succ]
        refine wpAnyH_take (i := 7) (v := undef) rfl (by kernel_rfl) (by kernel_rfl) (by kernel_rfl) (fun _ _ _ h => h) (Or.inr ⟨by rfl, rfl⟩) (by assumption) ?_
        try simp only [List.getElem_toArray, List.getElem_cons_zero, List.getElem_cons_succ, Act.put, List.setIfInBounds_toArray, List.set_cons_zero, List.set_cons_succ]
        refine wpAnyH_take (i := 8) (v := undef) rfl (by kernel_rfl) (by kernel_rfl) (by kernel_rfl) (fun _ _ _ h => h) (Or.inr ⟨by rfl, rfl⟩) (by assumption) ?_
        try simp only [List.getElem_toArray, List.getElem_cons_zero, List.getElem_cons_succ, Act.put, List.setIfInBounds_toArray, List.set_cons_zero, List.set_cons_succ]
        refine wpAnyH_take (i := 9) (v := undef) rfl (by kernel_rfl) (by kernel_rfl) (by kernel_rfl) (fun _ _ _ h => h) (Or.inr ⟨by rfl, rfl⟩) (by assumption) ?_
        try simp only [List.getElem_toArray, List.getElem_cons_zero, List.getElem_cons_succ, Act.put, List.setIfInBounds_toArray, List.set_cons_zero, List.set_cons_succ]
        refine wpAnyH_take (i := 10) (v := undef) rfl (by kernel_rfl) (by kernel_rfl) (by kernel_rfl) (fun _ _ _ h => h) (Or.inr ⟨by rfl, rfl⟩) (by assumption) ?_
        try simp only [List.getElem_toArray, List.getElem_cons_zero, List.getElem_cons_succ, Act.put, List.setIfInBounds_toArray, List.set_cons_zero, List.set_cons_succ]
        refine wpAnyH_take (i := 11) (v := undef) rfl (by kernel_rfl) (by kernel_rfl) (by kernel_rfl) (fun _ _ _ h => h) (Or.inr ⟨by rfl, rfl⟩) (by assumption) ?_
        try simp only [List.getElem_toArray, List.getElem_cons_zero, List.getElem_cons_succ, Act.put, List.setIfInBounds_toArray, List.set_cons_zero, List.set_cons_succ]
        refine wpAnyH_take (i := 12) (v := undef) rfl (by kernel_rfl) (by kernel_rfl) (by kernel_rfl) (fun _ _ _ h => h) (Or.inr ⟨by rfl, rfl⟩) (by assumption) ?_
        try simp only [List.getElem_toArray, List.getElem_cons_zero, List.getElem_cons_succ, Act.put, List.setIfInBounds_toArray, List.set_cons_zero, List.set_cons_succ]
        refine wpAnyH_take (i := 13) (v := undef) rfl (by kernel_rfl) (by kernel_rfl) (by kernel_rfl) (fun _ _ _ h => h) (Or.inr ⟨by rfl, rfl⟩) (by assumption) ?_
        try simp only [List.getElem_toArray, List.getElem_cons_zero, List.getElem_cons_succ, Act.put, List.setIfInBounds_toArray, List.set_cons_zero, List.set_cons_succ]
        refine wpAnyH_take (i := 14) (v := undef) rfl (by kernel_rfl) (by kernel_rfl) (by kernel_rfl) (fun _ _ _ h => h) (Or.inr ⟨by rfl, rfl⟩) (by assumption) ?_
        try simp only [List.getElem_toArray, List.getElem_cons_zero, List.getElem_cons_succ, Act.put, List.setIfInBounds_toArray, List.set_cons_zero, List.set_cons_succ]
        refine wpAnyH_take (i := 15) (v := undef) rfl (by kernel_rfl) (by kernel_rfl) (by kernel_rfl) (fun _ _ _ h => h) (Or.inr ⟨by rfl, rfl⟩) (by assumption) ?_
        try simp only [List.getElem_toArray, List.getElem_cons_zero, List.getElem_cons_succ, Act.put, List.setIfInBounds_toArray, List.set_cons_zero, List.set_cons_succ]
        refine wpAnyH_take (i := 16) (v := undef) rfl (by kernel_rfl) (by kernel_rfl) (by kernel_rfl) (fun _ _ _ h => h) (Or.inr ⟨by rfl, rfl⟩) (by assumption) ?_
        try simp only [List.getElem_toArray, List.getElem_cons_zero, List.getElem_cons_succ, Act.put, List.setIfInBounds_toArray, List.set_cons_zero, List.set_cons_succ]
        refine wpAnyH_take (i := 17) (v := undef) rfl (by kernel_rfl) (by kernel_rfl) (by kernel_rfl) (fun _ _ _ h => h) (Or.inr ⟨by rfl, rfl⟩) (by assumption) ?_
        try simp only [List.getElem_toArray, List.getElem_cons_zero, List.getElem_cons_succ, Act.put, List.setIfInBounds_toArray, List.set_cons_zero, List.set_cons_succ]
        refine wpAnyH_take (i := 18) (v := ?_) rfl (by kernel_rfl) (by kernel_rfl) (by kernel_rfl) (fun _ _ _ h => h) (Or.inl ⟨by rfl, ?_⟩) (by assumption) ?_
        rotate_left 1
        · intro w' hSw
          go_simp
          all_goals first | with_reducible rfl | (rw [if_neg (by omega)]; done) | (rw [if_pos (by omega)]; done)
        try simp only [List.getElem_toArray, List.getElem_cons_zero, List.getElem_cons_succ, Act.put, List.setIfInBounds_toArray, List.set_cons_zero, List.set_cons_succ]
        refine wpAnyH_done (by kernel_rfl) ?_ _
        refine NoPanic.normal ?_
        go_wp2_with fail
        go_ret2
        exact ⟨.inr ⟨HBAD.out, rfl⟩, TT2.out.trans T1.out⟩
      | true =>
        rw [hfit] at HFT
        rcases Nat.eq_zero_or_pos i with hz | hz
        · have HNX : Hid (∀ j, j < i + 1 → okL (M.map (fun p : Itm × Value => p.1)) last j = true) := Lib.hid (fun j hj => by
            obtain rfl : j = i := by omega
            subst hz
            unfold okL
            rw [HX.out]
            simp [hfit])
          have hgt : decide (0 < i) = false := by simp; omega
          have HZ := Lib.hid hz
          clear hfit hz
          go_wp2_with fail
          refine wp_region_noPanic ?_
          refine wp_region_held_drew (S := (fun X => Turn (fun _ => False) W2 X)) (by kernel_rfl) (Turn.refl (fun _ => False) _).drew (fun hHeld => ?_)
          refine wpAnyH_take (i := 0) (v := ?_) rfl (by kernel_rfl) (by kernel_rfl) (by kernel_rfl) (fun _ _ _ h => h) (Or.inl ⟨by rfl, ?_⟩) (by assumption) ?_
          rotate_left 1
          · intro w' hSw
            have hS1 := hSw
            obtain ⟨z1, z2⟩ := HXC.out _ hS1
            go_simp
            all_goals first | with_reducible rfl | (rw [if_neg (by omega)]; done) | (rw [if_pos (by omega)]; done)
          try simp only [List.getElem_toArray, List.getElem_cons_zero, List.getElem_cons_succ, Act.put, List.setIfInBounds_toArray, List.set_cons_zero, List.set_cons_succ]
          refine wpAnyH_take (i := 1) (v := ?_) rfl (by kernel_rfl) (by kernel_rfl) (by kernel_rfl) (fun _ _ _ h => h) (Or.inl ⟨by rfl, ?_⟩) (by assumption) ?_
          rotate_left 1
          · intro w' hSw
            go_simp
            all_goals first | with_reducible rfl | (rw [if_neg (by omega)]; done) | (rw [if_pos (by omega)]; done)
          try simp only [List.getElem_toArray, List.getElem_cons_zero, List.getElem_cons_succ, Act.put, List.setIfInBounds_toArray, List.set_cons_zero, List.set_cons_succ]
          refine wpAnyH_ready (rs := [2]) (by kernel_rfl) (by simp) ?_
          refine AllReadyH.cons rfl (fun K hK => ?_) AllReadyH.nil
          refine step_call rfl 77 Try.f77 _ _ rfl Try.func77 (by kernel_rfl) (by kernel_rfl) _ _ (HFT.out _ (Turn.refl _ _).drew) (by go_simp) ?_
          rintro v1 w1 ⟨rfl, ht1⟩
          have T1 := Lib.hid ht1
          clear ht1
          refine hK.out _ _ T1.out (fun hHeld => ?_)
          clear hK K
          try simp only [List.getElem_toArray, List.getElem_cons_zero, List.getElem_cons_succ, Act.put, List.setIfInBounds_toArray, List.set_cons_zero, List.set_cons_succ]
          refine wpAnyH_take (i := 3) (v := ?_) rfl (by kernel_rfl) (by kernel_rfl) (by kernel_rfl) (fun _ _ _ h => h) (Or.inl ⟨by rfl, ?_⟩) (by assumption) ?_
          rotate_left 1
          · intro w' hSw
            go_simp
            all_goals first | with_reducible rfl | (rw [if_neg (by omega)]; done) | (rw [if_pos (by omega)]; done)
          try simp only [List.getElem_toArray, List.getElem_cons_zero, List.getElem_cons_succ, Act.put, List.setIfInBounds_toArray, List.set_cons_zero, List.set_cons_succ]
          refine wpAnyH_take (i := 4) (v := ?_) rfl (by kernel_rfl) (by kernel_rfl) (by kernel_rfl) (fun _ _ _ h => h) (Or.inl ⟨by rfl, ?_⟩) (by assumption) ?_
          rotate_left 1
          · intro w' hSw
            go_simp
            all_goals first | with_reducible rfl | (rw [if_neg (by omega)]; done) | (rw [if_pos (by omega)]; done)
          try simp only [List.getElem_toArray, List.getElem_cons_zero, List.getElem_cons_succ, Act.put, List.setIfInBounds_toArray, List.set_cons_zero, List.set_cons_succ]
          refine wpAnyH_take (i := 5) (v := ?_) rfl (by kernel_rfl) (by kernel_rfl) (by kernel_rfl) (fun _ _ _ h => h) (Or.inl ⟨by rfl, ?_⟩) (by assumption) ?_
          rotate_left 1
          · intro w' hSw
            go_simp
            all_goals first | with_reducible rfl | (rw [if_neg (by omega)]; done) | (rw [if_pos (by omega)]; done)
          try simp only [List.getElem_toArray, List.getElem_cons_zero, List.getElem_cons_succ, Act.put, List.setIfInBounds_toArray, List.set_cons_zero, List.set_cons_succ]
          refine wpAnyH_take (i := 6) (v := ?_) rfl (by kernel_rfl) (by kernel_rfl) (by kernel_rfl) (fun _ _ _ h => h) (Or.inl ⟨by rfl, ?_⟩) (by assumption) ?_
          rotate_left 1
          · intro w' hSw
            go_simp
            all_goals first | with_reducible rfl | (rw [if_neg (by omega)]; done) | (rw [if_pos (by omega)]; done)
          try simp only [List.getElem_toArray, List.getElem_cons_zero, List.getElem_cons_succ, Act.put, List.setIfInBounds_toArray, List.set_cons_zero, List.set_cons_succ]
          refine wpAnyH_take (i := 7) (v := ?_) rfl (by kernel_rfl) (by kernel_rfl) (by kernel_rfl) (fun _ _ _ h => h) (Or.inl ⟨by rfl, ?_⟩) (by assumption) ?_
          rotate_left 1
          · intro w' hSw
            go_simp
            all_goals first | with_reducible rfl | (rw [if_neg (by omega)]; done) | (rw [if_pos (by omega)]; done)
          try simp only [List.getElem_toArray, List.getElem_cons_zero, List.getElem_cons_succ, Act.put, List.setIfInBounds_toArray, List.set_cons_zero, List.set_cons_succ]
          refine wpAnyH_take (i := 8) (v := undef) rfl (by kernel_rfl) (by kernel_rfl) (by kernel_rfl) (fun _ _ _ h => h) (Or.inr ⟨by rfl, rfl⟩) (by assumption) ?_
          try simp only [List.getElem_toArray, List.getElem_cons_zero, List.getElem_cons_succ, Act.put, List.setIfInBounds_toArray, List.set_cons_zero, List.set_cons_succ]
          refine wpAnyH_take (i := 9) (v := undef) rfl (by kernel_rfl) (by kernel_rfl) (by kernel_rfl) (fun _ _ _ h => h) (Or.inr ⟨by rfl, rfl⟩) (by assumption) ?_
          try simp only [List.getElem_toArray, List.getElem_cons_zero, List.getElem_cons_succ, Act.put, List.setIfInBounds_toArray, List.set_cons_zero, List.set_cons_succ]
          refine wpAnyH_take (i := 10) (v := undef) rfl (by kernel_rfl) (by kernel_rfl) (by kernel_rfl) (fun _ _ _ h => h) (Or.inr ⟨by rfl, rfl⟩) (by assumption) ?_
          try simp only [List.getElem_toArray, List.getElem_cons_zero, List.getElem_cons_succ, Act.put, List.setIfInBounds_toArray, List.set_cons_zero, List.set_cons_succ]
          refine wpAnyH_take (i := 11) (v := undef) rfl (by kernel_rfl) (by kernel_rfl) (by kernel_rfl) (fun _ _ _ h => h) (Or.inr ⟨by rfl, rfl⟩) (by assumption) ?_
          try simp only [List.getElem_toArray, List.getElem_cons_zero, List.getElem_cons_succ, Act.put, List.setIfInBounds_toArray, List.set_cons_zero, List.set_cons_succ]
          refine wpAnyH_take (i := 12) (v := undef) rfl (by kernel_rfl) (by kernel_rfl) (by kernel_rfl) (fun _ _ _ h => h) (Or.inr ⟨by rfl, rfl⟩) (by assumption) ?_
          try simp only [List.getElem_toArray, List.getElem_cons_zero, List.getElem_cons_succ, Act.put, List.setIfInBounds_toArray, List.set_cons_zero, List.set_cons_succ]
          refine wpAnyH_take (i := 13) (v := undef) rfl (by kernel_rfl) (by kernel_rfl) (by kernel_rfl) (fun _ _ _ h => h) (Or.inr ⟨by rfl, rfl⟩) (by assumption) ?_
          try simp only [List.getElem_toArray, List.getElem_cons_zero, List.getElem_cons_succ, Act.put, List.setIfInBounds_toArray, List.set_cons_zero, List.set_cons_succ]
          refine wpAnyH_take (i := 14) (v := undef) rfl (by kernel_rfl) (by kernel_rfl) (by kernel_rfl) (fun _ _ _ h => h) (Or.inr ⟨by rfl, rfl⟩) (by assumption) ?_
          try simp only [List.getElem_toArray, List.getElem_cons_zero, List.getElem_cons_succ, Act.put, List.setIfInBounds_toArray, List.set_cons_zero, List.set_cons_succ]
          refine wpAnyH_take (i := 15) (v := undef) rfl (by kernel_rfl) (by kernel_rfl) (by kernel_rfl) (fun _ _ _ h => h) (Or.inr ⟨by rfl, rfl⟩) (by assumption) ?_
          try simp only [List.getElem_toArray, List.getElem_cons_zero, List.getElem_cons_succ, Act.put, List.setIfInBounds_toArray, List.set_cons_zero, List.set_cons_succ]
          refine wpAnyH_take (i := 16) (v := undef) rfl (by kernel_rfl) (by kernel_rfl) (by kernel_rfl) (fun _ _ _ h => h) (Or.inr ⟨by rfl, rfl⟩) (by assumption) ?_
          try simp only [List.getElem_toArray, List.getElem_cons_zero, List.getElem_cons_succ, Act.put, List.setIfInBounds_toArray, List.set_cons_zero, List.set_cons_succ]
          refine wpAnyH_take (i := 17) (v := ?_) rfl (by kernel_rfl) (by kernel_rfl) (by kernel_rfl) (fun _ _ _ h => h) (Or.inl ⟨by rfl, ?_⟩) (by assumption) ?_
          rotate_left 1
          · intro w' hSw
            go_simp
            all_goals first | with_reducible rfl | (rw [if_neg (by omega)]; done) | (rw [if_pos (by omega)]; done)
          try simp only [List.getElem_toArray, List.getElem_cons_zero, List.getElem_cons_succ, Act.put, List.setIfInBounds_toArray, List.set_cons_zero, List.set_cons_succ]
          refine wpAnyH_take (i := 18) (v := ?_) rfl (by kernel_rfl) (by kernel_rfl) (by kernel_rfl) (fun _ _ _ h => h) (Or.inl ⟨by rfl, ?_⟩) (by assumption) ?_
          rotate_left 1
          · intro w' hSw
            go_simp
            all_goals first | with_reducible rfl | (rw [if_neg (by omega)]; done) | (rw [if_pos (by omega)]; done)
          try simp only [List.getElem_toArray, List.getElem_cons_zero, List.getElem_cons_succ, Act.put, List.setIfInBounds_toArray, List.set_cons_zero, List.set_cons_succ]
          refine wpAnyH_done (by kernel_rfl) ?_ _
          refine NoPanic.normal ?_
          go_wp2_with fail
          go_roundw
          case rel => exact ⟨i + 1, by omega, by simp [hq], HNX, TT2.out.trans T1.out⟩
          case measure => simp [intOf, hq]; omega
        · obtain ⟨i0, hi0⟩ : ∃ i0, i = i0 + 1 := ⟨i - 1, by omega⟩
          obtain ⟨y, hy, HYC0⟩ := HPR.out i0 hi0
          have HYC : Hid (∀ X, Turn (fun _ => False) W2 X → X.cell? ⟨b, o + i0 * 2, none⟩ = some (.string y.k)) := Lib.hid (fun X hX => HYC0 X (TT2.out.trans hX))
          have HOKL : Hid (okL (M.map (fun p : Itm × Value => p.1)) last i = lt14 y.k pk) := Lib.hid (by
            subst hi0
            unfold okL
            rw [HX.out]
            simp only [hfit, hy, Bool.true_and])
          have hgt : decide (0 < i) = true := by simp; omega
          have hsub := (wrap_of ((i : Int) - 1) (by omega) (by omega)).trans (show (i : Int) - 1 = (i0 : Int) by omega)
          have hi00 : (0 : Int) ≤ (i0 : Int) := by omega
          have hi01 : (i0 : Int) < (n : Int) := by omega
          obtain ⟨yk, yvs⟩ := y
          simp only at HYC HOKL
          have hlq := leq14 pk yk
          have HII := Lib.hid hi0
          clear hfit hy HYC0 hi0
          cases hlb2 : lt14 yk pk with
          | false =>
            rw [hlb2] at hlq HOKL
            have HBAD : Hid (R = false) := Lib.hid (by
              rw [← HRR.out]
              exact okI_false (i := i) (by rw [List.length_map, HN.out]; exact hlt) HOKL.out)
            clear hlb2
            go_wp2_with fail
            refine wp_region_noPanic ?_
            refine wp_region_held_drew (S := (fun X => Turn (fun _ => False) W2 X)) (by kernel_rfl) (Turn.refl (fun _ => False) _).drew (fun hHeld => ?_)
            refine wpAnyH_take (i := 0) (v := ?_) rfl (by kernel_rfl) (by kernel_rfl) (by kernel_rfl) (fun _ _ _ h => h) (Or.inl ⟨by rfl, ?_⟩) (by assumption) ?_
            rotate_left 1
            · intro w' hSw
              have hS1 := hSw
              obtain ⟨z1, z2⟩ := HXC.out _ hS1
              go_simp
              all_goals first | with_reducible rfl | (rw [if_neg (by omega)]; done) | (rw [if_pos (by omega)]; done)
            try simp only [List.getElem_toArray, List.getElem_cons_zero, List.getElem_cons_succ, Act.put, List.setIfInBounds_toArray, List.set_cons_zero, List.set_cons_succ]
            refine wpAnyH_take (i := 1) (v := ?_) rfl (by kernel_rfl) (by kernel_rfl) (by kernel_rfl) (fun _ _ _ h => h) (Or.inl ⟨by rfl, ?_⟩) (by assumption) ?_
            rotate_left 1
            · intro w' hSw
              go_simp
              all_goals first | with_reducible rfl | (rw [if_neg (by omega)]; done) | (rw [if_pos (by omega)]; done)
            try simp only [List.getElem_toArray, List.getElem_cons_zero, List.getElem_cons_succ, Act.put, List.setIfInBounds_toArray, List.set_cons_zero, List.set_cons_succ]
            refine wpAnyH_ready (rs := [2]) (by kernel_rfl) (by simp) ?_
            refine AllReadyH.cons rfl (fun K hK => ?_) AllReadyH.nil
            refine step_call rfl 77 Try.f77 _ _ rfl Try.func77 (by kernel_rfl) (by kernel_rfl) _ _ (HFT.out _ (Turn.refl _ _).drew) (by go_simp) ?_
            rintro v1 w1 ⟨rfl, ht1⟩
            have T1 := Lib.hid ht1
            clear ht1
            refine hK.out _ _ T1.out (fun hHeld => ?_)
            clear hK K
            try simp only [List.getElem_toArray, List.getElem_cons_zero, List.getElem_cons_succ, Act.put, List.setIfInBounds_toArray, List.set_cons_zero, List.set_cons_succ]
            refine wpAnyH_take (i := 3) (v := ?_) rfl (by kernel_rfl) (by kernel_rfl) (by kernel_rfl) (fun _ _ _ h => h) (Or.inl ⟨by rfl, ?_⟩) (by assumption) ?_
            rotate_left 1
            · intro w' hSw
              go_simp
              all_goals first | with_reducible rfl | (rw [if_neg (by omega)]; done) | (rw [if_pos (by omega)]; done)
            try simp only [List.getElem_toArray, List.getElem_cons_zero, List.getElem_cons_succ, Act.put, List.setIfInBounds_toArray, List.set_cons_zero, List.set_cons_succ]
            refine wpAnyH_take (i := 4) (v := ?_) rfl (by kernel_rfl) (by kernel_rfl) (by kernel_rfl) (fun _ _ _ h => h) (Or.inl ⟨by rfl, ?_⟩) (by assumption) ?_
            rotate_left 1
            · intro w' hSw
              go_simp
              all_goals first | with_reducible rfl | (rw [if_neg (by omega)]; done) | (rw [if_pos (by omega)]; done)
            try simp only [List.getElem_toArray, List.getElem_cons_zero, List.getElem_cons_succ, Act.put, List.setIfInBounds_toArray, List.set_cons_zero, List.set_cons_succ]
            refine wpAnyH_take (i := 5) (v := ?_) rfl (by kernel_rfl) (by kernel_rfl) (by kernel_rfl) (fun _ _ _ h => h) (Or.inl ⟨by rfl, ?_⟩) (by assumption) ?_
            rotate_left 1
            · intro w' hSw
              go_simp
              all_goals first | with_reducible rfl | (rw [if_neg (by omega)]; done) | (rw [if_pos (by omega)]; done)
            try simp only [List.getElem_toArray, List.getElem_cons_zero, List.getElem_cons_succ, Act.put, List.setIfInBounds_toArray, List.set_cons_zero, List.set_cons_succ]
            refine wpAnyH_take (i := 6) (v := ?_) rfl (by kernel_rfl) (by kernel_rfl) (by kernel_rfl) (fun _ _ _ h => h) (Or.inl ⟨by rfl, ?_⟩) (by assumption) ?_
            rotate_left 1
            · intro w' hSw
              go_simp
              all_goals first | with_reducible rfl | (rw [if_neg (by omega)]; done) | (rw [if_pos (by omega)]; done)
            try simp only [List.getElem_toArray, List.getElem_cons_zero, List.getElem_cons_succ, Act.put, List.setIfInBounds_toArray, List.set_cons_zero, List.set_cons_succ]
            refine wpAnyH_take (i := 7) (v := ?_) rfl (by kernel_rfl) (by kernel_rfl) (by kernel_rfl) (fun _ _ _ h => h) (Or.inl ⟨by rfl, ?_⟩) (by assumption) ?_
            rotate_left 1
            · intro w' hSw
              go_simp
              all_goals first | with_reducible rfl | (rw [if_neg (by omega)]; done) | (rw [if_pos (by omega)]; done)
            try simp only [List.getElem_toArray, List.getElem_cons_zero, List.getElem_cons_succ, Act.put, List.setIfInBounds_toArray, List.set_cons_zero, List.set_cons_succ]
            refine wpAnyH_take (i := 8) (v := ?_) rfl (by kernel_rfl) (by kernel_rfl) (by kernel_rfl) (fun _ _ _ h => h) (Or.inl ⟨by rfl, ?_⟩) (by assumption) ?_
            rotate_left 1
            · intro w' hSw
              go_simp
              all_goals first | with_reducible rfl | (rw [if_neg (by omega)]; done) | (rw [if_pos (by omega)]; done)
            try simp only [List.getElem_toArray, List.getElem_cons_zero, List.getElem_cons_succ, Act.put, List.setIfInBounds_toArray, List.set_cons_zero, List.set_cons_succ]
            refine wpAnyH_take (i := 9) (v := ?_) rfl (by kernel_rfl) (by kernel_rfl) (by kernel_rfl) (fun _ _ _ h => h) (Or.inl ⟨by rfl, ?_⟩) (by assumption) ?_
            rotate_left 1
            · intro w' hSw
              have hS1 := hSw
              obtain ⟨z1, z2⟩ := HXC.out _ hS1
              go_simp
              all_goals first | with_reducible rfl | (rw [if_neg (by omega)]; done) | (rw [if_pos (by omega)]; done)
            try simp only [List.getElem_toArray, List.getElem_cons_zero, List.getElem_cons_succ, Act.put, List.setIfInBounds_toArray, List.set_cons_zero, List.set_cons_succ]
            refine wpAnyH_take (i := 10) (v := ?_) rfl (by kernel_rfl) (by kernel_rfl) (by kernel_rfl) (fun _ _ _ h => h) (Or.inl ⟨by rfl, ?_⟩) (by assumption) ?_
            rotate_left 1
            · intro w' hSw
              go_simp
              all_goals first | with_reducible rfl | (rw [if_neg (by omega)]; done) | (rw [if_pos (by omega)]; done)
            try simp only [List.getElem_toArray, List.getElem_cons_zero, List.getElem_cons_succ, Act.put, List.setIfInBounds_toArray, List.set_cons_zero, List.set_cons_succ]
            refine wpAnyH_take (i := 11) (v := ?_) rfl (by kernel_rfl) (by kernel_rfl) (by kernel_rfl) (fun _ _ _ h => h) (Or.inl ⟨by rfl, ?_⟩) (by assumption) ?_
            rotate_left 1
            · intro w' hSw
              go_simp
              all_goals first | with_reducible rfl | (rw [if_neg (by omega)]; done) | (rw [if_pos (by omega)]; done)
            try simp only [List.getElem_toArray, List.getElem_cons_zero, List.getElem_cons_succ, Act.put, List.setIfInBounds_toArray, List.set_cons_zero, List.set_cons_succ]
            refine wpAnyH_take (i := 12) (v := ?_) rfl (by kernel_rfl) (by kernel_rfl) (by kernel_rfl) (fun _ _ _ h => h) (Or.inl ⟨by rfl, ?_⟩) (by assumption) ?_
            rotate_left 1
            · intro w' hSw
              go_simp
              all_goals first | with_reducible rfl | (rw [if_neg (by omega)]; done) | (rw [if_pos (by omega)]; done)
            try simp only [List.getElem_toArray, List.getElem_cons_zero, List.getElem_cons_succ, Act.put, List.setIfInBounds_toArray, List.set_cons_zero, List.set_cons_succ]
            refine wpAnyH_take (i := 13) (v := ?_) rfl (by kernel_rfl) (by kernel_rfl) (by kernel_rfl) (fun _ _ _ h => h) (Or.inl ⟨by rfl, ?_⟩) (by assumption) ?_
            rotate_left 1
            · intro w' hSw
              go_simp
              all_goals first | with_reducible rfl | (rw [if_neg (by omega)]; done) | (rw [if_pos (by omega)]; done)
            try simp only [List.getElem_toArray, List.getElem_cons_zero, List.getElem_cons_succ, Act.put, List.setIfInBounds_toArray, List.set_cons_zero, List.set_cons_succ]
            refine wpAnyH_take (i := 14) (v := ?_) rfl (by kernel_rfl) (by kernel_rfl) (by kernel_rfl) (fun _ _ _ h => h) (Or.inl ⟨by rfl, ?_⟩) (by assumption) ?_
            rotate_left 1
            · intro w' hSw
              go_simp
              all_goals first | with_reducible rfl | (rw [if_neg (by omega)]; done) | (rw [if_pos (by omega)]; done)
            try simp only [List.getElem_toArray, List.getElem_cons_zero, List.getElem_cons_succ, Act.put, List.setIfInBounds_toArray, List.set_cons_zero, List.set_cons_succ]
            refine wpAnyH_take (i := 15) (v := ?_) rfl (by kernel_rfl) (by kernel_rfl) (by kernel_rfl) (fun _ _ _ h => h) (Or.inl ⟨by rfl, ?_⟩) (by assumption) ?_
            rotate_left 1
            · intro w' hSw
              have hS1 := hSw
              have z3 := HYC.out _ hS1
              go_simp
              all_goals first | with_reducible rfl | (rw [if_neg (by omega)]; done) | (rw [if_pos (by omega)]; done)
            try simp only [List.getElem_toArray, List.getElem_cons_zero, List.getElem_cons_succ, Act.put, List.setIfInBounds_toArray, List.set_cons_zero, List.set_cons_succ]
            refine wpAnyH_take (i := 16) (v := ?_) rfl (by kernel_rfl) (by kernel_rfl) (by kernel_rfl) (fun _ _ _ h => h) (Or.inl ⟨by rfl, ?_⟩) (by assumption) ?_
            rotate_left 1
            · intro w' hSw
              go_simp
              all_goals first | with_reducible rfl | (rw [if_neg (by omega)]; done) | (rw [if_pos (by omega)]; done)
            try simp only [List.getElem_toArray, List.getElem_cons_zero, List.getElem_cons_succ, Act.put, List.setIfInBounds_toArray, List.set_cons_zero, List.set_cons_succ]
            refine wpAnyH_take (i := 17) (v := ?_) rfl (by kernel_rfl) (by kernel_rfl) (by kernel_rfl) (fun _ _ _ h => h) (Or.inl ⟨by rfl, ?_⟩) (by assumption) ?_
            rotate_left 1
            · intro w' hSw
              go_simp
              all_goals first | with_reducible rfl | (rw [if_neg (by omega)]; done) | (rw [if_pos (by omega)]; done)
            try simp only [List.getElem_toArray, List.getElem_cons_zero, List.getElem_cons_succ, Act.put, List.setIfInBounds_toArray, List.set_cons_zero, List.set_cons_succ]
            refine wpAnyH_take (i := 18) (v := ?_) rfl (by kernel_rfl) (by kernel_rfl) (by kernel_rfl) (fun _ _ _ h => h) (Or.inl ⟨by rfl, ?_⟩) (by assumption) ?_
            rotate_left 1
            · intro w' hSw
              go_simp
              all_goals first | with_reducible rfl | (rw [if_neg (by omega)]; done) | (rw [if_pos (by omega)]; done)
            try simp only [List.getElem_toArray, List.getElem_cons_zero, List.getElem_cons_succ, Act.put, List.setIfInBounds_toArray, List.set_cons_zero, List.set_cons_succ]
            refine wpAnyH_done (by kernel_rfl) ?_ _
            refine NoPanic.normal ?_
            go_wp2_with fail
            go_ret2
            exact ⟨.inr ⟨HBAD.out, rfl⟩, TT2.out.trans T1.out⟩
          | true =>
            rw [hlb2] at hlq HOKL
            have HNX : Hid (∀ j, j < i + 1 → okL (M.map (fun p : Itm × Value => p.1)) last j = true) := Lib.hid (fun j hj => by
              rcases Nat.lt_or_ge j i with h | h
              · exact HOK.out j h
              · obtain rfl : j = i := by omega
                exact HOKL.out)
            clear hlb2
            go_wp2_with fail
            refine wp_region_noPanic ?_
            refine wp_region_held_drew (S := (fun X => Turn (fun _ => False) W2 X)) (by kernel_rfl) (Turn.refl (fun _ => False) _).drew (fun hHeld => ?_)
            refine wpAnyH_take (i := 0) (v := ?_) rfl (by kernel_rfl) (by kernel_rfl) (by kernel_rfl) (fun _ _ _ h => h) (Or.inl ⟨by rfl, ?_⟩) (by assumption) ?_
            rotate_left 1
            · intro w' hSw
              have hS1 := hSw
              obtain ⟨z1, z2⟩ := HXC.out _ hS1
              go_simp
              all_goals first | with_reducible rfl | (rw [if_neg (by omega)]; done) | (rw [if_pos (by omega)]; done)
            try simp only [List.getElem_toArray, List.getElem_cons_zero, List.getElem_cons_succ, Act.put, List.setIfInBounds_toArray, List.set_cons_zero, List.set_cons_succ]
            refine wpAnyH_take (i := 1) (v := ?_) rfl (by kernel_rfl) (by kernel_rfl) (by kernel_rfl) (fun _ _ _ h => h) (Or.inl ⟨by rfl, ?_⟩) (by assumption) ?_
            rotate_left 1
            · intro w' hSw
              go_simp
              all_goals first | with_reducible rfl | (rw [if_neg (by omega)]; done) | (rw [if_pos (by omega)]; done)
            try simp only [List.getElem_toArray, List.getElem_cons_zero, List.getElem_cons_succ, Act.put, List.setIfInBounds_toArray, List.set_cons_zero, List.set_cons_succ]
            refine wpAnyH_ready (rs := [2]) (by kernel_rfl) (by simp) ?_
            refine AllReadyH.cons rfl (fun K hK => ?_) AllReadyH.nil
            refine step_call rfl 77 Try.f77 _ _ rfl Try.func77 (by kernel_rfl) (by kernel_rfl) _ _ (HFT.out _ (Turn.refl _ _).drew) (by go_simp) ?_
            rintro v1 w1 ⟨rfl, ht1⟩
            have T1 := Lib.hid ht1
            clear ht1
            refine hK.out _ _ T1.out (fun hHeld => ?_)
            clear hK K
            try simp only [List.getElem_toArray, List.getElem_cons_zero, List.getElem_cons_succ, Act.put, List.setIfInBounds_toArray, List.set_cons_zero, List.set_cons_succ]
            refine wpAnyH_take (i := 3) (v := ?_) rfl (by kernel_rfl) (by kernel_rfl) (by kernel_rfl) (fun _ _ _ h => h) (Or.inl ⟨by rfl, ?_⟩) (by assumption) ?_
            rotate_left 1
            · intro w' hSw
              go_simp
              all_goals first | with_reducible rfl | (rw [if_neg (by omega)]; done) | (rw [if_pos (by omega)]; done)
            try simp only [List.getElem_toArray, List.getElem_cons_zero, List.getElem_cons_succ, Act.put, List.setIfInBounds_toArray, List.set_cons_zero, List.set_cons_succ]
            refine wpAnyH_take (i := 4) (v := ?_) rfl (by kernel_rfl) (by kernel_rfl) (by kernel_rfl) (fun _ _ _ h => h) (Or.inl ⟨by rfl, ?_⟩) (by assumption) ?_
            rotate_left 1
            · intro w' hSw
              go_simp
              all_goals first | with_reducible rfl | (rw [if_neg (by omega)]; done) | (rw [if_pos (by omega)]; done)
            try simp only [List.getElem_toArray, List.getElem_cons_zero, List.getElem_cons_succ, Act.put, List.setIfInBounds_toArray, List.set_cons_zero, List.set_cons_succ]
            refine wpAnyH_take (i := 5) (v := ?_) rfl (by kernel_rfl) (by kernel_rfl) (by kernel_rfl) (fun _ _ _ h => h) (Or.inl ⟨by rfl, ?_⟩) (by assumption) ?_
            rotate_left 1
            · intro w' hSw
              go_simp
              all_goals first | with_reducible rfl | (rw [if_neg (by omega)]; done) | (rw [if_pos (by omega)]; done)
            try simp only [List.getElem_toArray, List.getElem_cons_zero, List.getElem_cons_succ, Act.put, List.setIfInBounds_toArray, List.set_cons_zero, List.set_cons_succ]
            refine wpAnyH_take (i := 6) (v := ?_) rfl (by kernel_rfl) (by kernel_rfl) (by kernel_rfl) (fun _ _ _ h => h) (Or.inl ⟨by rfl, ?_⟩) (by assumption) ?_
            rotate_left 1
            · intro w' hSw
              go_simp
              all_goals first | with_reducible rfl | (rw [if_neg (by omega)]; done) | (rw [if_pos (by omega)]; done)
            try simp only [List.getElem_toArray, List.getElem_cons_zero, List.getElem_cons_succ, Act.put, List.setIfInBounds_toArray, List.set_cons_zero, List.set_cons_succ]
            refine wpAnyH_take (i := 7) (v := ?_) rfl (by kernel_rfl) (by kernel_rfl) (by kernel_rfl) (fun _ _ _ h => h) (Or.inl ⟨by rfl, ?_⟩) (by assumption) ?_
            rotate_left 1
            · intro w' hSw
              go_simp
              all_goals first | with_reducible rfl | (rw [if_neg (by omega)]; done) | (rw [if_pos (by omega)]; done)
            try simp only [List.getElem_toArray, List.getElem_cons_zero, List.getElem_cons_succ, Act.put, List.setIfInBounds_toArray, List.set_cons_zero, List.set_cons_succ]
            refine wpAnyH_take (i := 8) (v := ?_) rfl (by kernel_rfl) (by kernel_rfl) (by kernel_rfl) (fun _ _ _ h => h) (Or.inl ⟨by rfl, ?_⟩) (by assumption) ?_
            rotate_left 1
            · intro w' hSw
              go_simp
              all_goals first | with_reducible rfl | (rw [if_neg (by omega)]; done) | (rw [if_pos (by omega)]; done)
            try simp only [List.getElem_toArray, List.getElem_cons_zero, List.getElem_cons_succ, Act.put, List.setIfInBounds_toArray, List.set_cons_zero, List.set_cons_succ]
            refine wpAnyH_take (i := 9) (v := ?_) rfl (by kernel_rfl) (by kernel_rfl) (by kernel_rfl) (fun _ _ _ h => h) (Or.inl ⟨by rfl, ?_⟩) (by assumption) ?_
            rotate_left 1
            · intro w' hSw
              have hS1 := hSw
              obtain ⟨z1, z2⟩ := HXC.out _ hS1
              go_simp
              all_goals first | with_reducible rfl | (rw [if_neg (by omega)]; done) | (rw [if_pos (by omega)]; done)
            try simp only [List.getElem_toArray, List.getElem_cons_zero, List.getElem_cons_succ, Act.put, List.setIfInBounds_toArray, List.set_cons_zero, List.set_cons_succ]
            refine wpAnyH_take (i := 10) (v := ?_) rfl (by kernel_rfl) (by kernel_rfl) (by kernel_rfl) (fun _ _ _ h => h) (Or.inl ⟨by rfl, ?_⟩) (by assumption) ?_
            rotate_left 1
            · intro w' hSw
              go_simp
              all_goals first | with_reducible rfl | (rw [if_neg (by omega)]; done) | (rw [if_pos (by omega)]; done)
            try simp only [List.getElem_toArray, List.getElem_cons_zero, List.getElem_cons_succ, Act.put, List.setIfInBounds_toArray, List.set_cons_zero, List.set_cons_succ]
            refine wpAnyH_take (i := 11) (v := ?_) rfl (by kernel_rfl) (by kernel_rfl) (by kernel_rfl) (fun _ _ _ h => h) (Or.inl ⟨by rfl, ?_⟩) (by assumption) ?_
            rotate_left 1
            · intro w' hSw
              go_simp
              all_goals first | with_reducible rfl | (rw [if_neg (by omega)]; done) | (rw [if_pos (by omega)]; done)
            try simp only [List.getElem_toArray, List.getElem_cons_zero, List.getElem_cons_succ, Act.put, List.setIfInBounds_toArray, List.set_cons_zero, List.set_cons_succ]
            refine wpAnyH_take (i := 12) (v := ?_) rfl (by kernel_rfl) (by kernel_rfl) (by kernel_rfl) (fun _ _ _ h => h) (Or.inl ⟨by rfl, ?_⟩) (by assumption) ?_
            rotate_left 1
            · intro w' hSw
              go_simp
              all_goals first | with_reducible rfl | (rw [if_neg (by omega)]; done) | (rw [if_pos (by omega)]; done)
            try simp only [List.getElem_toArray, List.getElem_cons_zero, List.getElem_cons_succ, Act.put, List.setIfInBounds_toArray, List.set_cons_zero, List.set_cons_succ]
            refine wpAnyH_take (i := 13) (v := ?_) rfl (by kernel_rfl) (by kernel_rfl) (by kernel_rfl) (fun _ _ _ h => h) (Or.inl ⟨by rfl, ?_⟩) (by assumption) ?_
            rotate_left 1
            · intro w' hSw
              go_simp
              all_goals first | with_reducible rfl | (rw [if_neg (by omega)]; done) | (rw [if_pos (by omega)]; done)
            try simp only [List.getElem_toArray, List.getElem_cons_zero, List.getElem_cons_succ, Act.put, List.setIfInBounds_toArray, List.set_cons_zero, List.set_cons_succ]
            refine wpAnyH_take (i := 14) (v := ?_) rfl (by kernel_rfl) (by kernel_rfl) (by kernel_rfl) (fun _ _ _ h => h) (Or.inl ⟨by rfl, ?_⟩) (by assumption) ?_
            rotate_left 1
            · intro w' hSw
              go_simp
              all_goals first | with_reducible rfl | (rw [if_neg (by omega)]; done) | (rw [if_pos (by omega)]; done)
            try simp only [List.getElem_toArray, List.getElem_cons_zero, List.getElem_cons_succ, Act.put, List.setIfInBounds_toArray, List.set_cons_zero, List.set_cons_succ]
            refine wpAnyH_take (i := 15) (v := ?_) rfl (by kernel_rfl) (by kernel_rfl) (by kernel_rfl) (fun _ _ _ h => h) (Or.inl ⟨by rfl, ?_⟩) (by assumption) ?_
            rotate_left 1
            · intro w' hSw
              have hS1 := hSw
              have z3 := HYC.out _ hS1
              go_simp
              all_goals first | with_reducible rfl | (rw [if_neg (by omega)]; done) | (rw [if_pos (by omega)]; done)
            try simp only [List.getElem_toArray, List.getElem_cons_zero, List.getElem_cons_succ, Act.put, List.setIfInBounds_toArray, List.set_cons_zero, List.set_cons_succ]
            refine wpAnyH_take (i := 16) (v := ?_) rfl (by kernel_rfl) (by kernel_rfl) (by kernel_rfl) (fun _ _ _ h => h) (Or.inl ⟨by rfl, ?_⟩) (by assumption) ?_
            rotate_left 1
            · intro w' hSw
              go_simp
              all_goals first | with_reducible rfl | (rw [if_neg (by omega)]; done) | (rw [if_pos (by omega)]; done)
            try simp only [List.getElem_toArray, List.getElem_cons_zero, List.getElem_cons_succ, Act.put, List.setIfInBounds_toArray, List.set_cons_zero, List.set_cons_succ]
            refine wpAnyH_take (i := 17) (v := ?_) rfl (by kernel_rfl) (by kernel_rfl) (by kernel_rfl) (fun _ _ _ h => h) (Or.inl ⟨by rfl, ?_⟩) (by assumption) ?_
            rotate_left 1
            · intro w' hSw
              go_simp
              all_goals first | with_reducible rfl | (rw [if_neg (by omega)]; done) | (rw [if_pos (by omega)]; done)
            try simp only [List.getElem_toArray, List.getElem_cons_zero, List.getElem_cons_succ, Act.put, List.setIfInBounds_toArray, List.set_cons_zero, List.set_cons_succ]
            refine wpAnyH_take (i := 18) (v := ?_) rfl (by kernel_rfl) (by kernel_rfl) (by kernel_rfl) (fun _ _ _ h => h) (Or.inl ⟨by rfl, ?_⟩) (by assumption) ?_
            rotate_left 1
            · intro w' hSw
              go_simp
              all_goals first | with_reducible rfl | (rw [if_neg (by omega)]; done) | (rw [if_pos (by omega)]; done)
            try simp only [List.getElem_toArray, List.getElem_cons_zero, List.getElem_cons_succ, Act.put, List.setIfInBounds_toArray, List.set_cons_zero, List.set_cons_succ]
            refine wpAnyH_done (by kernel_rfl) ?_ _
            refine NoPanic.normal ?_
            go_wp2_with fail
            go_roundw
            case rel => exact ⟨i + 1, by omega, by simp [hq], HNX, TT2.out.trans T1.out⟩
            case measure => simp [intOf, hq]; omega
      -- region end
    · obtain rfl : i = n := by omega
      have HALL : Hid (R = true) := Lib.hid (by rw [← HRR.out]; exact okI_true (fun j hj => HOK.out j (by rw [List.length_map, HN.out] at hj; exact hj)))
      have TT := Lib.hid ht
      have HOF := Lib.hid (of_14 M _ last mark wx (HIX.out.still ht) (okI_bm (HRR.out.trans HALL.out) (HB.out.1) (HBM.out (HRR.out.trans HALL.out))) (okI_ris (HRR.out.trans HALL.out)) (fun p hp => ⟨HCV.out p hp, okI_ne (HRR.out.trans HALL.out) p hp⟩))
      clear ht
      go_wp2_with (go_at_call 78; refine HOF.out.mono ?_; rintro e w9 ⟨q, vk, g, M', rfl, h1, h2, ⟨h3, _⟩, h4⟩; have H1 := Lib.hid h1; have H2 := Lib.hid h2; have H3 := Lib.hid h3; have H4 := Lib.hid h4; clear h1 h2 h3 h4)
      go_ret2
      exact ⟨.inl ⟨HALL.out, q, vk, g, M', rfl, H1.out, H2.out, fun k hk => Nat.le_trans TT.out.size (H3.out k hk)⟩, TT.out.trans H4.out⟩
end Go.Proofs.Ytjkfgbmlhglnfaa
