/- Layer 14: the document's Apply, walked. (mkSpG.py) -/
import Derived.Test.YtobddfpdijmgiaaSpG
import Derived.Deep.RegionHeld3
namespace Go.Proofs.Ytobddfpdijmgiaa
open Go.RowKit
set_option linter.unusedVariables false
set_option linter.unusedSimpArgs false
set_option maxRecDepth 100000

theorem add13_len (L : List Vn) (x : Vn) : (add13 L x).1.length ≤ L.length + 1 := by
  unfold add13
  cases chn L
  · simp
  · cases rt x
    · simp
    · cases L with
      | nil => simp
      | cons y l => simp only [if_true]; split <;> simp
theorem Rc.turn {S : Nat → Prop} {w w' : World} {A : Option Addr} {cs : List Value} (h : Rc w A cs) (ht : Turn S w w') (hf : 0 < cs.length → ∀ ad, A = some ad → ¬ S ad.block) : Rc w' A cs := fun hp => by
  obtain ⟨b, o, rfl, hb, hc⟩ := h hp
  exact ⟨b, o, rfl, Nat.lt_of_lt_of_le hb ht.size, fun j u hj => (World.cell?_of_block (w := w) (a := ⟨b, o + j, none⟩) (ht.block b hb (hf hp _ rfl))).trans (hc j u hj)⟩
/-- Items that lie, and whose versions lie, apart from a block. -/
def Ap14 (g : Nat) (v : Value) (M : List (Itm × Value)) : Prop := (0 < M.length → ∀ b, vb v = some b → b ≠ g) ∧ ∀ p ∈ M, 0 < p.1.vs.length → ∀ b, vb p.2 = some b → b ≠ g
theorem Ix.turn {g : Nat} {w w' : World} {v : Value} {M : List (Itm × Value)} (h : Ix w v M) (ha : Ap14 g v M) (ht : Turn (fun k => k = g) w w') : Ix w' v M := by
  obtain ⟨A, c, rfl, hl, hr, hw⟩ := h
  refine ⟨A, c, rfl, hl, hr.turn ht (fun hp ad e => ?_), fun p hp => (hw p hp).turn ht (fun h b hb => ha.2 p hp h b hb)⟩
  rw [flat_len ic_len] at hp
  subst e
  exact ha.1 (by omega) _ rfl
theorem Ix.ap {w : World} {v : Value} {M : List (Itm × Value)} (h : Ix w v M) {g : Nat} (hg : w.heap.size ≤ g) : Ap14 g v M := by
  obtain ⟨A, c, rfl, hl, hr, hw⟩ := h
  refine ⟨fun hp b hb => ?_, fun p hp h b hb => ?_⟩
  · obtain ⟨b', o, rfl, hb', _⟩ := hr (by rw [flat_len ic_len]; omega)
    have hb2 : some b' = some b := hb
    cases hb2
    omega
  · obtain ⟨b', e, hb'⟩ := (hw p hp).at_ h
    rw [hb] at e
    cases e
    omega
set_option maxHeartbeats 8000000 in
theorem refApply14 (M : List (Itm × Value)) (L : List Cg) (v vl : Value) (last mark t : Int) (w : World) (h : Ix w v M) (hc : Cx w vl L) (hb : M.length ≤ 50000) (hcb : L.length ≤ 1000) (hvb : ∀ p ∈ M, p.1.vs.length ≤ 50000) (hks : ∀ p ∈ M, p.1.k.size ≤ 140737488351232) (hlo : ¬ t ≤ last) (hhi : ¬ 1152921504606846976 < t) (hmc : mch L = true) :
    Calls Try.prog 62 #[.agg #[v, .int .i64 last, .int .i64 mark], .int .i64 t, vl] w fun e w' => ∃ v', e = .returned (.tuple #[.agg #[v', .int .i64 t, .int .i64 mark], .int .i64 0]) ∧ (∃ M', Ix w' v' M' ∧ M'.map (·.1) = apl (M.map (·.1)) t L ∧ M'.length ≤ M.length + L.length ∧ (∀ p ∈ M', p.1.vs.length ≤ 50001) ∧ (∀ p ∈ M', p.1.k.size ≤ 140737488351232) ∧ ∀ g, g < w.heap.size → Ap14 g v M → Ap14 g v' M') ∧ Turn (fun _ => False) w w' := by
  have HIX := Lib.hid h
  have hksz : ∀ x ∈ L, x.k.size ≤ 140737488351232 := fun x hx => by
    obtain ⟨j, hj⟩ := List.getElem?_of_mem hx
    have hl : j < L.length := by
      rcases Nat.lt_or_ge j L.length with h1 | h1
      · exact h1
      · rw [List.getElem?_eq_none h1] at hj; cases hj
    unfold mch at hmc
    rw [List.all_eq_true] at hmc
    have h2 := hmc j (List.mem_range.2 hl)
    rw [okc_at hj] at h2
    unfold ok1 at h2
    simp at h2
    omega
  have HMY := Lib.hid (fun W (hT : Turn (fun _ => False) w W) => refMay14 L vl W (hc.still hT))
  rw [hmc] at HMY
  obtain ⟨AL, cL, rfl, hll, hlr⟩ := hc
  obtain ⟨m, hm⟩ : ∃ n, L.length = n := ⟨_, rfl⟩
  have HM := Lib.hid hm
  have HLR := Lib.hid hlr
  rw [hm] at hll hcb HMY ⊢
  obtain ⟨A, n, c, rfl⟩ : ∃ A n c, v = .slice A n c := by obtain ⟨A, c, e, _⟩ := h; exact ⟨A, _, c, e⟩
  have HFI0 := Lib.hid (fun key W (hT : Turn (fun _ => False) w W) => refFind14 M (.slice A n c) last mark key W (h.still hT))
  have HKS := Lib.hid hks
  have HVB := Lib.hid hvb
  have HKL := Lib.hid hksz
  obtain ⟨W1, hW1⟩ : ∃ W, w.alloc (.cells #[.slice A n c, .int .i64 last, .int .i64 mark] 32) = W := ⟨_, rfl⟩
  obtain ⟨W2, hW2⟩ : ∃ W, W1.alloc (.cells #[.slice none 0 0, .int .i64 0, .int .i64 0] 32) = W := ⟨_, rfl⟩
  have TW1 : Hid (Turn (fun _ => False) w W1) := Lib.hid (hW1 ▸ (Turn.refl _ _).alloc _)
  have TW : Hid (Turn (fun _ => False) w W2) := Lib.hid (hW2 ▸ TW1.out.alloc _)
  have BX : Hid (Blk W2 w.heap.size 32 [.slice A n c, .int .i64 last, .int .i64 mark]) := Lib.hid (hW2 ▸ (show Blk W1 w.heap.size 32 [.slice A n c, .int .i64 last, .int .i64 mark] from hW1 ▸ Blk.new _ _ _).alloc _)
  have BC : Hid (Blk W2 W1.heap.size 32 [.slice none 0 0, .int .i64 0, .int .i64 0]) := Lib.hid (hW2 ▸ Blk.new _ _ _)
  have h12 : w.heap.size < W1.heap.size := by rw [← hW1]; simp
  have h22 : W1.heap.size < W2.heap.size := BC.out.lt
  have HBX : Hid (∀ X, Turn (fun _ => False) W2 X → X.cell? ⟨w.heap.size, 0, none⟩ = some (.slice A n c) ∧ X.cell? ⟨w.heap.size, 1, none⟩ = some (.int .i64 last) ∧ X.cell? ⟨w.heap.size, 2, none⟩ = some (.int .i64 mark)) := Lib.hid (fun X hX => by obtain ⟨a, b, c, _⟩ := cells3 (BX.out.turn hX (fun h => h)); exact ⟨a, b, c⟩)
  have HAP0 : Hid (Ap14 W1.heap.size (.slice A n c) M ∧ ∀ g, g < w.heap.size → Ap14 g (.slice A n c) M → Ap14 g (.slice A n c) M) := Lib.hid ⟨h.ap (g := W1.heap.size) (by omega), fun g _ h => h⟩
  clear h hm hlr hks hvb hksz
  obtain ⟨x0, x1, x2⟩ := HBX.out W2 (Turn.refl _ _)
  go_enter Try.func62, Try.ntmps62
  go_wp2_with fail
  clear hW1 hW2
  refine (HMY.out _ TW.out).mono ?_
  rintro e wm ⟨rfl, htm⟩
  have TM := Lib.hid htm
  obtain ⟨z0, z1, z2⟩ := HBX.out wm htm
  have IXM := Lib.hid (HIX.out.still (TW.out.trans htm))
  clear htm x0 x1 x2
  go_wp2_with fail
  clear z0 z1 z2
  go_loopw [8, 9, 10, 11] (fun v8 v9 _ _ wr => ∃ (i : Nat) (F : List (Itm × Value)), i ≤ m ∧ v9 = .int .i64 i ∧ Ix wr v8 F ∧ Hid (F.map (·.1) = apl (M.map (·.1)) t (L.take i)) ∧ Hid (F.length ≤ M.length + i) ∧ Hid (∀ p ∈ F, p.1.vs.length ≤ 50001) ∧ Hid (∀ p ∈ F, p.1.k.size ≤ 140737488351232) ∧ Hid (Ap14 W1.heap.size v8 F ∧ ∀ g, g < w.heap.size → Ap14 g (.slice A n c) M → Ap14 g v8 F) ∧ Turn (fun _ => False) W2 wr) (fun _ v9 _ _ _ => m - (intOf v9).toNat)
  case atStart => exact ⟨0, M, Nat.zero_le _, rfl, IXM.out, Lib.hid rfl, Lib.hid (Nat.le_refl _), Lib.hid (fun p hp => by have := HVB.out p hp; omega), HKS, HAP0, TM.out⟩
  case round =>
    clear IXM TM
    obtain ⟨i, F, hi, rfl, hix, HST, HFB, HFV, HFK, HAP, ht⟩ := hrel
    obtain ⟨wx, rfl⟩ : ∃ W, W = wr := ⟨_, rfl⟩
    have hix0 := hix
    obtain ⟨AF, cF, rfl, _⟩ := hix0
    obtain ⟨f, hf⟩ : ∃ f, F.length = f := ⟨_, rfl⟩
    have HFL := Lib.hid hf
    rw [hf] at hix HAP ⊢
    have IXF := Lib.hid hix
    clear hf
    have TX := Lib.hid ht
    obtain ⟨b0, b1, b2⟩ := HBX.out wx ht
    clear hix ht
    by_cases hlt : i < m
    · have hl1 : (i : Int) < (m : Int) := by omega
      have hl0 : (0 : Int) ≤ (i : Int) := by omega
      have hq := wrap_of ((i : Int) + 1) (by omega) (by omega)
      obtain ⟨x, hx⟩ : ∃ x, L[i]? = some x := ⟨_, List.getElem?_eq_getElem (by rw [HM.out]; exact hlt)⟩
      obtain ⟨b, o, rfl, hb1, hcc⟩ := HLR.out.chg (by rw [HM.out]; omega)
      have HCW := Lib.hid (fun X (hX : Turn (fun _ => False) W2 X) => hcc X (TW.out.trans hX) i x hx)
      have hkx := HKL.out x (List.mem_of_getElem? hx)
      have HNXT : Hid (apl (M.map (·.1)) t (L.take (i + 1)) = wthI (apl (M.map (·.1)) t (L.take i)) ⟨x.k, (add13 (fndk M x.k) ⟨t, x.v, x.d⟩).1⟩) := Lib.hid (by rw [take_next hx, fndk_map]; unfold apl; rw [List.foldl_append]; rfl)
      have hfb0 := fnd_bound HVB.out x.k
      have HFI1 := Lib.hid (HFI0.out x.k)
      obtain ⟨xk, xv, xd⟩ := x
      simp only at HCW hkx HNXT hfb0 HFI1
      obtain ⟨V0, hV0⟩ : ∃ q, fndk M xk = q := ⟨_, rfl⟩
      rw [hV0] at HNXT hfb0 HFI1
      have hal : (add13 V0 ⟨t, xv, xd⟩).1.length ≤ 50001 := Nat.le_trans (add13_len V0 ⟨t, xv, xd⟩) (by omega)
      have HAD : Hid (∀ X u, Vr X u V0 → Calls Try.prog 112 #[u, .agg #[.int .i64 t, .string xv, .bool xd]] X fun e w' => ∃ v, e = .returned v ∧ ∃ A' c' e', v = .tuple #[.slice A' (add13 V0 ⟨t, xv, xd⟩).1.length c', .int .i64 e'] ∧ Vo X.heap.size w' (.slice A' (add13 V0 ⟨t, xv, xd⟩).1.length c') (add13 V0 ⟨t, xv, xd⟩).1 ∧ Turn (fun _ => False) X w') := Lib.hid (fun X u hu => (refAdd13 V0 u ⟨t, xv, xd⟩ X hu (by omega)).mono fun e w' ⟨v', h1, h2, h3⟩ => by
        obtain ⟨A', c', e2⟩ := own_slice_ h2
        subst e2
        exact ⟨_, h1, A', c', _, rfl, h2, h3⟩)
      obtain ⟨V1, hV1⟩ : ∃ q, (add13 V0 ⟨t, xv, xd⟩).1 = q := ⟨_, rfl⟩
      rw [hV1] at HAD HNXT hal
      obtain ⟨m0, hm0⟩ : ∃ q, V0.length = q := ⟨_, rfl⟩
      obtain ⟨m1, hm1⟩ : ∃ q, V1.length = q := ⟨_, rfl⟩
      rw [hm0] at HFI1
      rw [hm1] at HAD
      have HM1 := Lib.hid hm1
      have HFI : Hid (∀ X, Turn (fun _ => False) W2 X → Calls Try.prog 107 #[.agg #[.slice A n c, .int .i64 last, .int .i64 mark], .string xk] X fun e w' => ∃ v, e = .returned v ∧ ∃ A' c', v = .slice A' m0 c' ∧ Vr w' (.slice A' m0 c') V0 ∧ Turn (fun _ => False) X w') := Lib.hid (fun X hX => (HFI1.out X (TW.out.trans hX)).mono fun e w' ⟨A', c', h1, h2, h3⟩ => ⟨_, h1, A', c', rfl, h2, h3⟩)
      have hfl : F.length ≤ 100000 := by have := HFB.out; omega
      have HWT : Hid (∀ X u, Ix X (.slice AF f cF) F → Vr X u V1 → Calls Try.prog 113 #[.slice AF f cF, .string xk, u] X fun e w' => ∃ v', e = .returned v' ∧ Io X.heap.size w' v' (wth F (⟨xk, V1⟩, u)) ∧ Turn (fun _ => False) X w') := Lib.hid (fun X u h1 h2 => refWith14 F (.slice AF f cF) u xk V1 X h1 h2 hkx HFK.out hfl)
      have HKX := Lib.hid hkx
      clear hx hb1 hcc hV0 hV1 hm0 hm1 hkx hfl HFI1
      go_upto_region 9 with fail
      refine wp_region_noPanic ?_
      refine wp_region_held_drew (S := fun X => Turn (fun _ => False) wx X) (by kernel_rfl) ((Turn.refl (fun _ => False) wx).drew) (fun hHeld => ?_)
      have T0 : Hid (Turn (fun _ => False) wx wx.drew) := Lib.hid ((Turn.refl (fun _ => False) wx).drew)
      clear hHeld
      refine wpAnyH_take (i := 0) (v := ?_) rfl (by kernel_rfl) (by kernel_rfl) (by kernel_rfl) (fun _ _ _ h => h) (Or.inl ⟨by rfl, ?_⟩) (by assumption) ?_
      rotate_left 1
      · intro w' hSw
        have hS1 := hSw
        obtain ⟨x0, x1, x2⟩ := HBX.out _ (TX.out.trans hS1)
        go_simp
        all_goals first | with_reducible rfl | (rw [if_neg (by omega)]; done) | (rw [if_pos (by omega)]; done) | (rw [if_neg (by omega)]; with_reducible rfl) | (rw [if_pos (by omega)]; with_reducible rfl)
      try simp only [List.getElem_toArray, List.getElem_cons_zero, Act.put, List.setIfInBounds_toArray, List.set_cons_zero, List.set_cons_succ]
      refine wpAnyH_take (i := 1) (v := ?_) rfl (by kernel_rfl) (by kernel_rfl) (by kernel_rfl) (fun _ _ _ h => h) (Or.inl ⟨by rfl, ?_⟩) (by assumption) ?_
      rotate_left 1
      · intro w' hSw
        go_simp
        all_goals first | with_reducible rfl | (rw [if_neg (by omega)]; done) | (rw [if_pos (by omega)]; done) | (rw [if_neg (by omega)]; with_reducible rfl) | (rw [if_pos (by omega)]; with_reducible rfl)
      try simp only [List.getElem_toArray, List.getElem_cons_zero, List.getElem_cons_succ, Act.put, List.setIfInBounds_toArray, List.set_cons_zero, List.set_cons_succ]
      refine wpAnyH_take (i := 2) (v := ?_) rfl (by kernel_rfl) (by kernel_rfl) (by kernel_rfl) (fun _ _ _ h => h) (Or.inl ⟨by rfl, ?_⟩) (by assumption) ?_
      rotate_left 1
      · intro w' hSw
        go_simp
        all_goals first | with_reducible rfl | (rw [if_neg (by omega)]; done) | (rw [if_pos (by omega)]; done) | (rw [if_neg (by omega)]; with_reducible rfl) | (rw [if_pos (by omega)]; with_reducible rfl)
      try simp only [List.getElem_toArray, List.getElem_cons_zero, List.getElem_cons_succ, Act.put, List.setIfInBounds_toArray, List.set_cons_zero, List.set_cons_succ]
      refine wpAnyH_take (i := 3) (v := ?_) rfl (by kernel_rfl) (by kernel_rfl) (by kernel_rfl) (fun _ _ _ h => h) (Or.inl ⟨by rfl, ?_⟩) (by assumption) ?_
      rotate_left 1
      · intro w' hSw
        go_simp
        all_goals first | with_reducible rfl | (rw [if_neg (by omega)]; done) | (rw [if_pos (by omega)]; done) | (rw [if_neg (by omega)]; with_reducible rfl) | (rw [if_pos (by omega)]; with_reducible rfl)
      try simp only [List.getElem_toArray, List.getElem_cons_zero, List.getElem_cons_succ, Act.put, List.setIfInBounds_toArray, List.set_cons_zero, List.set_cons_succ]
      refine wpAnyH_take (i := 4) (v := ?_) rfl (by kernel_rfl) (by kernel_rfl) (by kernel_rfl) (fun _ _ _ h => h) (Or.inl ⟨by rfl, ?_⟩) (by assumption) ?_
      rotate_left 1
      · intro w' hSw
        go_simp
        all_goals first | with_reducible rfl | (rw [if_neg (by omega)]; done) | (rw [if_pos (by omega)]; done) | (rw [if_neg (by omega)]; with_reducible rfl) | (rw [if_pos (by omega)]; with_reducible rfl)
      try simp only [List.getElem_toArray, List.getElem_cons_zero, List.getElem_cons_succ, Act.put, List.setIfInBounds_toArray, List.set_cons_zero, List.set_cons_succ]
      refine wpAnyH_take (i := 5) (v := ?_) rfl (by kernel_rfl) (by kernel_rfl) (by kernel_rfl) (fun _ _ _ h => h) (Or.inl ⟨by rfl, ?_⟩) (by assumption) ?_
      rotate_left 1
      · intro w' hSw
        have hS1 := hSw
        obtain ⟨y0, y1, y2⟩ := HCW.out _ (TX.out.trans hS1)
        go_simp
        all_goals first | with_reducible rfl | (rw [if_neg (by omega)]; done) | (rw [if_pos (by omega)]; done) | (rw [if_neg (by omega)]; with_reducible rfl) | (rw [if_pos (by omega)]; with_reducible rfl)
      try simp only [List.getElem_toArray, List.getElem_cons_zero, List.getElem_cons_succ, Act.put, List.setIfInBounds_toArray, List.set_cons_zero, List.set_cons_succ]
      refine wpAnyH_take (i := 7) (v := ?_) rfl (by kernel_rfl) (by kernel_rfl) (by kernel_rfl) (fun _ _ _ h => h) (Or.inl ⟨by rfl, ?_⟩) (by assumption) ?_
      rotate_left 1
      · intro w' hSw
        go_simp
        all_goals first | with_reducible rfl | (rw [if_neg (by omega)]; done) | (rw [if_pos (by omega)]; done) | (rw [if_neg (by omega)]; with_reducible rfl) | (rw [if_pos (by omega)]; with_reducible rfl)
      try simp only [List.getElem_toArray, List.getElem_cons_zero, List.getElem_cons_succ, Act.put, List.setIfInBounds_toArray, List.set_cons_zero, List.set_cons_succ]
      refine wpAnyH_take (i := 8) (v := ?_) rfl (by kernel_rfl) (by kernel_rfl) (by kernel_rfl) (fun _ _ _ h => h) (Or.inl ⟨by rfl, ?_⟩) (by assumption) ?_
      rotate_left 1
      · intro w' hSw
        go_simp
        all_goals first | with_reducible rfl | (rw [if_neg (by omega)]; done) | (rw [if_pos (by omega)]; done) | (rw [if_neg (by omega)]; with_reducible rfl) | (rw [if_pos (by omega)]; with_reducible rfl)
      try simp only [List.getElem_toArray, List.getElem_cons_zero, List.getElem_cons_succ, Act.put, List.setIfInBounds_toArray, List.set_cons_zero, List.set_cons_succ]
      refine wpAnyH_take (i := 9) (v := ?_) rfl (by kernel_rfl) (by kernel_rfl) (by kernel_rfl) (fun _ _ _ h => h) (Or.inl ⟨by rfl, ?_⟩) (by assumption) ?_
      rotate_left 1
      · intro w' hSw
        go_simp
        all_goals first | with_reducible rfl | (rw [if_neg (by omega)]; done) | (rw [if_pos (by omega)]; done) | (rw [if_neg (by omega)]; with_reducible rfl) | (rw [if_pos (by omega)]; with_reducible rfl)
      try simp only [List.getElem_toArray, List.getElem_cons_zero, List.getElem_cons_succ, Act.put, List.setIfInBounds_toArray, List.set_cons_zero, List.set_cons_succ]
      refine wpAnyH_take (i := 10) (v := ?_) rfl (by kernel_rfl) (by kernel_rfl) (by kernel_rfl) (fun _ _ _ h => h) (Or.inl ⟨by rfl, ?_⟩) (by assumption) ?_
      rotate_left 1
      · intro w' hSw
        go_simp
        all_goals first | with_reducible rfl | (rw [if_neg (by omega)]; done) | (rw [if_pos (by omega)]; done) | (rw [if_neg (by omega)]; with_reducible rfl) | (rw [if_pos (by omega)]; with_reducible rfl)
      try simp only [List.getElem_toArray, List.getElem_cons_zero, List.getElem_cons_succ, Act.put, List.setIfInBounds_toArray, List.set_cons_zero, List.set_cons_succ]
      refine wpAnyH_take (i := 11) (v := ?_) rfl (by kernel_rfl) (by kernel_rfl) (by kernel_rfl) (fun _ _ _ h => h) (Or.inl ⟨by rfl, ?_⟩) (by assumption) ?_
      rotate_left 1
      · intro w' hSw
        go_simp
        all_goals first | with_reducible rfl | (rw [if_neg (by omega)]; done) | (rw [if_pos (by omega)]; done) | (rw [if_neg (by omega)]; with_reducible rfl) | (rw [if_pos (by omega)]; with_reducible rfl)
      try simp only [List.getElem_toArray, List.getElem_cons_zero, List.getElem_cons_succ, Act.put, List.setIfInBounds_toArray, List.set_cons_zero, List.set_cons_succ]
      refine wpAnyH_take (i := 12) (v := ?_) rfl (by kernel_rfl) (by kernel_rfl) (by kernel_rfl) (fun _ _ _ h => h) (Or.inl ⟨by rfl, ?_⟩) (by assumption) ?_
      rotate_left 1
      · intro w' hSw
        have hS1 := hSw
        obtain ⟨y0, y1, y2⟩ := HCW.out _ (TX.out.trans hS1)
        go_simp
        all_goals first | with_reducible rfl | (rw [if_neg (by omega)]; done) | (rw [if_pos (by omega)]; done) | (rw [if_neg (by omega)]; with_reducible rfl) | (rw [if_pos (by omega)]; with_reducible rfl)
      try simp only [List.getElem_toArray, List.getElem_cons_zero, List.getElem_cons_succ, Act.put, List.setIfInBounds_toArray, List.set_cons_zero, List.set_cons_succ]
      refine wpAnyH_take (i := 13) (v := ?_) rfl (by kernel_rfl) (by kernel_rfl) (by kernel_rfl) (fun _ _ _ h => h) (Or.inl ⟨by rfl, ?_⟩) (by assumption) ?_
      rotate_left 1
      · intro w' hSw
        go_simp
        all_goals first | with_reducible rfl | (rw [if_neg (by omega)]; done) | (rw [if_pos (by omega)]; done) | (rw [if_neg (by omega)]; with_reducible rfl) | (rw [if_pos (by omega)]; with_reducible rfl)
      try simp only [List.getElem_toArray, List.getElem_cons_zero, List.getElem_cons_succ, Act.put, List.setIfInBounds_toArray, List.set_cons_zero, List.set_cons_succ]
      refine wpAnyH_take (i := 14) (v := ?_) rfl (by kernel_rfl) (by kernel_rfl) (by kernel_rfl) (fun _ _ _ h => h) (Or.inl ⟨by rfl, ?_⟩) (by assumption) ?_
      rotate_left 1
      · intro w' hSw
        go_simp
        all_goals first | with_reducible rfl | (rw [if_neg (by omega)]; done) | (rw [if_pos (by omega)]; done) | (rw [if_neg (by omega)]; with_reducible rfl) | (rw [if_pos (by omega)]; with_reducible rfl)
      try simp only [List.getElem_toArray, List.getElem_cons_zero, List.getElem_cons_succ, Act.put, List.setIfInBounds_toArray, List.set_cons_zero, List.set_cons_succ]
      refine wpAnyH_take (i := 15) (v := ?_) rfl (by kernel_rfl) (by kernel_rfl) (by kernel_rfl) (fun _ _ _ h => h) (Or.inl ⟨by rfl, ?_⟩) (by assumption) ?_
      rotate_left 1
      · intro w' hSw
        go_simp
        all_goals first | with_reducible rfl | (rw [if_neg (by omega)]; done) | (rw [if_pos (by omega)]; done) | (rw [if_neg (by omega)]; with_reducible rfl) | (rw [if_pos (by omega)]; with_reducible rfl)
      try simp only [List.getElem_toArray, List.getElem_cons_zero, List.getElem_cons_succ, Act.put, List.setIfInBounds_toArray, List.set_cons_zero, List.set_cons_succ]
      refine wpAnyH_take (i := 16) (v := ?_) rfl (by kernel_rfl) (by kernel_rfl) (by kernel_rfl) (fun _ _ _ h => h) (Or.inl ⟨by rfl, ?_⟩) (by assumption) ?_
      rotate_left 1
      · intro w' hSw
        go_simp
        all_goals first | with_reducible rfl | (rw [if_neg (by omega)]; done) | (rw [if_pos (by omega)]; done) | (rw [if_neg (by omega)]; with_reducible rfl) | (rw [if_pos (by omega)]; with_reducible rfl)
      try simp only [List.getElem_toArray, List.getElem_cons_zero, List.getElem_cons_succ, Act.put, List.setIfInBounds_toArray, List.set_cons_zero, List.set_cons_succ]
      refine wpAnyH_take (i := 17) (v := ?_) rfl (by kernel_rfl) (by kernel_rfl) (by kernel_rfl) (fun _ _ _ h => h) (Or.inl ⟨by rfl, ?_⟩) (by assumption) ?_
      rotate_left 1
      · intro w' hSw
        have hS1 := hSw
        obtain ⟨y0, y1, y2⟩ := HCW.out _ (TX.out.trans hS1)
        go_simp
        all_goals first | with_reducible rfl | (rw [if_neg (by omega)]; done) | (rw [if_pos (by omega)]; done) | (rw [if_neg (by omega)]; with_reducible rfl) | (rw [if_pos (by omega)]; with_reducible rfl)
      try simp only [List.getElem_toArray, List.getElem_cons_zero, List.getElem_cons_succ, Act.put, List.setIfInBounds_toArray, List.set_cons_zero, List.set_cons_succ]
      refine wpAnyH_take (i := 18) (v := ?_) rfl (by kernel_rfl) (by kernel_rfl) (by kernel_rfl) (fun _ _ _ h => h) (Or.inl ⟨by rfl, ?_⟩) (by assumption) ?_
      rotate_left 1
      · intro w' hSw
        go_simp
        all_goals first | with_reducible rfl | (rw [if_neg (by omega)]; done) | (rw [if_pos (by omega)]; done) | (rw [if_neg (by omega)]; with_reducible rfl) | (rw [if_pos (by omega)]; with_reducible rfl)
      try simp only [List.getElem_toArray, List.getElem_cons_zero, List.getElem_cons_succ, Act.put, List.setIfInBounds_toArray, List.set_cons_zero, List.set_cons_succ]
      refine wpAnyH_ready (rs := [6]) (by kernel_rfl) (by simp) ?_
      refine AllReadyH.cons rfl (fun K hK => ?_) AllReadyH.nil
      refine step_call_on 107 Try.f107 _ _ rfl Try.func107 (by kernel_rfl) (by kernel_rfl) _ _ (HFI.out _ (TX.out.trans T0.out)) (by go_simp) (by first | rfl | go_simp) ?_
      rintro v9 w9 ⟨A9, c9, rfl, hv9, ht⟩
      have T1 := Lib.hid (T0.out.trans ht)
      have V9 := Lib.hid hv9
      clear ht hv9
      refine hK.out _ _ T1.out (fun hHeld => ?_)
      clear hHeld
      clear hK K
      try simp only [List.getElem_toArray, List.getElem_cons_zero, List.getElem_cons_succ, Act.put, List.setIfInBounds_toArray, List.set_cons_zero, List.set_cons_succ]
      refine wpAnyH_ready (rs := [19]) (by kernel_rfl) (by simp) ?_
      refine AllReadyH.cons rfl (fun K hK => ?_) AllReadyH.nil
      refine step_call_on 112 Try.f112 _ _ rfl Try.func112 (by kernel_rfl) (by kernel_rfl) _ _ (HAD.out _ _ V9.out) (by go_simp) (by first | rfl | go_simp) ?_
      rintro v10 w10 ⟨A10, c10, e10, rfl, hv10, ht⟩
      have T2 := Lib.hid (T1.out.trans ht)
      have V10 := Lib.hid hv10
      clear ht hv10
      refine hK.out _ _ T2.out (fun hHeld => ?_)
      clear hHeld
      clear hK K
      try simp only [List.getElem_toArray, List.getElem_cons_zero, List.getElem_cons_succ, Act.put, List.setIfInBounds_toArray, List.set_cons_zero, List.set_cons_succ]
      refine wpAnyH_take (i := 20) (v := ?_) rfl (by kernel_rfl) (by kernel_rfl) (by kernel_rfl) (fun _ _ _ h => h) (Or.inl ⟨by rfl, ?_⟩) (by assumption) ?_
      rotate_left 1
      · intro w' hSw
        go_simp
        all_goals first | with_reducible rfl | (rw [if_neg (by omega)]; done) | (rw [if_pos (by omega)]; done) | (rw [if_neg (by omega)]; with_reducible rfl) | (rw [if_pos (by omega)]; with_reducible rfl)
      try simp only [List.getElem_toArray, List.getElem_cons_zero, List.getElem_cons_succ, Act.put, List.setIfInBounds_toArray, List.set_cons_zero, List.set_cons_succ]
      refine wpAnyH_take (i := 21) (v := ?_) rfl (by kernel_rfl) (by kernel_rfl) (by kernel_rfl) (fun _ _ _ h => h) (Or.inl ⟨by rfl, ?_⟩) (by assumption) ?_
      rotate_left 1
      · intro w' hSw
        go_simp
        all_goals first | with_reducible rfl | (rw [if_neg (by omega)]; done) | (rw [if_pos (by omega)]; done) | (rw [if_neg (by omega)]; with_reducible rfl) | (rw [if_pos (by omega)]; with_reducible rfl)
      try simp only [List.getElem_toArray, List.getElem_cons_zero, List.getElem_cons_succ, Act.put, List.setIfInBounds_toArray, List.set_cons_zero, List.set_cons_succ]
      refine wpAnyH_take (i := 22) (v := ?_) rfl (by kernel_rfl) (by kernel_rfl) (by kernel_rfl) (fun _ _ _ h => h) (Or.inl ⟨by rfl, ?_⟩) (by assumption) ?_
      rotate_left 1
      · intro w' hSw
        go_simp
        all_goals first | with_reducible rfl | (rw [if_neg (by omega)]; done) | (rw [if_pos (by omega)]; done) | (rw [if_neg (by omega)]; with_reducible rfl) | (rw [if_pos (by omega)]; with_reducible rfl)
      try simp only [List.getElem_toArray, List.getElem_cons_zero, List.getElem_cons_succ, Act.put, List.setIfInBounds_toArray, List.set_cons_zero, List.set_cons_succ]
      refine wpAnyH_take (i := 23) (v := ?_) rfl (by kernel_rfl) (by kernel_rfl) (by kernel_rfl) (fun _ _ _ h => h) (Or.inl ⟨by rfl, ?_⟩) (by assumption) ?_
      rotate_left 1
      · intro w' hSw
        go_simp
        all_goals first | with_reducible rfl | (rw [if_neg (by omega)]; done) | (rw [if_pos (by omega)]; done) | (rw [if_neg (by omega)]; with_reducible rfl) | (rw [if_pos (by omega)]; with_reducible rfl)
      try simp only [List.getElem_toArray, List.getElem_cons_zero, List.getElem_cons_succ, Act.put, List.setIfInBounds_toArray, List.set_cons_zero, List.set_cons_succ]
      refine wpAnyH_take (i := 24) (v := ?_) rfl (by kernel_rfl) (by kernel_rfl) (by kernel_rfl) (fun _ _ _ h => h) (Or.inl ⟨by rfl, ?_⟩) (by assumption) ?_
      rotate_left 1
      · intro w' hSw
        go_simp
        all_goals first | with_reducible rfl | (rw [if_neg (by omega)]; done) | (rw [if_pos (by omega)]; done) | (rw [if_neg (by omega)]; with_reducible rfl) | (rw [if_pos (by omega)]; with_reducible rfl)
      try simp only [List.getElem_toArray, List.getElem_cons_zero, List.getElem_cons_succ, Act.put, List.setIfInBounds_toArray, List.set_cons_zero, List.set_cons_succ]
      refine wpAnyH_done (by kernel_rfl) ?_ _
      refine NoPanic.normal ?_
      obtain ⟨y0, y1, y2⟩ := HCW.out _ (TX.out.trans T2.out)
      go_wp2_with fail
      have hvr : Vr w10 (.slice A10 m1 c10) V1 := by have h8 := V10.out.vr (by omega); exact h8
      have hix10 := IXF.out.still T2.out
      refine (HWT.out w10 (.slice A10 m1 c10) hix10 hvr).mono ?_
      rintro e w11 ⟨v11, rfl, ho11, ht11⟩
      have T11 := Lib.hid (TX.out.trans (T2.out.trans ht11))
      have hml := wth_len F (⟨xk, V1⟩, .slice A10 m1 c10)
      have hI11 := Lib.hid (ho11.ix (Nat.le_trans hml (by have := HFB.out; omega)))
      have HST2 : Hid ((wth F (⟨xk, V1⟩, .slice A10 m1 c10)).map (·.1) = apl (M.map (·.1)) t (L.take (i + 1))) := Lib.hid (by rw [wth_map, HNXT.out, HST.out])
      have HFB2 : Hid ((wth F (⟨xk, V1⟩, .slice A10 m1 c10)).length ≤ M.length + (i + 1)) := Lib.hid (Nat.le_trans hml (by have := HFB.out; omega))
      have HFV2 : Hid (∀ p ∈ wth F (⟨xk, V1⟩, .slice A10 m1 c10), p.1.vs.length ≤ 50001) := Lib.hid (fun p hp => by
        rcases mem_wth hp with rfl | hp
        · exact hal
        · exact HFV.out p hp)
      have HFK2 : Hid (∀ p ∈ wth F (⟨xk, V1⟩, .slice A10 m1 c10), p.1.k.size ≤ 140737488351232) := Lib.hid (fun p hp => by
        rcases mem_wth hp with rfl | hp
        · exact HKX.out
        · exact HFK.out p hp)
      have HAPG : ∀ g, g < W2.heap.size → Ap14 g (.slice AF f cF) F → Ap14 g v11 (wth F (⟨xk, V1⟩, .slice A10 m1 c10)) := fun g hg hap => ⟨fun hp b hb => by
        have hs := (TX.out.trans T2.out).size
        obtain ⟨hl5, ⟨e5, h5⟩ | ⟨g5, cap5, cur5, e5, hB5, _⟩⟩ := ho11.1
        · omega
        · subst e5
          have hb2 : some g5 = some b := hb
          cases hb2
          omega, fun p hp h b hb => by
        rcases mem_wth hp with rfl | hp
        · have hs := (TX.out.trans T1.out).size
          obtain ⟨hl5, ⟨e5, h5⟩ | ⟨g5, cap5, cur5, e5, hB5, _⟩⟩ := V10.out
          · simp only at h; omega
          · injection e5 with e6
            subst e6
            have hb2 : some g5 = some b := hb
            cases hb2
            omega
        · exact hap.2 p hp h b hb⟩
      have HAP2 : Hid (Ap14 W1.heap.size v11 (wth F (⟨xk, V1⟩, .slice A10 m1 c10)) ∧ ∀ g, g < w.heap.size → Ap14 g (.slice A n c) M → Ap14 g v11 (wth F (⟨xk, V1⟩, .slice A10 m1 c10))) := Lib.hid ⟨HAPG _ (by omega) HAP.out.1, fun g hg hap => HAPG g (by omega) (HAP.out.2 g hg hap)⟩
      clear ho11 ht11 hvr hix10 hml y0 y1 y2
      go_wp2_with fail
      go_roundw
      case rel => exact ⟨i + 1, _, by omega, by simp [hq], hI11.out, HST2, HFB2, HFV2, HFK2, HAP2, T11.out⟩
      case measure => simp [intOf, hq]; omega
    · obtain rfl : i = m := by omega
      have HALL : Hid (F.map (·.1) = apl (M.map (·.1)) t L) := Lib.hid (by rw [HST.out, ← HM.out, List.take_length])
      have hbc := BC.out.turn TX.out (fun h => h)
      obtain ⟨z0, z1, z2, g0, g1, g2⟩ := cells3 hbc
      have HF := Lib.hid (box3 hbc (.slice AF f cF) (.int .i64 t) (.int .i64 mark))
      clear hbc
      go_wp2_with fail
      obtain ⟨CZ, TS, r0, r1, r2⟩ := HF.out
      have hio := IXF.out.turn HAP.out.1 TS
      exact bodyPost_ret (v := .tuple #[.agg #[.slice AF f cF, .int .i64 t, .int .i64 mark], .int .i64 0]) (by simp [results, Try.results62, go_sem, r0, r1, r2]) rfl ⟨_, rfl, ⟨F, hio, HALL.out, HFB.out, by first | exact HFV.out | exact fun a b h => HFV.out (a, b) h, by first | exact HFK.out | exact fun a b h => HFK.out (a, b) h, HAP.out.2⟩, (TW.out.trans TX.out).trans_new TS (fun k hk e => by omega)⟩
end Go.Proofs.Ytobddfpdijmgiaa
/- Layer 14: pairs; the document's Scan. -/
namespace Go.Proofs.Ytobddfpdijmgiaa
open Go.RowKit
set_option linter.unusedVariables false
set_option linter.unusedSimpArgs false
set_option maxRecDepth 100000

/-- A pair: a key, its value. -/
structure Pq2 where
  k : ByteArray
  v : ByteArray
def pc2 (p : Pq2) : List Value := [.string p.k, .string p.v]
theorem pc2_len (p : Pq2) : (pc2 p).length = 2 := rfl
theorem pc2_one (L : List Pq2) : ∀ u ∈ L.flatMap pc2, u.oneCell' = true := fun u hu => by
  obtain ⟨p, _, hx⟩ := List.mem_flatMap.1 hu
  simp [pc2] at hx
  rcases hx with rfl | rfl <;> rfl
/-- Pairs that a slice holds. -/
def Px (w : World) (v : Value) (L : List Pq2) : Prop := ∃ A c, v = .slice A L.length c ∧ L.length ≤ 9223372036854775807 ∧ Rc w A (L.flatMap pc2)
theorem Px.still {w w' : World} {v : Value} {L : List Pq2} (h : Px w v L) (ht : Turn (fun _ => False) w w') : Px w' v L := by
  obtain ⟨A, c, e, hl, hr⟩ := h
  exact ⟨A, c, e, hl, hr.still ht⟩
/-- A row of pairs of the call's own. -/
def Po (B : Nat) (w : World) (v : Value) (L : List Pq2) : Prop := w.ownsRow B 61 2 v L.length (L.flatMap pc2)
theorem Po.px {B : Nat} {w : World} {v : Value} {L : List Pq2} (h : Po B w v L) (hl : L.length ≤ 9223372036854775807) : Px w v L := by
  obtain ⟨A, c, rfl⟩ := own_slice_ h
  exact ⟨A, c, rfl, hl, rc_own h⟩
theorem Po.still {B : Nat} {w w' : World} {v : Value} {L : List Pq2} (h : Po B w v L) (ht : Turn (fun _ => False) w w') : Po B w' v L := own_still_ h ht
theorem po_nil (B : Nat) (w : World) : Po B w (.slice none 0 0) [] := ⟨rfl, .inl ⟨rfl, rfl⟩⟩
theorem info_pq2 : (Try.prog.info? 61).map (fun i => (i.zero, i.size, i.bytes)) = some (some (.agg #[.string ByteArray.empty, .string ByteArray.empty]), 2, 32) := by kernel_rfl
theorem wpList_app1p {w : World} {ops : Array Oper} {rest : List Oper} {o : Oper} {a : Act} {Q : Exit → Act → World → Prop} (hgd : o.guard = none) (x y : Operand)
    (ho : o.op = .call { callee := .builtin .append, args := #[x, y], argTypes := #[46, 46] })
    (B : Nat) (v : Value) (L : List Pq2) (n q : Nat) (z : Pq2) (hx : a.eval x = v) (hn : L.length = n) (hown : Po B w v L) (hy : a.eval y = .slice (some ⟨q, 0, none⟩) 1 1) (hq : Blk w q 61 (pc2 z)) (hb : n ≤ 1000000) (hB : B ≤ w.heap.size)
    (h : ∀ A' c' w', Po B w' (.slice A' (n + 1) c') (L ++ [z]) → Turn (fun k => v.ownBlock = some k) w w' → wpList Try.prog ops Q rest (a.put o.dst (.slice A' (n + 1) c')) w') : wpList Try.prog ops Q (o :: rest) a w := by
  subst hn
  refine wpList_app_rc hgd x y 46 ho B 61 _ 2 32 Try.underlying46 info_pq2 rfl (by decide) v L.length (L.flatMap pc2) hx hown (some ⟨q, 0, none⟩) 1 1 (pc2 z) hy rfl hq.rc (fun u hu => by simp [pc2] at hu; rcases hu with rfl | rfl <;> rfl) (by unfold maxLen; omega) (by omega) hB ?_
  intro A' c' w' h1 h2 _
  refine h A' c' w' ?_ h2
  unfold Po
  rw [List.length_append, List.flatMap_append, List.length_singleton, List.flatMap_singleton]
  exact h1
theorem own_mono9 {B C t s n : Nat} {w : World} {v : Value} {xs : List Value} (h : w.ownsRow C t s v n xs) (hB : B ≤ C) : w.ownsRow B t s v n xs := by
  obtain ⟨hl, ⟨e, h0⟩ | ⟨g, cap, cur, e, hC, hr⟩⟩ := h
  · exact ⟨hl, .inl ⟨e, h0⟩⟩
  · exact ⟨hl, .inr ⟨g, cap, cur, e, Nat.le_trans hB hC, hr⟩⟩
def scs (a b : ByteArray) (t most : Int) (out : List Pq2) (p : Itm × Value) : List Pq2 :=
  if (at13 p.1.vs t).2 && (win p.1.k a b && (decide (most < 0) || decide ((out.length : Int) < most))) then out ++ [⟨p.1.k, (at13 p.1.vs t).1⟩] else out
def scl (M : List (Itm × Value)) (a b : ByteArray) (t most : Int) : List Pq2 := M.foldl (scs a b t most) []
set_option maxHeartbeats 8000000 in
theorem refScan14 (M : List (Itm × Value)) (v : Value) (last mark : Int) (fa fb : ByteArray) (t most : Int) (w : World) (h : Ix w v M) (hks : ∀ p ∈ M, p.1.k.size ≤ 140737488351232) (ha : fa.size ≤ 140737488351232) (hb : fb.size ≤ 140737488351232) (hmb : M.length ≤ 100000) :
    Calls Try.prog 58 #[.agg #[v, .int .i64 last, .int .i64 mark], .string fa, .string fb, .int .i64 t, .int .i64 most] w fun e w' => ∃ v', e = .returned (.tuple #[v', .int .i64 (kept14 last mark t)]) ∧ Po w.heap.size w' v' (if kept14 last mark t = 0 then scl M fa fb t most else []) ∧ Turn (fun _ => False) w w' := by
  have HK := Lib.hid (fun W => refKept14 v last mark t W)
  obtain ⟨A, c, rfl, hl, hr, hw⟩ := h
  obtain ⟨n, hn⟩ : ∃ n, M.length = n := ⟨_, rfl⟩
  have HN := Lib.hid hn
  have HR := Lib.hid hr
  have HW := Lib.hid hw
  have HKS := Lib.hid hks
  have HWI := Lib.hid (fun (k : ByteArray) (hk : k.size ≤ 140737488351232) W => refWithin14 k fa fb hk ha hb W)
  rw [hn] at hl hmb HK ⊢
  obtain ⟨W1, hW1⟩ : ∃ W, w.alloc (.cells #[.slice A n c, .int .i64 last, .int .i64 mark] 32) = W := ⟨_, rfl⟩
  have TW : Hid (Turn (fun _ => False) w W1) := Lib.hid (hW1 ▸ (Turn.refl _ _).alloc _)
  have BX : Hid (Blk W1 w.heap.size 32 [.slice A n c, .int .i64 last, .int .i64 mark]) := Lib.hid (hW1 ▸ Blk.new _ _ _)
  have HBX : Hid (∀ X, Turn (fun _ => False) W1 X → X.cell? ⟨w.heap.size, 0, none⟩ = some (.slice A n c)) := Lib.hid (fun X hX => (BX.out.turn hX (fun h => h)).cell 0)
  obtain ⟨R, hR⟩ : ∃ R, scl M fa fb t most = R := ⟨_, rfl⟩
  have HRR := Lib.hid hR
  rw [hR]
  clear hn hr hw hR hks ha hb
  obtain ⟨x0, x1, x2, _, _, _⟩ := cells3 BX.out
  generalize kept14 last mark t = K at *
  by_cases hk : K = 0
  · subst hk
    simp only [if_true]
    go_enter Try.func58, Try.ntmps58
    go_wp2_with fail
    clear hW1
    refine (HK.out _).mono ?_
    rintro e wk ⟨rfl, htk⟩
    have TK := Lib.hid htk
    have b0 := HBX.out wk htk
    clear htk x0 x1 x2
    go_wp2_with fail
    clear b0
    go_loopw [13, 14, 15, 16] (fun v13 v14 _ _ wr => ∃ (i : Nat) (F : List Pq2), i ≤ n ∧ v14 = .int .i64 i ∧ Hid ((M.take i).foldl (scs fa fb t most) [] = F) ∧ Hid (F.length ≤ i) ∧ Po W1.heap.size wr v13 F ∧ Turn (fun _ => False) W1 wr) (fun _ v14 _ _ _ => n - (intOf v14).toNat)
    case atStart => exact ⟨0, [], Nat.zero_le _, rfl, Lib.hid rfl, Lib.hid (Nat.le_refl _), po_nil _ _, TK.out⟩
    case round =>
      clear TK
      obtain ⟨i, F, hi, rfl, HST, HFB, ho, ht⟩ := hrel
      obtain ⟨wx, rfl⟩ : ∃ W, W = wr := ⟨_, rfl⟩
      obtain ⟨AF, cF, rfl⟩ := own_slice_ ho
      obtain ⟨f, hf⟩ : ∃ f, F.length = f := ⟨_, rfl⟩
      have HFL := Lib.hid hf
      have TX := Lib.hid ht
      have b0 := HBX.out wx ht
      rw [hf] at ho HFB ⊢
      have HO := Lib.hid ho
      have hfb := HFB.out
      clear ho ht hf
      by_cases hlt : i < n
      · have hl1 : (i : Int) < (n : Int) := by omega
        have hl0 : (0 : Int) ≤ (i : Int) := by omega
        have hq := wrap_of ((i : Int) + 1) (by omega) (by omega)
        obtain ⟨p, hp⟩ : ∃ p, M[i]? = some p := ⟨_, List.getElem?_eq_getElem (by rw [HN.out]; exact hlt)⟩
        obtain ⟨LH, hLH⟩ : ∃ q, (M.take (i + 1)).foldl (scs fa fb t most) [] = q := ⟨_, rfl⟩
        have HLH := Lib.hid hLH
        have HNXT : Hid (LH = scs fa fb t most F p) := Lib.hid (by rw [← hLH, take_next hp, List.foldl_append, HST.out]; rfl)
        clear hLH
        obtain ⟨b, o, rfl, hb1, hc⟩ := HR.out.item (by rw [HN.out]; omega)
        have HCW := Lib.hid (fun X (hX : Turn (fun _ => False) W1 X) => hc X (TW.out.trans hX) i p hp)
        have hv := HW.out p (List.mem_of_getElem? hp)
        have HKP := Lib.hid (HWI.out p.1.k (HKS.out p (List.mem_of_getElem? hp)))
        have HAT := Lib.hid (fun X (hX : Turn (fun _ => False) W1 X) => refAt13 p.1.vs p.2 t X (hv.still (TW.out.trans hX)))
        unfold scs at HNXT
        obtain ⟨⟨pk, pvs⟩, pv⟩ := p
        simp only at hv HKP HAT HCW HNXT
        obtain ⟨AV, cV, e⟩ := hv.len
        subst e
        obtain ⟨mp, hmp⟩ : ∃ m, pvs.length = m := ⟨_, rfl⟩
        rw [hmp] at HCW HAT
        obtain ⟨⟨as_, ab⟩, hA⟩ : ∃ q, at13 pvs t = q := ⟨_, rfl⟩
        rw [hA] at HAT HNXT
        simp only at HAT HNXT
        obtain ⟨r1, hr1⟩ : ∃ q, win pk fa fb = q := ⟨_, rfl⟩
        rw [hr1] at HKP HNXT
        rw [HFL.out] at HNXT
        obtain ⟨c0, c1⟩ := HCW.out wx TX.out
        clear hp hb1 hc hv hmp hA hr1
        go_wp2_with fail
        refine (HAT.out _ TX.out).mono ?_
        rintro e w2 ⟨rfl, ht2⟩
        have X2 := Lib.hid (TX.out.trans ht2)
        have O2 := Lib.hid (HO.out.still ht2)
        obtain ⟨d0, d1⟩ := HCW.out w2 X2.out
        have b2 := HBX.out w2 X2.out
        clear ht2 c0 c1 b0
        cases ab with
        | false =>
          have HN2 : Hid ((M.take (i + 1)).foldl (scs fa fb t most) [] = F) := Lib.hid (by rw [HLH.out, HNXT.out]; simp)
          go_wp2_with fail
          go_roundw
          case rel => exact ⟨i + 1, F, by omega, by simp [hq], HN2, Lib.hid (by have := HFL.out; omega), O2.out, X2.out⟩
          case measure => simp [intOf, hq]; omega
        | true =>
          go_wp2_with fail
          refine (HKP.out _).mono ?_
          rintro e w3 ⟨rfl, ht3⟩
          have X3 := Lib.hid (X2.out.trans ht3)
          have O3 := Lib.hid (O2.out.still ht3)
          obtain ⟨g0, g1⟩ := HCW.out w3 X3.out
          have b3 := HBX.out w3 X3.out
          clear ht3 d0 d1 b2
          cases r1 with
          | false =>
            have HN2 : Hid ((M.take (i + 1)).foldl (scs fa fb t most) [] = F) := Lib.hid (by rw [HLH.out, HNXT.out]; simp)
            go_wp2_with fail
            go_roundw
            case rel => exact ⟨i + 1, F, by omega, by simp [hq], HN2, Lib.hid (by have := HFL.out; omega), O3.out, X3.out⟩
            case measure => simp [intOf, hq]; omega
          | true =>
            have hways : (most < 0 ∨ (0 ≤ most ∧ (f : Int) < most)) ∨ (0 ≤ most ∧ most ≤ (f : Int)) := by omega
            rcases hways with hgo | ⟨hs1, hs2⟩
            · have HN2 : Hid ((M.take (i + 1)).foldl (scs fa fb t most) [] = F ++ [⟨pk, as_⟩]) := Lib.hid (by rw [HLH.out, HNXT.out, if_pos (by simp; omega)])
              rcases hgo with hneg | ⟨hp0, hp1⟩
              · have hd : decide (most < 0) = true := by simpa using hneg
                go_wp2_with (at_builtin; refine wpList_app1p rfl _ _ rfl W1.heap.size (.slice AF f cF) F f w3.heap.size ⟨pk, as_⟩ rfl HFL.out (O3.out.still ((Turn.refl _ _).alloc _)) rfl (Blk.new w3 61 [.string pk, .string as_]) (by omega) (by have := X3.out.size; rw [World.size_alloc]; omega) ?_; intro A7 c7 w7 ho7 ht7; have O7 := Lib.hid ho7; have T7 := Lib.hid ((X3.out.alloc (.cells #[.string pk, .string as_] 61)).trans_new ht7 (fun k hk h => by have := (own_ge9 O3.out k h).1; omega)); clear ho7 ht7)
                go_roundw
                case rel => exact ⟨i + 1, _, by omega, by simp [hq], HN2, Lib.hid (by rw [List.length_append]; simp only [List.length_singleton]; have := HFL.out; omega), O7.out, T7.out⟩
                case measure => simp [intOf, hq]; omega
              · have hd : decide (most < 0) = false := by simp; omega
                have hd2 : decide ((f : Int) < most) = true := by simpa using hp1
                go_wp2_with (at_builtin; refine wpList_app1p rfl _ _ rfl W1.heap.size (.slice AF f cF) F f w3.heap.size ⟨pk, as_⟩ rfl HFL.out (O3.out.still ((Turn.refl _ _).alloc _)) rfl (Blk.new w3 61 [.string pk, .string as_]) (by omega) (by have := X3.out.size; rw [World.size_alloc]; omega) ?_; intro A7 c7 w7 ho7 ht7; have O7 := Lib.hid ho7; have T7 := Lib.hid ((X3.out.alloc (.cells #[.string pk, .string as_] 61)).trans_new ht7 (fun k hk h => by have := (own_ge9 O3.out k h).1; omega)); clear ho7 ht7)
                go_roundw
                case rel => exact ⟨i + 1, _, by omega, by simp [hq], HN2, Lib.hid (by rw [List.length_append]; simp only [List.length_singleton]; have := HFL.out; omega), O7.out, T7.out⟩
                case measure => simp [intOf, hq]; omega
            · have HN2 : Hid ((M.take (i + 1)).foldl (scs fa fb t most) [] = F) := Lib.hid (by rw [HLH.out, HNXT.out, if_neg (by simp; omega)])
              have hd : decide (most < 0) = false := by simp; omega
              have hd2 : decide ((f : Int) < most) = false := by simp; omega
              go_wp2_with fail
              go_roundw
              case rel => exact ⟨i + 1, F, by omega, by simp [hq], HN2, Lib.hid (by have := HFL.out; omega), O3.out, X3.out⟩
              case measure => simp [intOf, hq]; omega
      · obtain rfl : i = n := by omega
        have HALL : Hid (R = F) := Lib.hid (by rw [← HRR.out, ← HST.out, ← HN.out, List.take_length]; rfl)
        go_wp2_with fail
        go_ret2
        exact ⟨_, rfl, by rw [HALL.out]; exact own_mono9 HO.out TW.out.size, TW.out.trans TX.out⟩
  · simp only [if_neg hk]
    have hkb : (K != 0) = true := by simpa using hk
    go_enter Try.func58, Try.ntmps58
    go_wp2_with fail
    clear hW1
    refine (HK.out _).mono ?_
    rintro e wk ⟨rfl, htk⟩
    have TK := Lib.hid (TW.out.trans htk)
    clear htk x0 x1 x2
    go_wp2_with fail
    go_ret2
    exact ⟨_, rfl, po_nil _ _, TK.out⟩
end Go.Proofs.Ytobddfpdijmgiaa
/- Layer 14: the document's Apply, where it refuses; rows of pairs compared. -/
namespace Go.Proofs.Ytobddfpdijmgiaa
open Go.RowKit
set_option linter.unusedVariables false
set_option linter.unusedSimpArgs false
set_option maxRecDepth 100000

set_option maxHeartbeats 4000000 in
theorem refApply14_bad (L : List Cg) (A : Option Addr) (n c : Nat) (vl : Value) (last mark t : Int) (w : World) (hc : Cx w vl L) (hbad : t ≤ last ∨ 1152921504606846976 < t ∨ mch L = false) :
    Calls Try.prog 62 #[.agg #[.slice A n c, .int .i64 last, .int .i64 mark], .int .i64 t, vl] w fun e w' => e = .returned (.tuple #[.agg #[.slice A n c, .int .i64 last, .int .i64 mark], .int .i64 (if t ≤ last ∨ 1152921504606846976 < t then 18 else 2)]) ∧ Turn (fun _ => False) w w' := by
  have HMY := Lib.hid (fun W (hT : Turn (fun _ => False) w W) => refMay14 L vl W (hc.still hT))
  obtain ⟨AL, cL, rfl, hll, hlr⟩ := hc
  obtain ⟨m, hm⟩ : ∃ n, L.length = n := ⟨_, rfl⟩
  rw [hm] at hll HMY ⊢
  obtain ⟨W1, hW1⟩ : ∃ W, w.alloc (.cells #[.slice A n c, .int .i64 last, .int .i64 mark] 32) = W := ⟨_, rfl⟩
  obtain ⟨W2, hW2⟩ : ∃ W, W1.alloc (.cells #[.slice none 0 0, .int .i64 0, .int .i64 0] 32) = W := ⟨_, rfl⟩
  have TW1 : Hid (Turn (fun _ => False) w W1) := Lib.hid (hW1 ▸ (Turn.refl _ _).alloc _)
  have TW : Hid (Turn (fun _ => False) w W2) := Lib.hid (hW2 ▸ TW1.out.alloc _)
  have BX : Hid (Blk W2 w.heap.size 32 [.slice A n c, .int .i64 last, .int .i64 mark]) := Lib.hid (hW2 ▸ (show Blk W1 w.heap.size 32 [.slice A n c, .int .i64 last, .int .i64 mark] from hW1 ▸ Blk.new _ _ _).alloc _)
  have BC : Hid (Blk W2 W1.heap.size 32 [.slice none 0 0, .int .i64 0, .int .i64 0]) := Lib.hid (hW2 ▸ Blk.new _ _ _)
  have h12 : w.heap.size < W1.heap.size := by rw [← hW1]; simp
  obtain ⟨x0, x1, x2, _, _, _⟩ := cells3 BX.out
  clear hm hlr
  by_cases h1 : t ≤ last
  · rw [if_pos (.inl h1)]
    clear hbad
    obtain ⟨z0, z1, z2, g0, g1, g2⟩ := cells3 BC.out
    have HF := Lib.hid (box3 BC.out (.slice A n c) (.int .i64 last) (.int .i64 mark))
    go_enter Try.func62, Try.ntmps62
    go_wp2_with fail
    obtain ⟨CZ, TS, r0, r1, r2⟩ := HF.out
    exact bodyPost_ret (v := .tuple #[.agg #[.slice A n c, .int .i64 last, .int .i64 mark], .int .i64 18]) (by simp [results, Try.results62, go_sem, r0, r1, r2]) rfl ⟨rfl, TW.out.trans_new TS (fun k hk e => by omega)⟩
  · by_cases h2 : 1152921504606846976 < t
    · rw [if_pos (.inr h2)]
      clear hbad
      obtain ⟨z0, z1, z2, g0, g1, g2⟩ := cells3 BC.out
      have HF := Lib.hid (box3 BC.out (.slice A n c) (.int .i64 last) (.int .i64 mark))
      go_enter Try.func62, Try.ntmps62
      go_wp2_with fail
      obtain ⟨CZ, TS, r0, r1, r2⟩ := HF.out
      exact bodyPost_ret (v := .tuple #[.agg #[.slice A n c, .int .i64 last, .int .i64 mark], .int .i64 18]) (by simp [results, Try.results62, go_sem, r0, r1, r2]) rfl ⟨rfl, TW.out.trans_new TS (fun k hk e => by omega)⟩
    · rw [if_neg (fun h => by rcases h with h | h; exact h1 h; exact h2 h)]
      have hm : mch L = false := by rcases hbad with h | h | h; exact absurd h h1; exact absurd h h2; exact h
      rw [hm] at HMY
      clear hbad hm
      go_enter Try.func62, Try.ntmps62
      go_wp2_with fail
      clear hW1 hW2
      refine (HMY.out _ TW.out).mono ?_
      rintro e wm ⟨rfl, htm⟩
      have TM := Lib.hid htm
      obtain ⟨y0, y1, y2, _, _, _⟩ := cells3 (BX.out.turn htm (fun h => h))
      have hbc := BC.out.turn htm (fun h => h)
      obtain ⟨z0, z1, z2, g0, g1, g2⟩ := cells3 hbc
      have HF := Lib.hid (box3 hbc (.slice A n c) (.int .i64 last) (.int .i64 mark))
      clear htm hbc x0 x1 x2
      go_wp2_with fail
      obtain ⟨CZ, TS, r0, r1, r2⟩ := HF.out
      exact bodyPost_ret (v := .tuple #[.agg #[.slice A n c, .int .i64 last, .int .i64 mark], .int .i64 2]) (by simp [results, Try.results62, go_sem, r0, r1, r2]) rfl ⟨rfl, (TW.out.trans TM.out).trans_new TS (fun k hk e => by omega)⟩
theorem Rc.pair {w : World} {A : Option Addr} {L : List Pq2} (h : Rc w A (L.flatMap pc2)) (hp : 0 < L.length) : ∃ b o, A = some ⟨b, o, none⟩ ∧ b < w.heap.size ∧ ∀ X, Turn (fun _ => False) w X → ∀ j x, L[j]? = some x → X.cell? ⟨b, o + j * 2, none⟩ = some (.string x.k) ∧ X.cell? ⟨b, o + j * 2 + 1, none⟩ = some (.string x.v) := by
  obtain ⟨b, o, e, hb, hc⟩ := h (by rw [flat_len pc2_len]; omega)
  refine ⟨b, o, e, hb, fun X hX j p hj => ?_⟩
  have hk : ∀ j, X.cell? ⟨b, j, none⟩ = w.cell? ⟨b, j, none⟩ := fun j => World.cell?_of_block (w := w) (a := ⟨b, j, none⟩) (hX.block b hb (fun h => h))
  rw [hk, hk, Nat.add_assoc]
  exact ⟨hc _ _ (flat_at pc2_len L j 0 p hj (by decide)), hc _ _ (flat_at pc2_len L j 1 p hj (by decide))⟩
set_option maxHeartbeats 4000000 in
theorem refSame10 (L : List Pq2) (v1 v2 : Value) (w : World) (h1 : Px w v1 L) (h2 : Px w v2 L) :
    Calls Try.prog 25 #[v1, v2] w fun e w' => e = .returned (.bool true) ∧ Turn (fun _ => False) w w' := by
  obtain ⟨A1, c1, rfl, hl, hr1⟩ := h1
  obtain ⟨A2, c2, rfl, _, hr2⟩ := h2
  obtain ⟨n, hn⟩ : ∃ n, L.length = n := ⟨_, rfl⟩
  have HN := Lib.hid hn
  have HR1 := Lib.hid hr1
  have HR2 := Lib.hid hr2
  rw [hn] at hl ⊢
  clear hn hr1 hr2
  go_enter Try.func25, Try.ntmps25
  go_wp2_with fail
  go_loopw [5] (fun v5 wr => ∃ i : Nat, i ≤ n ∧ v5 = .int .i64 i ∧ Turn (fun _ => False) w wr) (fun v5 _ => n - (intOf v5).toNat)
  case atStart => exact ⟨0, Nat.zero_le _, rfl, Turn.refl _ _⟩
  case round =>
    obtain ⟨i, hi, rfl, ht⟩ := hrel
    obtain ⟨wx, rfl⟩ : ∃ W, W = wr := ⟨_, rfl⟩
    have TT := Lib.hid ht
    clear ht
    by_cases hlt : i < n
    · have hlb1 : (i : Int) < (n : Int) := by omega
      have hlb0 : (0 : Int) ≤ (i : Int) := by omega
      have hq := wrap_of ((i : Int) + 1) (by omega) (by omega)
      obtain ⟨x, hx⟩ : ∃ x, L[i]? = some x := ⟨_, List.getElem?_eq_getElem (by rw [HN.out]; exact hlt)⟩
      obtain ⟨b1, o1, rfl, hb1, hc1⟩ := HR1.out.pair (by rw [HN.out]; omega)
      obtain ⟨b2, o2, rfl, hb2, hc2⟩ := HR2.out.pair (by rw [HN.out]; omega)
      obtain ⟨c10, c11⟩ := hc1 wx TT.out i x hx
      obtain ⟨c20, c21⟩ := hc2 wx TT.out i x hx
      obtain ⟨xk, xv⟩ := x
      simp only at c10 c11 c20 c21
      have hss : (xk.toList == xk.toList) = true := by simp
      have hsv : (xv.toList == xv.toList) = true := by simp
      clear hx hb1 hb2 hc1 hc2
      go_wp2_with fail
      go_quiet (fail)
      go_wp2_with fail
      go_roundw
      case rel => exact ⟨i + 1, by omega, by simp [hq], by first | exact TT.out.drewN _ | exact TT.out⟩
      case measure => simp [intOf, hq]; omega
    · obtain rfl : i = n := by omega
      go_wp2_with fail
      go_ret
      exact ⟨rfl, TT.out⟩
end Go.Proofs.Ytobddfpdijmgiaa
