/- SpaceStays: its walk. -/
import Derived.Test.YtobddfpdijmgiaaSpBi
namespace Go.Proofs.Ytobddfpdijmgiaa
open Go.RowKit Go.Shelf
set_option linter.unusedVariables false
set_option linter.unusedSimpArgs false
set_option maxRecDepth 100000
attribute [local go_sem] Oper.semAt_some

theorem q2_keep {I0 : List Itm} {t last mark ta ak : Int} (hkt : ak = 1 → mark + ta ≤ t) : ∀ (l' m' : Int) (I I' : List Itm), (m' = mark ∨ ak = 1 ∧ m' = mark + ta) → (∀ s, mark ≤ s → m' ≤ s → s ≤ last → s ≤ l' ∧ Sm14 I' I s) → Q2 I0 t last mark I → Q2 I0 t l' m' I' := fun l' m' I I' h1 h2 h3 => by
  obtain ⟨x1, x2, x3⟩ := h3
  have hm' : m' ≤ t := by
    rcases h1 with h | ⟨h, h'⟩
    · omega
    · have := hkt h
      omega
  obtain ⟨y1, y2⟩ := h2 t x1 hm' x2
  exact ⟨hm', y1, y2.trans x3⟩
theorem px_not_blk {w : World} {b t : Nat} {cs : List Value} {v : Value} {L : List Pq2} (h : Px w v L) (h0 : 0 < L.length) (hb : vb v = some b) (hB : Blk w b t cs) (hs : ∀ c ∈ cs, ∀ s, c ≠ .string s) : False := by
  obtain ⟨A, c, rfl, hl, hr⟩ := h
  obtain ⟨b', o, rfl, hb', hc⟩ := hr.pair h0
  have e : some b' = some b := hb
  cases e
  have h1 := (hc w (Turn.refl _ _) 0 L[0] (List.getElem?_eq_getElem h0)).1
  rw [hB.cell] at h1
  exact hs _ (List.mem_of_getElem? h1) _ rfl
theorem Px.turn0 {S : Nat → Prop} {w w' : World} {v : Value} {L : List Pq2} (h : Px w v L) (ht : Turn S w w') (hf : 0 < L.length → ∀ b, vb v = some b → ¬ S b) : Px w' v L := by
  obtain ⟨A, c, rfl, hl, hr⟩ := h
  exact ⟨A, c, rfl, hl, hr.turn ht (fun hp ad e hS => by subst e; exact hf (by rw [flat_len pc2_len] at hp; omega) _ rfl hS)⟩
theorem ls_px {w wx W9 Y : World} {mb N q g : Nat} {Q : Int → Int → List Itm → Prop} {vk mv v : Value} {last mark : Int} {L : List Pq2} (h : Ls14 w mb (fun k => vb v = some k) N Q q vk g last mark mv wx) (hmv : ∃ A n c, mv = .slice A n c) (hp : Px wx v L) (ht : Turn (Sw q vk g) wx W9) (hY : Turn (fun k => k = mb) W9 Y) : Px Y v L := by
  obtain ⟨_, h2, h3, _⟩ := h
  obtain ⟨A, n, c, rfl⟩ := hmv
  have p9 := hp.turn0 ht (fun _ b hb hs => (h3 b hs).2.2 hb)
  have b9 := h2.turn ht (fun h => (h3 _ h).2.1 rfl)
  exact p9.turn0 hY (fun h0 b hb e => by subst e; exact px_not_blk p9 h0 hb b9 (by simp))
set_option maxHeartbeats 16000000 in
theorem spaceStays_of (fa fb : ByteArray) (t : Int) (A1 : Option Addr) (n1 d1 : Nat) (ls : List Ac14) (A2' : Option Addr) (n2' d2 : Nat) (ms : List Ac14) (w : World) (hA : Acts14 w (.slice A1 n1 d1) ls) (hA2 : Acts14 w (.slice A2' n2' d2) ms) (hz : ∀ q ∈ ls, q.L.length ≤ 140737488351232) (hz2 : ∀ q ∈ ms, q.L.length ≤ 140737488351232) (ha : fa.size ≤ 140737488351232) (hb : fb.size ≤ 140737488351232) :
    Calls Try.prog 4 #[.slice A1 n1 d1, .slice A2' n2' d2, .int .i64 t, .string fa, .string fb] w fun r w' => r = .returned (.bool true) ∧ Turn (fun _ => False) w w' := by
  have HF := Lib.hid (few_14 hA hz)
  have HF2 := Lib.hid (few_14 hA2 hz2)
  obtain ⟨hnl, HROW0⟩ := hA.row
  have HROW := Lib.hid HROW0
  have HNL := Lib.hid hnl
  obtain ⟨hnl2, HROW02⟩ := hA2.row
  have HROW2 := Lib.hid HROW02
  have HNL2 := Lib.hid hnl2
  have hn63 : n1 ≤ 9223372036854775807 := by obtain ⟨_, _, e, hl, _⟩ := hA; injection e with _ e2 _; omega
  have hn63' : n2' ≤ 9223372036854775807 := by obtain ⟨_, _, e, hl, _⟩ := hA2; injection e with _ e2 _; omega
  clear hA hz HROW0 hnl hA2 hz2 HROW02 hnl2
  go_enter Try.func4, Try.ntmps4
  go_wp2_with (first
    | (go_at_call 19; have q9 := FP; refine HF2.out.mono ?_; rintro e w'' ⟨b2, rfl, hfp, rfl⟩; have FP2 := Lib.hid hfp; clear hfp)
    | (go_at_call 19; refine HF.out.mono ?_; rintro e w' ⟨b, rfl, hfp, rfl⟩; have FP := Lib.hid hfp; clear hfp)
    | (go_at_call 14; refine (lives_14 _).mono ?_; rintro e w9 ⟨rfl, t9⟩)
    | (go_at_call 20; refine (new_14 _).mono ?_; rintro e w1 ⟨q, vk, g, rfl, hs, hf, ht⟩; have S1 := Lib.hid hs; have F1 := Lib.hid hf; have T1 := Lib.hid ht; clear hs hf ht))

  · go_ret
    exact ⟨rfl, t9⟩
  rotate_left 1
  · go_ret
    exact ⟨rfl, t9⟩
  obtain ⟨wb, rfl⟩ : ∃ W, W = w'' := ⟨_, rfl⟩
  obtain rfl : b2 = true := by cases b2 <;> simp_all
  have CN1 := Lib.hid (FP.out (by first | rfl | simp_all))
  have CN2 := Lib.hid (FP2.out rfl)
  clear FP FP2 HF HF2
  obtain ⟨mb, hmb⟩ : ∃ mb, w1.heap.size = mb := ⟨_, rfl⟩
  have L0 : Hid (Ls14 wb mb (fun _ => False) 0 Q1 q vk g 0 0 (.slice none 0 0) (w1.alloc (.cells #[.slice none 0 0, .int .i64 0, .int .i64 0] 32))) := Lib.hid (by
    refine ⟨⟨[], [], ⟨S1.out.still ((Turn.refl _ _).alloc _), ix_nil _, rfl, ⟨List.Pairwise.nil, fun x hx => by cases hx⟩, by decide, fun k _ => ⟨fun h => absurd h (by simp), fun p hp => by cases hp⟩, bm_nil _⟩, trivial⟩, Blk.new_ _ _ _ hmb, fun k hk => ⟨F1.out k hk, fun e => ?_, fun h => h⟩, by have := T1.out.size; omega, fun k h => h.elim, T1.out.alloc _⟩
    have := S1.out.below k hk
    omega)
  clear S1 F1
  rw [hmb]
  clear hmb
  go_loopw [11, 13, 14, 15, 16] (fun v11 v13 _ _ _ wr => ∃ (i q : Nat) (vk : Value) (g : Nat) (last mark : Int) (AM : Option Addr) (lM cM : Nat), i ≤ n1 ∧ v11 = .pointer (some ⟨q, 0, none⟩) ∧ v13 = .int .i64 i ∧ Ls14 wb mb (fun _ => False) (cn14 (ls.take i)) Q1 q vk g last mark (.slice AM lM cM) wr) (fun _ v13 _ _ _ _ => n1 - (intOf v13).toNat)
  case atStart => exact ⟨0, q, vk, g, 0, 0, none, 0, 0, Nat.zero_le _, rfl, rfl, L0.out⟩
  case round =>
    clear L0 T1 vk g
    obtain ⟨i, q, vk, g, last, mark, AM, lM, cM, hi, rfl, rfl, hlp⟩ := hrel
    obtain ⟨wx, rfl⟩ : ∃ W, W = wr := ⟨_, rfl⟩
    have LP := Lib.hid hlp
    obtain ⟨_, m0, m1, m2⟩ := ls_cells hlp wx (Turn.refl _ _)
    have hmbs : mb < wx.heap.size := hlp.2.1.lt
    have hsw1 : ∀ k, Sw q vk g k → k < wx.heap.size := by obtain ⟨M, Md, hst, _⟩ := hlp.1; exact hst.sp.below
    have h6 := hlp.2.2.2.2.2
    clear hlp
    by_cases hlt : i < n1
    · have hl1 : (i : Int) < (n1 : Int) := by omega
      have hl0 : (0 : Int) ≤ (i : Int) := by omega
      have hq := wrap_of ((i : Int) + 1) (by omega) (by omega)
      obtain ⟨a, hx⟩ : ∃ x, ls[i]? = some x := ⟨_, List.getElem?_eq_getElem (by rw [HNL.out]; exact hlt)⟩
      have HX := Lib.hid hx
      obtain ⟨b, o, rfl, hcc⟩ := HROW.out i a hx
      obtain ⟨⟨e0, e1, e2⟩, _⟩ := hcc wx h6
      have HCC := Lib.hid hcc
      have HFW := Lib.hid (CN1.out.2 a (List.mem_of_getElem? hx))
      obtain ⟨ak, ta, av, aL⟩ := a
      obtain ⟨ln, hln⟩ : ∃ k, aL.length = k := ⟨_, rfl⟩
      simp only at e0 e1 e2 HCC
      obtain ⟨LA, lc, e9, _⟩ := (HCC.out wx h6).2
      rw [hln] at e9
      subst e9
      have HNX : Hid (cn14 (ls.take (i + 1)) = cn14 (ls.take i) + 1 + ln ∧ cn14 (ls.take (i + 1)) ≤ 200) := Lib.hid ⟨by rw [cn14_next HX.out, ← hln], Nat.le_trans (cn14_le _ _) CN1.out.1⟩
      have HSTEP0 := ls_step ak ta aL LP.out (by have := HNX.out; omega) hln (by have := HNX.out; omega) HFW.out (fun X hX => (HCC.out X hX).2) (fun _ _ _ _ _ _ h => h)
      rw [← HNX.out.1] at HSTEP0
      have HSTEP := Lib.hid HSTEP0
      have HBX : Hid (∀ X, Turn (Sw q vk g) wx X → X.cell? ⟨mb, 0, none⟩ = some (.slice AM lM cM) ∧ X.cell? ⟨mb, 1, none⟩ = some (.int .i64 last) ∧ X.cell? ⟨mb, 2, none⟩ = some (.int .i64 mark) ∧ X.cell? ⟨b, o + i * 3, none⟩ = some (.int .i64 ak) ∧ X.cell? ⟨b, o + i * 3 + 1, none⟩ = some (.int .i64 ta) ∧ X.cell? ⟨b, o + i * 3 + 2, none⟩ = some (.slice LA ln lc)) := Lib.hid (fun X hX => by
        obtain ⟨h1, d0, d1, d2⟩ := ls_cells LP.out X hX
        obtain ⟨⟨d3, d4, d5⟩, _⟩ := HCC.out X h1
        exact ⟨d0, d1, d2, d3, d4, d5⟩)
      clear hx hcc HSTEP0 h6
      go_wp2_with fail
      have T0 : Hid (Turn (Sw q vk g) wx wx.drew) := Lib.hid (Turn.refl _ _).drew
      refine wp_region_noPanic ?_
      refine wp_region_held_drew (S := (fun X => Turn (Sw q vk g) wx X)) (by kernel_rfl) T0.out (fun hHeld => ?_)
      clear hHeld
      refine wpAnyH_take (i := 0) (v := ?_) rfl (by kernel_rfl) (by kernel_rfl) (by kernel_rfl) (fun _ _ _ h => h) (Or.inl ⟨by rfl, ?_⟩) (by assumption) ?_
      rotate_left 1
      · intro w' hSw
        go_simp
        all_goals first | with_reducible rfl | (rw [if_neg (by omega)]; done) | (rw [if_pos (by omega)]; done) | (rw [if_neg (by omega)]; with_reducible rfl) | (rw [if_pos (by omega)]; with_reducible rfl)
      try simp only [List.getElem_toArray, List.getElem_cons_zero, List.getElem_cons_succ, Act.put, List.setIfInBounds_toArray, List.set_cons_zero, List.set_cons_succ]
      refine wpAnyH_take (i := 1) (v := ?_) rfl (by kernel_rfl) (by kernel_rfl) (by kernel_rfl) (fun _ _ _ h => h) (Or.inl ⟨by rfl, ?_⟩) (by assumption) ?_
      rotate_left 1
      · intro w' hSw
        obtain ⟨y0, y1, y2, y3, y4, y5⟩ := HBX.out _ hSw
        go_simp
        all_goals first | with_reducible rfl | (rw [if_neg (by omega)]; done) | (rw [if_pos (by omega)]; done) | (rw [if_neg (by omega)]; with_reducible rfl) | (rw [if_pos (by omega)]; with_reducible rfl)
      try simp only [List.getElem_toArray, List.getElem_cons_zero, List.getElem_cons_succ, Act.put, List.setIfInBounds_toArray, List.set_cons_zero, List.set_cons_succ]
      refine wpAnyH_take (i := 2) (v := ?_) rfl (by kernel_rfl) (by kernel_rfl) (by kernel_rfl) (fun _ _ _ h => h) (Or.inl ⟨by rfl, ?_⟩) (by assumption) ?_
      rotate_left 1
      · intro w' hSw
        go_simp
        all_goals first | with_reducible rfl | (rw [if_neg (by omega)]; done) | (rw [if_pos (by omega)]; done) | (rw [if_neg (by omega)]; with_reducible rfl) | (rw [if_pos (by omega)]; with_reducible rfl)
      try simp only [List.getElem_toArray, List.getElem_cons_zero, List.getElem_cons_succ, Act.put, List.setIfInBounds_toArray, List.set_cons_zero, List.set_cons_succ]
      refine wpAnyH_take (i := 3) (v := ?_) rfl (by kernel_rfl) (by kernel_rfl) (by kernel_rfl) (fun _ _ _ h => h) (Or.inl ⟨by rfl, ?_⟩) (by assumption) ?_
      rotate_left 1
      · intro w' hSw
        go_simp
        all_goals first | with_reducible rfl | (rw [if_neg (by omega)]; done) | (rw [if_pos (by omega)]; done) | (rw [if_neg (by omega)]; with_reducible rfl) | (rw [if_pos (by omega)]; with_reducible rfl)
      try simp only [List.getElem_toArray, List.getElem_cons_zero, List.getElem_cons_succ, Act.put, List.setIfInBounds_toArray, List.set_cons_zero, List.set_cons_succ]
      refine wpAnyH_take (i := 4) (v := ?_) rfl (by kernel_rfl) (by kernel_rfl) (by kernel_rfl) (fun _ _ _ h => h) (Or.inl ⟨by rfl, ?_⟩) (by assumption) ?_
      rotate_left 1
      · intro w' hSw
        go_simp
        all_goals first | with_reducible rfl | (rw [if_neg (by omega)]; done) | (rw [if_pos (by omega)]; done) | (rw [if_neg (by omega)]; with_reducible rfl) | (rw [if_pos (by omega)]; with_reducible rfl)
      try simp only [List.getElem_toArray, List.getElem_cons_zero, List.getElem_cons_succ, Act.put, List.setIfInBounds_toArray, List.set_cons_zero, List.set_cons_succ]
      refine wpAnyH_take (i := 5) (v := ?_) rfl (by kernel_rfl) (by kernel_rfl) (by kernel_rfl) (fun _ _ _ h => h) (Or.inl ⟨by rfl, ?_⟩) (by assumption) ?_
      rotate_left 1
      · intro w' hSw
        obtain ⟨y0, y1, y2, y3, y4, y5⟩ := HBX.out _ hSw
        go_simp
        all_goals first | with_reducible rfl | (rw [if_neg (by omega)]; done) | (rw [if_pos (by omega)]; done) | (rw [if_neg (by omega)]; with_reducible rfl) | (rw [if_pos (by omega)]; with_reducible rfl)
      try simp only [List.getElem_toArray, List.getElem_cons_zero, List.getElem_cons_succ, Act.put, List.setIfInBounds_toArray, List.set_cons_zero, List.set_cons_succ]
      refine wpAnyH_ready (rs := [6, 11]) (by kernel_rfl) (by simp) ?_
      refine AllReadyH.cons rfl (fun K hK => ?_) (AllReadyH.cons rfl (fun K hK => ?_) AllReadyH.nil)
      · refine step_call rfl 21 Try.f21 _ _ rfl Try.func21 (by kernel_rfl) (by kernel_rfl) _ _ (HSTEP.out _ (Turn.refl _ _).drew) (by go_simp) ?_
        rintro v8 w8 ⟨q2, vk2, g2, la2, mk2, A2, n2, c2, rfl, hst8, hsw8, ht8⟩
        have ST8 := Lib.hid hst8
        have T8 : Hid (Turn (Sw q vk g) wx w8) := Lib.hid (((Turn.refl _ _).drew).trans ht8)
        have F8 : Hid (∀ k, Sw q2 vk2 g2 k → Sw q vk g k ∨ wx.heap.size ≤ k) := Lib.hid hsw8
        clear hst8 hsw8 ht8
        refine hK.out _ _ T8.out (fun hHeld => ?_)
        clear hHeld hK K
        try simp only [List.getElem_toArray, List.getElem_cons_zero, List.getElem_cons_succ, Act.put, List.setIfInBounds_toArray, List.set_cons_zero, List.set_cons_succ]
        refine wpAnyH_take (i := 7) (v := ?_) rfl (by kernel_rfl) (by kernel_rfl) (by kernel_rfl) (fun _ _ _ h => h) (Or.inl ⟨by rfl, ?_⟩) (by assumption) ?_
        rotate_left 1
        · intro w' hSw
          go_simp
          all_goals first | with_reducible rfl | (rw [if_neg (by omega)]; done) | (rw [if_pos (by omega)]; done) | (rw [if_neg (by omega)]; with_reducible rfl) | (rw [if_pos (by omega)]; with_reducible rfl)
        try simp only [List.getElem_toArray, List.getElem_cons_zero, List.getElem_cons_succ, Act.put, List.setIfInBounds_toArray, List.set_cons_zero, List.set_cons_succ]
        refine wpAnyH_take (i := 8) (v := ?_) rfl (by kernel_rfl) (by kernel_rfl) (by kernel_rfl) (fun _ _ _ h => h) (Or.inl ⟨by rfl, ?_⟩) (by assumption) ?_
        rotate_left 1
        · intro w' hSw
          go_simp
          all_goals first | with_reducible rfl | (rw [if_neg (by omega)]; done) | (rw [if_pos (by omega)]; done) | (rw [if_neg (by omega)]; with_reducible rfl) | (rw [if_pos (by omega)]; with_reducible rfl)
        try simp only [List.getElem_toArray, List.getElem_cons_zero, List.getElem_cons_succ, Act.put, List.setIfInBounds_toArray, List.set_cons_zero, List.set_cons_succ]
        refine wpAnyH_take (i := 9) (v := ?_) rfl (by kernel_rfl) (by kernel_rfl) (by kernel_rfl) (fun _ _ _ h => h) (Or.inl ⟨by rfl, ?_⟩) (by assumption) ?_
        rotate_left 1
        · intro w' hSw
          go_simp
          all_goals first | with_reducible rfl | (rw [if_neg (by omega)]; done) | (rw [if_pos (by omega)]; done) | (rw [if_neg (by omega)]; with_reducible rfl) | (rw [if_pos (by omega)]; with_reducible rfl)
        try simp only [List.getElem_toArray, List.getElem_cons_zero, List.getElem_cons_succ, Act.put, List.setIfInBounds_toArray, List.set_cons_zero, List.set_cons_succ]
        refine wpAnyH_take (i := 10) (v := ?_) rfl (by kernel_rfl) (by kernel_rfl) (by kernel_rfl) (fun _ _ _ h => h) (Or.inl ⟨by rfl, ?_⟩) (by assumption) ?_
        rotate_left 1
        · intro w' hSw
          go_simp
          all_goals first | with_reducible rfl | (rw [if_neg (by omega)]; done) | (rw [if_pos (by omega)]; done) | (rw [if_neg (by omega)]; with_reducible rfl) | (rw [if_pos (by omega)]; with_reducible rfl)
        try simp only [List.getElem_toArray, List.getElem_cons_zero, List.getElem_cons_succ, Act.put, List.setIfInBounds_toArray, List.set_cons_zero, List.set_cons_succ]
        refine wpAnyH_ready (rs := [11]) (by kernel_rfl) (by simp) ?_
        refine AllReadyH.cons rfl (fun K hK => ?_) AllReadyH.nil
        go_simp
        obtain ⟨bx, hbx⟩ : ∃ bx, w8.heap.size = bx := ⟨_, rfl⟩
        have HBXS : Hid (wx.heap.size ≤ bx) := Lib.hid (by have := T8.out.size; omega)
        have NB : Hid (∀ k, Sw q2 vk2 g2 k → k ≠ bx) := Lib.hid (fun k hk e => by
          obtain ⟨M, Md, hst, _⟩ := ST8.out
          have := hst.sp.below k hk
          omega)
        obtain ⟨W8, hW8⟩ : ∃ W, w8.alloc (.cells #[.slice none 0 0, .int .i64 0, .int .i64 0] 32) = W := ⟨_, rfl⟩
        have BB : Hid (Blk W8 bx 32 [.slice none 0 0, .int .i64 0, .int .i64 0]) := Lib.hid (hW8 ▸ Blk.new_ _ _ _ hbx)
        have T8' : Hid (Turn (Sw q vk g) wx W8) := Lib.hid (hW8 ▸ T8.out.alloc _)
        have ST8' : Hid (∃ M Md, St14 W8 q2 vk2 g2 M la2 mk2 (.slice A2 n2 c2) Md (cn14 (ls.take (i + 1))) ∧ Q1 la2 mk2 (M.map (fun p : Itm × Value => p.1))) := Lib.hid (by
          obtain ⟨M, Md, hst, hqq⟩ := ST8.out
          exact ⟨M, Md, hW8 ▸ hst.still ((Turn.refl _ _).alloc _), hqq⟩)
        clear T8 ST8
        have T8 := T8'
        have ST8 := ST8'
        clear T8' ST8'
        rw [hbx, hW8]
        clear hbx hW8 w8
        obtain ⟨w8, rfl⟩ : ∃ W, W = W8 := ⟨_, rfl⟩
        refine hK.out _ _ T8.out (fun hHeld => ?_)
        clear hHeld hK K
        try simp only [List.getElem_toArray, List.getElem_cons_zero, List.getElem_cons_succ, Act.put, List.setIfInBounds_toArray, List.set_cons_zero, List.set_cons_succ]
        refine wpAnyH_take (i := 12) (v := ?_) rfl (by kernel_rfl) (by kernel_rfl) (by kernel_rfl) (fun _ _ _ h => h) (Or.inl ⟨by rfl, ?_⟩) (by assumption) ?_
        rotate_left 1
        · intro w' hSw
          go_simp
          all_goals first | with_reducible rfl | (rw [if_neg (by omega)]; done) | (rw [if_pos (by omega)]; done) | (rw [if_neg (by omega)]; with_reducible rfl) | (rw [if_pos (by omega)]; with_reducible rfl)
        try simp only [List.getElem_toArray, List.getElem_cons_zero, List.getElem_cons_succ, Act.put, List.setIfInBounds_toArray, List.set_cons_zero, List.set_cons_succ]
        refine wpAnyH_ready (rs := [13]) (by kernel_rfl) (by simp) ?_
        refine AllReadyH.cons rfl (fun K hK => ?_) AllReadyH.nil
        obtain ⟨r0, r1, r2, r3, r4, r5⟩ := cells3 BB.out
        have HF := Lib.hid (box3 BB.out (.slice A2 n2 c2) (.int .i64 la2) (.int .i64 mk2))
        go_simp
        have TS9 := Lib.hid (T8.out.trans_new HF.out.2.1 (fun k hk e => by have := HBXS.out; omega))
        refine hK.out _ _ TS9.out (fun hHeld => ?_)
        clear hHeld hK K
        try simp only [List.getElem_toArray, List.getElem_cons_zero, List.getElem_cons_succ, Act.put, List.setIfInBounds_toArray, List.set_cons_zero, List.set_cons_succ]
        refine wpAnyH_take (i := 14) (v := ?_) rfl (by kernel_rfl) (by kernel_rfl) (by kernel_rfl) (fun _ _ _ h => h) (Or.inl ⟨by rfl, ?_⟩) (by assumption) ?_
        rotate_left 1
        · intro w' hSw
          go_simp
          all_goals first | with_reducible rfl | (rw [if_neg (by omega)]; done) | (rw [if_pos (by omega)]; done) | (rw [if_neg (by omega)]; with_reducible rfl) | (rw [if_pos (by omega)]; with_reducible rfl)
        try simp only [List.getElem_toArray, List.getElem_cons_zero, List.getElem_cons_succ, Act.put, List.setIfInBounds_toArray, List.set_cons_zero, List.set_cons_succ]
        refine wpAnyH_done (by kernel_rfl) ?_ _
        refine NoPanic.normal ?_
        obtain ⟨CZ, TS, k0, k1, k2⟩ := HF.out
        obtain ⟨W9, hW9⟩ : ∃ W, ((w8.setCell ⟨bx, 0, none⟩ (.slice A2 n2 c2)).setCell ⟨bx, 1, none⟩ (.int .i64 la2)).setCell ⟨bx, 2, none⟩ (.int .i64 mk2) = W := ⟨_, rfl⟩
        rw [hW9] at CZ TS k0 k1 k2 ⊢
        have B9 := Lib.hid CZ
        have T9 : Hid (Turn (Sw q vk g) wx W9) := Lib.hid (T8.out.trans_new TS (fun k hk e => by have := HBXS.out; omega))
        have ST9 : Hid (∃ M Md, St14 W9 q2 vk2 g2 M la2 mk2 (.slice A2 n2 c2) Md (cn14 (ls.take (i + 1))) ∧ Q1 la2 mk2 (M.map (fun p : Itm × Value => p.1))) := Lib.hid (by
          obtain ⟨M, Md, hst, hqq⟩ := ST8.out
          exact ⟨M, Md, hst.box BB.out (by simp) NB.out TS, hqq⟩)
        clear CZ TS hW9 HF BB TS9 e0 e1 e2 m0 m1 m2
        go_wp2_with fail
        have BM : Hid (Blk W9 mb 32 [.slice AM lM cM, .int .i64 last, .int .i64 mark]) := Lib.hid (LP.out.2.1.turn T9.out (fun h => (LP.out.2.2.1 _ h).2.1 rfl))
        have HBM : Hid (∀ X, Turn (fun k => k = mb) W9 X → X.cell? ⟨bx, 0, none⟩ = some (.slice A2 n2 c2) ∧ X.cell? ⟨bx, 1, none⟩ = some (.int .i64 la2) ∧ X.cell? ⟨bx, 2, none⟩ = some (.int .i64 mk2)) := Lib.hid (fun X hX => by
          have b := B9.out.turn hX (fun e => by have := HBXS.out; omega)
          exact ⟨b.cell 0, b.cell 1, b.cell 2⟩)
        have HEND := Lib.hid (ls_end LP.out ⟨_, _, _, rfl⟩ T9.out ST9.out F8.out)
        clear HSTEP HBX T8 F8 NB ST8
        have T0 : Hid (Turn (fun k => k = mb) W9 W9.drew) := Lib.hid (Turn.refl _ _).drew
        refine wp_region_noPanic ?_
        refine wp_region_held_drew (S := (fun X => Turn (fun k => k = mb) W9 X)) (by kernel_rfl) T0.out (fun hHeld => ?_)
        clear hHeld
        refine wpAnyH_take (i := 0) (v := ?_) rfl (by kernel_rfl) (by kernel_rfl) (by kernel_rfl) (fun _ _ _ h => h) (Or.inl ⟨by rfl, ?_⟩) (by assumption) ?_
        rotate_left 1
        · intro w' hSw
          go_simp
          all_goals first | with_reducible rfl | (rw [if_neg (by omega)]; done) | (rw [if_pos (by omega)]; done) | (rw [if_neg (by omega)]; with_reducible rfl) | (rw [if_pos (by omega)]; with_reducible rfl)
        try simp only [List.getElem_toArray, List.getElem_cons_zero, List.getElem_cons_succ, Act.put, List.setIfInBounds_toArray, List.set_cons_zero, List.set_cons_succ]
        refine wpAnyH_take (i := 1) (v := ?_) rfl (by kernel_rfl) (by kernel_rfl) (by kernel_rfl) (fun _ _ _ h => h) (Or.inl ⟨by rfl, ?_⟩) (by assumption) ?_
        rotate_left 1
        · intro w' hSw
          obtain ⟨y0, y1, y2⟩ := HBM.out _ hSw
          go_simp
          all_goals first | with_reducible rfl | (rw [if_neg (by omega)]; done) | (rw [if_pos (by omega)]; done) | (rw [if_neg (by omega)]; with_reducible rfl) | (rw [if_pos (by omega)]; with_reducible rfl)
        try simp only [List.getElem_toArray, List.getElem_cons_zero, List.getElem_cons_succ, Act.put, List.setIfInBounds_toArray, List.set_cons_zero, List.set_cons_succ]
        refine wpAnyH_take (i := 2) (v := ?_) rfl (by kernel_rfl) (by kernel_rfl) (by kernel_rfl) (fun _ _ _ h => h) (Or.inl ⟨by rfl, ?_⟩) (by assumption) ?_
        rotate_left 1
        · intro w' hSw
          go_simp
          all_goals first | with_reducible rfl | (rw [if_neg (by omega)]; done) | (rw [if_pos (by omega)]; done) | (rw [if_neg (by omega)]; with_reducible rfl) | (rw [if_pos (by omega)]; with_reducible rfl)
        try simp only [List.getElem_toArray, List.getElem_cons_zero, List.getElem_cons_succ, Act.put, List.setIfInBounds_toArray, List.set_cons_zero, List.set_cons_succ]
        refine wpAnyH_ready (rs := [3]) (by kernel_rfl) (by simp) ?_
        refine AllReadyH.cons rfl (fun K hK => ?_) AllReadyH.nil
        obtain ⟨r0, r1, r2, r3, r4, r5⟩ := cells3 BM.out
        have HG := Lib.hid (box3 BM.out (.slice A2 n2 c2) (.int .i64 la2) (.int .i64 mk2))
        go_simp
        have TG : Hid (Turn (fun k => k = mb) W9 _) := Lib.hid (HG.out.2.1).drew
        refine hK.out _ _ TG.out (fun hHeld => ?_)
        clear hHeld hK K
        try simp only [List.getElem_toArray, List.getElem_cons_zero, List.getElem_cons_succ, Act.put, List.setIfInBounds_toArray, List.set_cons_zero, List.set_cons_succ]
        refine wpAnyH_done (by kernel_rfl) ?_ _
        refine NoPanic.normal ?_
        go_wp2_with fail
        go_roundw
        case rel => exact ⟨i + 1, q2, vk2, g2, la2, mk2, A2, n2, c2, by omega, rfl, by simp [hq], (HEND.out _ TG.out HG.out.1)⟩
        case measure => simp [intOf, hq]; omega
      · go_simp
        have T11F : Hid (Turn (fun _ => False) wx (wx.drew.alloc (.cells #[.slice none 0 0, .int .i64 0, .int .i64 0] 32))) := Lib.hid ((Turn.refl _ _).drew.alloc _)
        have T11 : Hid (Turn (Sw q vk g) wx (wx.drew.alloc (.cells #[.slice none 0 0, .int .i64 0, .int .i64 0] 32))) := Lib.hid (T11F.out.mono (fun k _ h => h.elim))
        refine hK.out _ _ T11.out (fun hHeld => ?_)
        clear hHeld hK K
        try simp only [List.getElem_toArray, List.getElem_cons_zero, List.getElem_cons_succ, Act.put, List.setIfInBounds_toArray, List.set_cons_zero, List.set_cons_succ]
        refine wpAnyH_ready (rs := [6]) (by kernel_rfl) (by simp) ?_
        refine AllReadyH.cons rfl (fun K hK => ?_) AllReadyH.nil
        refine step_call rfl 21 Try.f21 _ _ rfl Try.func21 (by kernel_rfl) (by kernel_rfl) _ _ (HSTEP.out _ T11F.out) (by go_simp) ?_
        rintro v8 w8 ⟨q2, vk2, g2, la2, mk2, A2, n2, c2, rfl, hst8, hsw8, ht8⟩
        have ST8 := Lib.hid hst8
        have T8 : Hid (Turn (Sw q vk g) wx w8) := Lib.hid ((T11F.out.mono (fun k _ h => h.elim)).trans ht8)
        have F8 : Hid (∀ k, Sw q2 vk2 g2 k → Sw q vk g k ∨ wx.heap.size ≤ k) := Lib.hid (fun k hk => (hsw8 k hk).imp id (fun h => Nat.le_trans T11F.out.size h))
        obtain ⟨bx, hbx⟩ : ∃ bx, wx.heap.size = bx := ⟨_, rfl⟩
        have HBXS : Hid (wx.heap.size ≤ bx) := Lib.hid (by omega)
        have BB : Hid (Blk w8 bx 32 [.slice none 0 0, .int .i64 0, .int .i64 0]) := Lib.hid ((Blk.new_ wx.drew 32 [.slice none 0 0, .int .i64 0, .int .i64 0] hbx).turn ht8 (fun h => by have := hsw1 _ h; omega))
        have NB : Hid (∀ k, Sw q2 vk2 g2 k → k ≠ bx) := Lib.hid (fun k hk e => by
          rcases hsw8 k hk with h | h
          · have := hsw1 _ h; omega
          · have h7 : wx.heap.size + 1 ≤ k := Nat.le_trans (Nat.le_of_eq (World.size_alloc wx.drew (.cells #[.slice none 0 0, .int .i64 0, .int .i64 0] 32)).symm) h
            omega)
        rw [hbx]
        clear hst8 hsw8 ht8 hbx
        refine hK.out _ _ T8.out (fun hHeld => ?_)
        clear hHeld hK K
        try simp only [List.getElem_toArray, List.getElem_cons_zero, List.getElem_cons_succ, Act.put, List.setIfInBounds_toArray, List.set_cons_zero, List.set_cons_succ]
        refine wpAnyH_take (i := 7) (v := ?_) rfl (by kernel_rfl) (by kernel_rfl) (by kernel_rfl) (fun _ _ _ h => h) (Or.inl ⟨by rfl, ?_⟩) (by assumption) ?_
        rotate_left 1
        · intro w' hSw
          go_simp
          all_goals first | with_reducible rfl | (rw [if_neg (by omega)]; done) | (rw [if_pos (by omega)]; done) | (rw [if_neg (by omega)]; with_reducible rfl) | (rw [if_pos (by omega)]; with_reducible rfl)
        try simp only [List.getElem_toArray, List.getElem_cons_zero, List.getElem_cons_succ, Act.put, List.setIfInBounds_toArray, List.set_cons_zero, List.set_cons_succ]
        refine wpAnyH_take (i := 8) (v := ?_) rfl (by kernel_rfl) (by kernel_rfl) (by kernel_rfl) (fun _ _ _ h => h) (Or.inl ⟨by rfl, ?_⟩) (by assumption) ?_
        rotate_left 1
        · intro w' hSw
          go_simp
          all_goals first | with_reducible rfl | (rw [if_neg (by omega)]; done) | (rw [if_pos (by omega)]; done) | (rw [if_neg (by omega)]; with_reducible rfl) | (rw [if_pos (by omega)]; with_reducible rfl)
        try simp only [List.getElem_toArray, List.getElem_cons_zero, List.getElem_cons_succ, Act.put, List.setIfInBounds_toArray, List.set_cons_zero, List.set_cons_succ]
        refine wpAnyH_take (i := 9) (v := ?_) rfl (by kernel_rfl) (by kernel_rfl) (by kernel_rfl) (fun _ _ _ h => h) (Or.inl ⟨by rfl, ?_⟩) (by assumption) ?_
        rotate_left 1
        · intro w' hSw
          go_simp
          all_goals first | with_reducible rfl | (rw [if_neg (by omega)]; done) | (rw [if_pos (by omega)]; done) | (rw [if_neg (by omega)]; with_reducible rfl) | (rw [if_pos (by omega)]; with_reducible rfl)
        try simp only [List.getElem_toArray, List.getElem_cons_zero, List.getElem_cons_succ, Act.put, List.setIfInBounds_toArray, List.set_cons_zero, List.set_cons_succ]
        refine wpAnyH_take (i := 10) (v := ?_) rfl (by kernel_rfl) (by kernel_rfl) (by kernel_rfl) (fun _ _ _ h => h) (Or.inl ⟨by rfl, ?_⟩) (by assumption) ?_
        rotate_left 1
        · intro w' hSw
          go_simp
          all_goals first | with_reducible rfl | (rw [if_neg (by omega)]; done) | (rw [if_pos (by omega)]; done) | (rw [if_neg (by omega)]; with_reducible rfl) | (rw [if_pos (by omega)]; with_reducible rfl)
        try simp only [List.getElem_toArray, List.getElem_cons_zero, List.getElem_cons_succ, Act.put, List.setIfInBounds_toArray, List.set_cons_zero, List.set_cons_succ]
        refine wpAnyH_take (i := 12) (v := ?_) rfl (by kernel_rfl) (by kernel_rfl) (by kernel_rfl) (fun _ _ _ h => h) (Or.inl ⟨by rfl, ?_⟩) (by assumption) ?_
        rotate_left 1
        · intro w' hSw
          go_simp
          all_goals first | with_reducible rfl | (rw [if_neg (by omega)]; done) | (rw [if_pos (by omega)]; done) | (rw [if_neg (by omega)]; with_reducible rfl) | (rw [if_pos (by omega)]; with_reducible rfl)
        try simp only [List.getElem_toArray, List.getElem_cons_zero, List.getElem_cons_succ, Act.put, List.setIfInBounds_toArray, List.set_cons_zero, List.set_cons_succ]
        refine wpAnyH_ready (rs := [13]) (by kernel_rfl) (by simp) ?_
        refine AllReadyH.cons rfl (fun K hK => ?_) AllReadyH.nil
        obtain ⟨r0, r1, r2, r3, r4, r5⟩ := cells3 BB.out
        have HF := Lib.hid (box3 BB.out (.slice A2 n2 c2) (.int .i64 la2) (.int .i64 mk2))
        go_simp
        have TS9 := Lib.hid (T8.out.trans_new HF.out.2.1 (fun k hk e => by have := HBXS.out; omega))
        refine hK.out _ _ TS9.out (fun hHeld => ?_)
        clear hHeld hK K
        try simp only [List.getElem_toArray, List.getElem_cons_zero, List.getElem_cons_succ, Act.put, List.setIfInBounds_toArray, List.set_cons_zero, List.set_cons_succ]
        refine wpAnyH_take (i := 14) (v := ?_) rfl (by kernel_rfl) (by kernel_rfl) (by kernel_rfl) (fun _ _ _ h => h) (Or.inl ⟨by rfl, ?_⟩) (by assumption) ?_
        rotate_left 1
        · intro w' hSw
          go_simp
          all_goals first | with_reducible rfl | (rw [if_neg (by omega)]; done) | (rw [if_pos (by omega)]; done) | (rw [if_neg (by omega)]; with_reducible rfl) | (rw [if_pos (by omega)]; with_reducible rfl)
        try simp only [List.getElem_toArray, List.getElem_cons_zero, List.getElem_cons_succ, Act.put, List.setIfInBounds_toArray, List.set_cons_zero, List.set_cons_succ]
        refine wpAnyH_done (by kernel_rfl) ?_ _
        refine NoPanic.normal ?_
        obtain ⟨CZ, TS, k0, k1, k2⟩ := HF.out
        obtain ⟨W9, hW9⟩ : ∃ W, ((w8.setCell ⟨bx, 0, none⟩ (.slice A2 n2 c2)).setCell ⟨bx, 1, none⟩ (.int .i64 la2)).setCell ⟨bx, 2, none⟩ (.int .i64 mk2) = W := ⟨_, rfl⟩
        rw [hW9] at CZ TS k0 k1 k2 ⊢
        have B9 := Lib.hid CZ
        have T9 : Hid (Turn (Sw q vk g) wx W9) := Lib.hid (T8.out.trans_new TS (fun k hk e => by have := HBXS.out; omega))
        have ST9 : Hid (∃ M Md, St14 W9 q2 vk2 g2 M la2 mk2 (.slice A2 n2 c2) Md (cn14 (ls.take (i + 1))) ∧ Q1 la2 mk2 (M.map (fun p : Itm × Value => p.1))) := Lib.hid (by
          obtain ⟨M, Md, hst, hqq⟩ := ST8.out
          exact ⟨M, Md, hst.box BB.out (by simp) NB.out TS, hqq⟩)
        clear CZ TS hW9 HF BB TS9 e0 e1 e2 m0 m1 m2
        go_wp2_with fail
        have BM : Hid (Blk W9 mb 32 [.slice AM lM cM, .int .i64 last, .int .i64 mark]) := Lib.hid (LP.out.2.1.turn T9.out (fun h => (LP.out.2.2.1 _ h).2.1 rfl))
        have HBM : Hid (∀ X, Turn (fun k => k = mb) W9 X → X.cell? ⟨bx, 0, none⟩ = some (.slice A2 n2 c2) ∧ X.cell? ⟨bx, 1, none⟩ = some (.int .i64 la2) ∧ X.cell? ⟨bx, 2, none⟩ = some (.int .i64 mk2)) := Lib.hid (fun X hX => by
          have b := B9.out.turn hX (fun e => by have := HBXS.out; omega)
          exact ⟨b.cell 0, b.cell 1, b.cell 2⟩)
        have HEND := Lib.hid (ls_end LP.out ⟨_, _, _, rfl⟩ T9.out ST9.out F8.out)
        clear HSTEP HBX T8 F8 NB ST8
        have T0 : Hid (Turn (fun k => k = mb) W9 W9.drew) := Lib.hid (Turn.refl _ _).drew
        refine wp_region_noPanic ?_
        refine wp_region_held_drew (S := (fun X => Turn (fun k => k = mb) W9 X)) (by kernel_rfl) T0.out (fun hHeld => ?_)
        clear hHeld
        refine wpAnyH_take (i := 0) (v := ?_) rfl (by kernel_rfl) (by kernel_rfl) (by kernel_rfl) (fun _ _ _ h => h) (Or.inl ⟨by rfl, ?_⟩) (by assumption) ?_
        rotate_left 1
        · intro w' hSw
          go_simp
          all_goals first | with_reducible rfl | (rw [if_neg (by omega)]; done) | (rw [if_pos (by omega)]; done) | (rw [if_neg (by omega)]; with_reducible rfl) | (rw [if_pos (by omega)]; with_reducible rfl)
        try simp only [List.getElem_toArray, List.getElem_cons_zero, List.getElem_cons_succ, Act.put, List.setIfInBounds_toArray, List.set_cons_zero, List.set_cons_succ]
        refine wpAnyH_take (i := 1) (v := ?_) rfl (by kernel_rfl) (by kernel_rfl) (by kernel_rfl) (fun _ _ _ h => h) (Or.inl ⟨by rfl, ?_⟩) (by assumption) ?_
        rotate_left 1
        · intro w' hSw
          obtain ⟨y0, y1, y2⟩ := HBM.out _ hSw
          go_simp
          all_goals first | with_reducible rfl | (rw [if_neg (by omega)]; done) | (rw [if_pos (by omega)]; done) | (rw [if_neg (by omega)]; with_reducible rfl) | (rw [if_pos (by omega)]; with_reducible rfl)
        try simp only [List.getElem_toArray, List.getElem_cons_zero, List.getElem_cons_succ, Act.put, List.setIfInBounds_toArray, List.set_cons_zero, List.set_cons_succ]
        refine wpAnyH_take (i := 2) (v := ?_) rfl (by kernel_rfl) (by kernel_rfl) (by kernel_rfl) (fun _ _ _ h => h) (Or.inl ⟨by rfl, ?_⟩) (by assumption) ?_
        rotate_left 1
        · intro w' hSw
          go_simp
          all_goals first | with_reducible rfl | (rw [if_neg (by omega)]; done) | (rw [if_pos (by omega)]; done) | (rw [if_neg (by omega)]; with_reducible rfl) | (rw [if_pos (by omega)]; with_reducible rfl)
        try simp only [List.getElem_toArray, List.getElem_cons_zero, List.getElem_cons_succ, Act.put, List.setIfInBounds_toArray, List.set_cons_zero, List.set_cons_succ]
        refine wpAnyH_ready (rs := [3]) (by kernel_rfl) (by simp) ?_
        refine AllReadyH.cons rfl (fun K hK => ?_) AllReadyH.nil
        obtain ⟨r0, r1, r2, r3, r4, r5⟩ := cells3 BM.out
        have HG := Lib.hid (box3 BM.out (.slice A2 n2 c2) (.int .i64 la2) (.int .i64 mk2))
        go_simp
        have TG : Hid (Turn (fun k => k = mb) W9 _) := Lib.hid (HG.out.2.1).drew
        refine hK.out _ _ TG.out (fun hHeld => ?_)
        clear hHeld hK K
        try simp only [List.getElem_toArray, List.getElem_cons_zero, List.getElem_cons_succ, Act.put, List.setIfInBounds_toArray, List.set_cons_zero, List.set_cons_succ]
        refine wpAnyH_done (by kernel_rfl) ?_ _
        refine NoPanic.normal ?_
        go_wp2_with fail
        go_roundw
        case rel => exact ⟨i + 1, q2, vk2, g2, la2, mk2, A2, n2, c2, by omega, rfl, by simp [hq], (HEND.out _ TG.out HG.out.1)⟩
        case measure => simp [intOf, hq]; omega
    · obtain rfl : i = n1 := by omega
      obtain ⟨M, Md, hst, _⟩ := LP.out.1
      have BM := hst.bm.le (K := 100000) (by have := cn14_le ls i; have := CN1.out.1; omega)
      have hrg := hst.rng
      by_cases hk0 : kept14 last mark t = 0
      · obtain ⟨PL, hPL⟩ : ∃ x, scl M fa fb t (-1) = x := ⟨_, rfl⟩
        obtain ⟨I0, hI0⟩ : ∃ x, M.map (fun p : Itm × Value => p.1) = x := ⟨_, rfl⟩
        obtain ⟨gv, hgv⟩ : ∃ z, (get14 M last mark fa t).1 = z := ⟨_, rfl⟩
        obtain ⟨gf, hgf⟩ : ∃ z, (get14 M last mark fa t).2 = z := ⟨_, rfl⟩
        have hmt : mark ≤ t ∧ t ≤ last := by
          unfold kept14 at hk0
          by_cases h1 : t < mark
          · rw [if_pos h1] at hk0; omega
          · rw [if_neg h1] at hk0
            by_cases h2 : last < t
            · rw [if_pos h2] at hk0; omega
            · omega
        have hgf2 : gf = 0 ∨ gf = 7 := by
          rw [← hgf]; unfold get14; rw [if_pos hk0]; split
          · exact .inl rfl
          · exact .inr rfl
        have HSC := Lib.hid (scan_f14 fa fb t (-1) hst.sp BM ha hb)
        rw [hk0, if_pos rfl, hPL] at HSC
        have HGT := Lib.hid (fun X (hX : Turn (fun _ => False) wx X) => get_14 fa t (hst.sp.still hX) (fun p hp => (BM.2 p hp).1) (by unfold maxLen; omega))
        rw [hgv, hgf] at HGT
        have HST := Lib.hid hst
        have HI0 := Lib.hid hI0
        have HPL := Lib.hid hPL
        have HGV : Hid (∀ J : List Itm, Sm14 J I0 t → ∀ (Mx : List (Itm × Value)) (l' m' : Int), Mx.map (fun p : Itm × Value => p.1) = J → m' ≤ t → t ≤ l' → (get14 Mx l' m' fa t).1 = gv ∧ (get14 Mx l' m' fa t).2 = gf ∧ kept14 l' m' t = 0 ∧ scl Mx fa fb t (-1) = PL) := Lib.hid (fun J hJ Mx l' m' hM h1 h2 => by
          have hk' : kept14 l' m' t = 0 := by unfold kept14; rw [if_neg (by omega), if_neg (by omega)]
          have he : at13 (fndk Mx fa) t = at13 (fndk M fa) t := by
            rw [fndk_map, fndk_map]
            have := hJ.2 fa
            rw [← hM, ← hI0] at this
            exact this
          refine ⟨?_, ?_, hk', ?_⟩
          · rw [← hgv]; unfold get14; rw [if_pos hk', if_pos hk0, he]
          · rw [← hgf]; unfold get14; rw [if_pos hk', if_pos hk0, he]
          · rw [← hPL, scl_row, scl_row, hM, hI0, hJ.1])
        clear hst BM hrg hk0 hPL hI0 hgv hgf
        rcases hgf2 with rfl | rfl
        all_goals
          go_wp2_with (first
            | (go_at_call 22; refine HSC.out.mono ?_; rintro e w2 ⟨A3, n3, c3, rfl, hp3, ht3⟩; have P3 := Lib.hid hp3; have T3 := Lib.hid ht3; clear hp3 ht3)
            | (go_at_call 23; refine (HGT.out _ T3.out).mono ?_; rintro e w4 ⟨rfl, ht4⟩; have T4 := Lib.hid ht4; clear ht4))
          have L2 : Hid (Ls14 wb mb (fun k => vb (.slice A3 n3 c3) = some k) (cn14 ls + cn14 (ms.take 0)) (Q2 I0 t) q vk g last mark (.slice AM lM cM) w4) := Lib.hid (Ls14.le (N := cn14 (ls.take i)) (by
            have t34 := T3.out.trans T4.out
            refine ⟨⟨M, Md, HST.out.still t34, hmt.1, hmt.2, HI0.out ▸ Sm14.refl _ _⟩, LP.out.2.1.turn t34 (fun h => h), fun k hk => ⟨(LP.out.2.2.1 k hk).1, (LP.out.2.2.1 k hk).2.1, fun hb => ?_⟩, LP.out.2.2.2.1, fun k hk => Nat.lt_of_lt_of_le (P3.out.2 k hk).2 T4.out.size, h6.trans t34⟩
            have := hsw1 k hk
            have := (P3.out.2 k hb).1
            omega) (by have := cn14_le ls i; omega))
          have P4 : Hid (Px w4 (.slice A3 n3 c3) PL) := Lib.hid (P3.out.1.still T4.out)
          clear HSC HGT HST T3 T4 P3 LP hmt h6 hsw1 hmbs
          go_loopw [11, 21, 22, 23, 24] (fun v11 v21 _ _ _ wr => ∃ (j q : Nat) (vk : Value) (g : Nat) (last mark : Int) (AM : Option Addr) (lM cM : Nat), j ≤ n2' ∧ v11 = .pointer (some ⟨q, 0, none⟩) ∧ v21 = .int .i64 j ∧ Ls14 wb mb (fun k => vb (.slice A3 n3 c3) = some k) (cn14 ls + cn14 (ms.take j)) (Q2 I0 t) q vk g last mark (.slice AM lM cM) wr ∧ Hid (Px wr (.slice A3 n3 c3) PL)) (fun _ v21 _ _ _ _ => n2' - (intOf v21).toNat)
          case atStart => exact ⟨0, q, vk, g, last, mark, AM, lM, cM, Nat.zero_le _, rfl, rfl, L2.out, P4⟩
          case round =>
            clear L2 P4
            obtain ⟨j, q, vk, g, last, mark, AM, lM, cM, hj, rfl, rfl, hlp, HPX⟩ := hrel
            obtain ⟨wx, rfl⟩ : ∃ W, W = wr := ⟨_, rfl⟩
            have LP := Lib.hid hlp
            obtain ⟨_, m0, m1, m2⟩ := ls_cells hlp wx (Turn.refl _ _)
            have hmbs : mb < wx.heap.size := hlp.2.1.lt
            obtain ⟨M, Md, hst, hmt, htl, hsm⟩ := hlp.1
            have hsw1 : ∀ k, Sw q vk g k → k < wx.heap.size := hst.sp.below
            have h6 := hlp.2.2.2.2.2
            have hrg := hst.rng
            have BM := hst.bm.le (K := 100000) (by have := cn14_le ms j; have := CN1.out.1; have := CN2.out.1; omega)
            clear hlp
            by_cases hlt : j < n2'
            · have hl1 : (j : Int) < (n2' : Int) := by omega
              have hl0 : (0 : Int) ≤ (j : Int) := by omega
              have hq := wrap_of ((j : Int) + 1) (by omega) (by omega)
              have HMK := Lib.hid (fun X (hX : Turn (fun _ => False) wx X) => mark14 (hst.sp.still hX))
              obtain ⟨a, hx⟩ : ∃ x, ms[j]? = some x := ⟨_, List.getElem?_eq_getElem (by rw [HNL2.out]; exact hlt)⟩
              have HX := Lib.hid hx
              obtain ⟨b, o, rfl, hcc⟩ := HROW2.out j a hx
              obtain ⟨⟨e0, e1, e2⟩, _⟩ := hcc wx h6
              have HCC := Lib.hid hcc
              have HFW := Lib.hid (CN2.out.2 a (List.mem_of_getElem? hx))
              obtain ⟨ak, ta, av, aL⟩ := a
              obtain ⟨ln, hln⟩ : ∃ k, aL.length = k := ⟨_, rfl⟩
              simp only at e0 e1 e2 HCC
              obtain ⟨LA, lc, e9, _⟩ := (HCC.out wx h6).2
              rw [hln] at e9
              subst e9
              have HNX : Hid (cn14 ls + cn14 (ms.take (j + 1)) = cn14 ls + cn14 (ms.take j) + 1 + ln ∧ cn14 (ms.take (j + 1)) ≤ 200 ∧ cn14 ls ≤ 200) := Lib.hid ⟨by have e := cn14_next HX.out; simp only at e; omega, Nat.le_trans (cn14_le _ _) CN2.out.1, CN1.out.1⟩
              have hft : -100 ≤ ta ∧ ta ≤ 1099511627776 := HFW.out
              have hqa := wrap_of (mark + ta) (by omega) (by omega)
              have HRB : Hid (∀ X, Turn (fun _ => False) wx X → X.cell? ⟨b, o + j * 3, none⟩ = some (.int .i64 ak) ∧ X.cell? ⟨b, o + j * 3 + 1, none⟩ = some (.int .i64 ta)) := Lib.hid (fun X hX => by
                obtain ⟨⟨d3, d4, d5⟩, _⟩ := HCC.out X (h6.trans hX)
                exact ⟨d3, d4⟩)
              have HMKq : Hid (∀ X, Turn (fun _ => False) wx X → Calls Try.prog 24 #[.pointer (some ⟨q, 0, none⟩)] X fun e w9 => ∃ v, e = .returned v ∧ v = .int .i64 mark ∧ w9 = X) := Lib.hid (fun X hX => (HMK.out X hX).mono fun e w9 ⟨h1, h2⟩ => ⟨_, h1, rfl, h2⟩)
              clear hx hcc hrg hst hmt htl hsm BM hft h6 HMK hmbs hsw1 m0 m1 m2
              have T0 : Hid (Turn (fun _ => False) wx wx.drew) := Lib.hid (Turn.refl _ _).drew
              by_cases hk1 : ak = 1
              · subst hk1
                by_cases hgt : t < mark + ta
                · go_wp2_with fail
                  refine wp_region_noPanic ?_
                  refine wp_region_held_drew (S := (fun X => Turn (fun _ => False) wx X)) (by kernel_rfl) T0.out (fun hHeld => ?_)
                  clear hHeld
                  refine wpAnyH_take (i := 0) (v := ?_) rfl (by kernel_rfl) (by kernel_rfl) (by kernel_rfl) (fun _ _ _ h => h) (Or.inl ⟨by rfl, ?_⟩) (by assumption) ?_
                  rotate_left 1
                  · intro w' hSw
                    go_simp
                    all_goals first | with_reducible rfl | (rw [if_neg (by omega)]; done) | (rw [if_pos (by omega)]; done) | (rw [if_neg (by omega)]; with_reducible rfl) | (rw [if_pos (by omega)]; with_reducible rfl)
                  try simp only [List.getElem_toArray, List.getElem_cons_zero, List.getElem_cons_succ, Act.put, List.setIfInBounds_toArray, List.set_cons_zero, List.set_cons_succ]
                  refine wpAnyH_take (i := 1) (v := ?_) rfl (by kernel_rfl) (by kernel_rfl) (by kernel_rfl) (fun _ _ _ h => h) (Or.inl ⟨by rfl, ?_⟩) (by assumption) ?_
                  rotate_left 1
                  · intro w' hSw
                    go_simp
                    all_goals first | with_reducible rfl | (rw [if_neg (by omega)]; done) | (rw [if_pos (by omega)]; done) | (rw [if_neg (by omega)]; with_reducible rfl) | (rw [if_pos (by omega)]; with_reducible rfl)
                  try simp only [List.getElem_toArray, List.getElem_cons_zero, List.getElem_cons_succ, Act.put, List.setIfInBounds_toArray, List.set_cons_zero, List.set_cons_succ]
                  refine wpAnyH_take (i := 2) (v := ?_) rfl (by kernel_rfl) (by kernel_rfl) (by kernel_rfl) (fun _ _ _ h => h) (Or.inl ⟨by rfl, ?_⟩) (by assumption) ?_
                  rotate_left 1
                  · intro w' hSw
                    go_simp
                    all_goals first | with_reducible rfl | (rw [if_neg (by omega)]; done) | (rw [if_pos (by omega)]; done) | (rw [if_neg (by omega)]; with_reducible rfl) | (rw [if_pos (by omega)]; with_reducible rfl)
                  try simp only [List.getElem_toArray, List.getElem_cons_zero, List.getElem_cons_succ, Act.put, List.setIfInBounds_toArray, List.set_cons_zero, List.set_cons_succ]
                  refine wpAnyH_take (i := 3) (v := ?_) rfl (by kernel_rfl) (by kernel_rfl) (by kernel_rfl) (fun _ _ _ h => h) (Or.inl ⟨by rfl, ?_⟩) (by assumption) ?_
                  rotate_left 1
                  · intro w' hSw
                    go_simp
                    all_goals first | with_reducible rfl | (rw [if_neg (by omega)]; done) | (rw [if_pos (by omega)]; done) | (rw [if_neg (by omega)]; with_reducible rfl) | (rw [if_pos (by omega)]; with_reducible rfl)
                  try simp only [List.getElem_toArray, List.getElem_cons_zero, List.getElem_cons_succ, Act.put, List.setIfInBounds_toArray, List.set_cons_zero, List.set_cons_succ]
                  refine wpAnyH_take (i := 4) (v := ?_) rfl (by kernel_rfl) (by kernel_rfl) (by kernel_rfl) (fun _ _ _ h => h) (Or.inl ⟨by rfl, ?_⟩) (by assumption) ?_
                  rotate_left 1
                  · intro w' hSw
                    obtain ⟨y0, y1⟩ := HRB.out _ hSw
                    go_simp
                    all_goals first | with_reducible rfl | (rw [if_neg (by omega)]; done) | (rw [if_pos (by omega)]; done) | (rw [if_neg (by omega)]; with_reducible rfl) | (rw [if_pos (by omega)]; with_reducible rfl)
                  try simp only [List.getElem_toArray, List.getElem_cons_zero, List.getElem_cons_succ, Act.put, List.setIfInBounds_toArray, List.set_cons_zero, List.set_cons_succ]
                  refine wpAnyH_take (i := 5) (v := ?_) rfl (by kernel_rfl) (by kernel_rfl) (by kernel_rfl) (fun _ _ _ h => h) (Or.inl ⟨by rfl, ?_⟩) (by assumption) ?_
                  rotate_left 1
                  · intro w' hSw
                    go_simp
                    all_goals first | with_reducible rfl | (rw [if_neg (by omega)]; done) | (rw [if_pos (by omega)]; done) | (rw [if_neg (by omega)]; with_reducible rfl) | (rw [if_pos (by omega)]; with_reducible rfl)
                  try simp only [List.getElem_toArray, List.getElem_cons_zero, List.getElem_cons_succ, Act.put, List.setIfInBounds_toArray, List.set_cons_zero, List.set_cons_succ]
                  refine wpAnyH_take (i := 6) (v := ?_) rfl (by kernel_rfl) (by kernel_rfl) (by kernel_rfl) (fun _ _ _ h => h) (Or.inl ⟨by rfl, ?_⟩) (by assumption) ?_
                  rotate_left 1
                  · intro w' hSw
                    go_simp
                    all_goals first | with_reducible rfl | (rw [if_neg (by omega)]; done) | (rw [if_pos (by omega)]; done) | (rw [if_neg (by omega)]; with_reducible rfl) | (rw [if_pos (by omega)]; with_reducible rfl)
                  try simp only [List.getElem_toArray, List.getElem_cons_zero, List.getElem_cons_succ, Act.put, List.setIfInBounds_toArray, List.set_cons_zero, List.set_cons_succ]
                  refine wpAnyH_take (i := 7) (v := ?_) rfl (by kernel_rfl) (by kernel_rfl) (by kernel_rfl) (fun _ _ _ h => h) (Or.inl ⟨by rfl, ?_⟩) (by assumption) ?_
                  rotate_left 1
                  · intro w' hSw
                    go_simp
                    all_goals first | with_reducible rfl | (rw [if_neg (by omega)]; done) | (rw [if_pos (by omega)]; done) | (rw [if_neg (by omega)]; with_reducible rfl) | (rw [if_pos (by omega)]; with_reducible rfl)
                  try simp only [List.getElem_toArray, List.getElem_cons_zero, List.getElem_cons_succ, Act.put, List.setIfInBounds_toArray, List.set_cons_zero, List.set_cons_succ]
                  refine wpAnyH_take (i := 9) (v := ?_) rfl (by kernel_rfl) (by kernel_rfl) (by kernel_rfl) (fun _ _ _ h => h) (Or.inl ⟨by rfl, ?_⟩) (by assumption) ?_
                  rotate_left 1
                  · intro w' hSw
                    go_simp
                    all_goals first | with_reducible rfl | (rw [if_neg (by omega)]; done) | (rw [if_pos (by omega)]; done) | (rw [if_neg (by omega)]; with_reducible rfl) | (rw [if_pos (by omega)]; with_reducible rfl)
                  try simp only [List.getElem_toArray, List.getElem_cons_zero, List.getElem_cons_succ, Act.put, List.setIfInBounds_toArray, List.set_cons_zero, List.set_cons_succ]
                  refine wpAnyH_take (i := 10) (v := ?_) rfl (by kernel_rfl) (by kernel_rfl) (by kernel_rfl) (fun _ _ _ h => h) (Or.inl ⟨by rfl, ?_⟩) (by assumption) ?_
                  rotate_left 1
                  · intro w' hSw
                    go_simp
                    all_goals first | with_reducible rfl | (rw [if_neg (by omega)]; done) | (rw [if_pos (by omega)]; done) | (rw [if_neg (by omega)]; with_reducible rfl) | (rw [if_pos (by omega)]; with_reducible rfl)
                  try simp only [List.getElem_toArray, List.getElem_cons_zero, List.getElem_cons_succ, Act.put, List.setIfInBounds_toArray, List.set_cons_zero, List.set_cons_succ]
                  refine wpAnyH_take (i := 11) (v := ?_) rfl (by kernel_rfl) (by kernel_rfl) (by kernel_rfl) (fun _ _ _ h => h) (Or.inl ⟨by rfl, ?_⟩) (by assumption) ?_
                  rotate_left 1
                  · intro w' hSw
                    go_simp
                    all_goals first | with_reducible rfl | (rw [if_neg (by omega)]; done) | (rw [if_pos (by omega)]; done) | (rw [if_neg (by omega)]; with_reducible rfl) | (rw [if_pos (by omega)]; with_reducible rfl)
                  try simp only [List.getElem_toArray, List.getElem_cons_zero, List.getElem_cons_succ, Act.put, List.setIfInBounds_toArray, List.set_cons_zero, List.set_cons_succ]
                  refine wpAnyH_take (i := 12) (v := ?_) rfl (by kernel_rfl) (by kernel_rfl) (by kernel_rfl) (fun _ _ _ h => h) (Or.inl ⟨by rfl, ?_⟩) (by assumption) ?_
                  rotate_left 1
                  · intro w' hSw
                    go_simp
                    all_goals first | with_reducible rfl | (rw [if_neg (by omega)]; done) | (rw [if_pos (by omega)]; done) | (rw [if_neg (by omega)]; with_reducible rfl) | (rw [if_pos (by omega)]; with_reducible rfl)
                  try simp only [List.getElem_toArray, List.getElem_cons_zero, List.getElem_cons_succ, Act.put, List.setIfInBounds_toArray, List.set_cons_zero, List.set_cons_succ]
                  refine wpAnyH_take (i := 13) (v := ?_) rfl (by kernel_rfl) (by kernel_rfl) (by kernel_rfl) (fun _ _ _ h => h) (Or.inl ⟨by rfl, ?_⟩) (by assumption) ?_
                  rotate_left 1
                  · intro w' hSw
                    obtain ⟨y0, y1⟩ := HRB.out _ hSw
                    go_simp
                    all_goals first | with_reducible rfl | (rw [if_neg (by omega)]; done) | (rw [if_pos (by omega)]; done) | (rw [if_neg (by omega)]; with_reducible rfl) | (rw [if_pos (by omega)]; with_reducible rfl)
                  try simp only [List.getElem_toArray, List.getElem_cons_zero, List.getElem_cons_succ, Act.put, List.setIfInBounds_toArray, List.set_cons_zero, List.set_cons_succ]
                  refine wpAnyH_take (i := 15) (v := ?_) rfl (by kernel_rfl) (by kernel_rfl) (by kernel_rfl) (fun _ _ _ h => h) (Or.inl ⟨by rfl, ?_⟩) (by assumption) ?_
                  rotate_left 1
                  · intro w' hSw
                    go_simp
                    all_goals first | with_reducible rfl | (rw [if_neg (by omega)]; done) | (rw [if_pos (by omega)]; done) | (rw [if_neg (by omega)]; with_reducible rfl) | (rw [if_pos (by omega)]; with_reducible rfl)
                  try simp only [List.getElem_toArray, List.getElem_cons_zero, List.getElem_cons_succ, Act.put, List.setIfInBounds_toArray, List.set_cons_zero, List.set_cons_succ]
                  refine wpAnyH_ready (rs := [8]) (by kernel_rfl) (by simp) ?_
                  refine AllReadyH.cons rfl (fun K hK => ?_) AllReadyH.nil
                  refine step_call_on 24 Try.f24 _ _ rfl Try.func24 (by kernel_rfl) (by kernel_rfl) _ _ (HMKq.out _ T0.out) (by go_simp) (by first | rfl | go_simp) ?_
                  rintro v8 w8 ⟨rfl, rfl⟩
                  refine hK.out _ _ T0.out (fun hHeld => ?_)
                  clear hHeld hK K
                  try simp only [List.getElem_toArray, List.getElem_cons_zero, List.getElem_cons_succ, Act.put, List.setIfInBounds_toArray, List.set_cons_zero, List.set_cons_succ]
                  refine wpAnyH_take (i := 14) (v := ?_) rfl (by kernel_rfl) (by kernel_rfl) (by kernel_rfl) (fun _ _ _ h => h) (Or.inl ⟨by rfl, ?_⟩) (by assumption) ?_
                  rotate_left 1
                  · intro w' hSw
                    go_simp
                    all_goals first | with_reducible rfl | (rw [if_neg (by omega)]; done) | (rw [if_pos (by omega)]; done) | (rw [if_neg (by omega)]; with_reducible rfl) | (rw [if_pos (by omega)]; with_reducible rfl)
                  try simp only [List.getElem_toArray, List.getElem_cons_zero, List.getElem_cons_succ, Act.put, List.setIfInBounds_toArray, List.set_cons_zero, List.set_cons_succ]
                  refine wpAnyH_take (i := 16) (v := ?_) rfl (by kernel_rfl) (by kernel_rfl) (by kernel_rfl) (fun _ _ _ h => h) (Or.inl ⟨by rfl, ?_⟩) (by assumption) ?_
                  rotate_left 1
                  · intro w' hSw
                    go_simp
                    all_goals first | with_reducible rfl | (rw [if_neg (by omega)]; done) | (rw [if_pos (by omega)]; done) | (rw [if_neg (by omega)]; with_reducible rfl) | (rw [if_pos (by omega)]; with_reducible rfl)
                  try simp only [List.getElem_toArray, List.getElem_cons_zero, List.getElem_cons_succ, Act.put, List.setIfInBounds_toArray, List.set_cons_zero, List.set_cons_succ]
                  refine wpAnyH_take (i := 17) (v := ?_) rfl (by kernel_rfl) (by kernel_rfl) (by kernel_rfl) (fun _ _ _ h => h) (Or.inl ⟨by rfl, ?_⟩) (by assumption) ?_
                  rotate_left 1
                  · intro w' hSw
                    go_simp
                    all_goals first | with_reducible rfl | (rw [if_neg (by omega)]; done) | (rw [if_pos (by omega)]; done) | (rw [if_neg (by omega)]; with_reducible rfl) | (rw [if_pos (by omega)]; with_reducible rfl)
                  try simp only [List.getElem_toArray, List.getElem_cons_zero, List.getElem_cons_succ, Act.put, List.setIfInBounds_toArray, List.set_cons_zero, List.set_cons_succ]
                  refine wpAnyH_done (by kernel_rfl) ?_ _
                  refine NoPanic.normal ?_
                  go_wp2_with fail
                  go_roundw
                  case rel => exact ⟨j + 1, q, vk, g, last, mark, AM, lM, cM, by omega, rfl, by simp [hq], (LP.out.still T0.out).le (by have := HNX.out; omega), Lib.hid (HPX.out.still T0.out)⟩
                  case measure => simp [intOf, hq]; omega
                · go_wp2_with fail
                  refine wp_region_noPanic ?_
                  refine wp_region_held_drew (S := (fun X => Turn (fun _ => False) wx X)) (by kernel_rfl) T0.out (fun hHeld => ?_)
                  clear hHeld
                  refine wpAnyH_take (i := 0) (v := ?_) rfl (by kernel_rfl) (by kernel_rfl) (by kernel_rfl) (fun _ _ _ h => h) (Or.inl ⟨by rfl, ?_⟩) (by assumption) ?_
                  rotate_left 1
                  · intro w' hSw
                    go_simp
                    all_goals first | with_reducible rfl | (rw [if_neg (by omega)]; done) | (rw [if_pos (by omega)]; done) | (rw [if_neg (by omega)]; with_reducible rfl) | (rw [if_pos (by omega)]; with_reducible rfl)
                  try simp only [List.getElem_toArray, List.getElem_cons_zero, List.getElem_cons_succ, Act.put, List.setIfInBounds_toArray, List.set_cons_zero, List.set_cons_succ]
                  refine wpAnyH_take (i := 1) (v := ?_) rfl (by kernel_rfl) (by kernel_rfl) (by kernel_rfl) (fun _ _ _ h => h) (Or.inl ⟨by rfl, ?_⟩) (by assumption) ?_
                  rotate_left 1
                  · intro w' hSw
                    go_simp
                    all_goals first | with_reducible rfl | (rw [if_neg (by omega)]; done) | (rw [if_pos (by omega)]; done) | (rw [if_neg (by omega)]; with_reducible rfl) | (rw [if_pos (by omega)]; with_reducible rfl)
                  try simp only [List.getElem_toArray, List.getElem_cons_zero, List.getElem_cons_succ, Act.put, List.setIfInBounds_toArray, List.set_cons_zero, List.set_cons_succ]
                  refine wpAnyH_take (i := 2) (v := ?_) rfl (by kernel_rfl) (by kernel_rfl) (by kernel_rfl) (fun _ _ _ h => h) (Or.inl ⟨by rfl, ?_⟩) (by assumption) ?_
                  rotate_left 1
                  · intro w' hSw
                    go_simp
                    all_goals first | with_reducible rfl | (rw [if_neg (by omega)]; done) | (rw [if_pos (by omega)]; done) | (rw [if_neg (by omega)]; with_reducible rfl) | (rw [if_pos (by omega)]; with_reducible rfl)
                  try simp only [List.getElem_toArray, List.getElem_cons_zero, List.getElem_cons_succ, Act.put, List.setIfInBounds_toArray, List.set_cons_zero, List.set_cons_succ]
                  refine wpAnyH_take (i := 3) (v := ?_) rfl (by kernel_rfl) (by kernel_rfl) (by kernel_rfl) (fun _ _ _ h => h) (Or.inl ⟨by rfl, ?_⟩) (by assumption) ?_
                  rotate_left 1
                  · intro w' hSw
                    go_simp
                    all_goals first | with_reducible rfl | (rw [if_neg (by omega)]; done) | (rw [if_pos (by omega)]; done) | (rw [if_neg (by omega)]; with_reducible rfl) | (rw [if_pos (by omega)]; with_reducible rfl)
                  try simp only [List.getElem_toArray, List.getElem_cons_zero, List.getElem_cons_succ, Act.put, List.setIfInBounds_toArray, List.set_cons_zero, List.set_cons_succ]
                  refine wpAnyH_take (i := 4) (v := ?_) rfl (by kernel_rfl) (by kernel_rfl) (by kernel_rfl) (fun _ _ _ h => h) (Or.inl ⟨by rfl, ?_⟩) (by assumption) ?_
                  rotate_left 1
                  · intro w' hSw
                    obtain ⟨y0, y1⟩ := HRB.out _ hSw
                    go_simp
                    all_goals first | with_reducible rfl | (rw [if_neg (by omega)]; done) | (rw [if_pos (by omega)]; done) | (rw [if_neg (by omega)]; with_reducible rfl) | (rw [if_pos (by omega)]; with_reducible rfl)
                  try simp only [List.getElem_toArray, List.getElem_cons_zero, List.getElem_cons_succ, Act.put, List.setIfInBounds_toArray, List.set_cons_zero, List.set_cons_succ]
                  refine wpAnyH_take (i := 5) (v := ?_) rfl (by kernel_rfl) (by kernel_rfl) (by kernel_rfl) (fun _ _ _ h => h) (Or.inl ⟨by rfl, ?_⟩) (by assumption) ?_
                  rotate_left 1
                  · intro w' hSw
                    go_simp
                    all_goals first | with_reducible rfl | (rw [if_neg (by omega)]; done) | (rw [if_pos (by omega)]; done) | (rw [if_neg (by omega)]; with_reducible rfl) | (rw [if_pos (by omega)]; with_reducible rfl)
                  try simp only [List.getElem_toArray, List.getElem_cons_zero, List.getElem_cons_succ, Act.put, List.setIfInBounds_toArray, List.set_cons_zero, List.set_cons_succ]
                  refine wpAnyH_take (i := 6) (v := ?_) rfl (by kernel_rfl) (by kernel_rfl) (by kernel_rfl) (fun _ _ _ h => h) (Or.inl ⟨by rfl, ?_⟩) (by assumption) ?_
                  rotate_left 1
                  · intro w' hSw
                    go_simp
                    all_goals first | with_reducible rfl | (rw [if_neg (by omega)]; done) | (rw [if_pos (by omega)]; done) | (rw [if_neg (by omega)]; with_reducible rfl) | (rw [if_pos (by omega)]; with_reducible rfl)
                  try simp only [List.getElem_toArray, List.getElem_cons_zero, List.getElem_cons_succ, Act.put, List.setIfInBounds_toArray, List.set_cons_zero, List.set_cons_succ]
                  refine wpAnyH_take (i := 7) (v := ?_) rfl (by kernel_rfl) (by kernel_rfl) (by kernel_rfl) (fun _ _ _ h => h) (Or.inl ⟨by rfl, ?_⟩) (by assumption) ?_
                  rotate_left 1
                  · intro w' hSw
                    go_simp
                    all_goals first | with_reducible rfl | (rw [if_neg (by omega)]; done) | (rw [if_pos (by omega)]; done) | (rw [if_neg (by omega)]; with_reducible rfl) | (rw [if_pos (by omega)]; with_reducible rfl)
                  try simp only [List.getElem_toArray, List.getElem_cons_zero, List.getElem_cons_succ, Act.put, List.setIfInBounds_toArray, List.set_cons_zero, List.set_cons_succ]
                  refine wpAnyH_take (i := 9) (v := ?_) rfl (by kernel_rfl) (by kernel_rfl) (by kernel_rfl) (fun _ _ _ h => h) (Or.inl ⟨by rfl, ?_⟩) (by assumption) ?_
                  rotate_left 1
                  · intro w' hSw
                    go_simp
                    all_goals first | with_reducible rfl | (rw [if_neg (by omega)]; done) | (rw [if_pos (by omega)]; done) | (rw [if_neg (by omega)]; with_reducible rfl) | (rw [if_pos (by omega)]; with_reducible rfl)
                  try simp only [List.getElem_toArray, List.getElem_cons_zero, List.getElem_cons_succ, Act.put, List.setIfInBounds_toArray, List.set_cons_zero, List.set_cons_succ]
                  refine wpAnyH_take (i := 10) (v := ?_) rfl (by kernel_rfl) (by kernel_rfl) (by kernel_rfl) (fun _ _ _ h => h) (Or.inl ⟨by rfl, ?_⟩) (by assumption) ?_
                  rotate_left 1
                  · intro w' hSw
                    go_simp
                    all_goals first | with_reducible rfl | (rw [if_neg (by omega)]; done) | (rw [if_pos (by omega)]; done) | (rw [if_neg (by omega)]; with_reducible rfl) | (rw [if_pos (by omega)]; with_reducible rfl)
                  try simp only [List.getElem_toArray, List.getElem_cons_zero, List.getElem_cons_succ, Act.put, List.setIfInBounds_toArray, List.set_cons_zero, List.set_cons_succ]
                  refine wpAnyH_take (i := 11) (v := ?_) rfl (by kernel_rfl) (by kernel_rfl) (by kernel_rfl) (fun _ _ _ h => h) (Or.inl ⟨by rfl, ?_⟩) (by assumption) ?_
                  rotate_left 1
                  · intro w' hSw
                    go_simp
                    all_goals first | with_reducible rfl | (rw [if_neg (by omega)]; done) | (rw [if_pos (by omega)]; done) | (rw [if_neg (by omega)]; with_reducible rfl) | (rw [if_pos (by omega)]; with_reducible rfl)
                  try simp only [List.getElem_toArray, List.getElem_cons_zero, List.getElem_cons_succ, Act.put, List.setIfInBounds_toArray, List.set_cons_zero, List.set_cons_succ]
                  refine wpAnyH_take (i := 12) (v := ?_) rfl (by kernel_rfl) (by kernel_rfl) (by kernel_rfl) (fun _ _ _ h => h) (Or.inl ⟨by rfl, ?_⟩) (by assumption) ?_
                  rotate_left 1
                  · intro w' hSw
                    go_simp
                    all_goals first | with_reducible rfl | (rw [if_neg (by omega)]; done) | (rw [if_pos (by omega)]; done) | (rw [if_neg (by omega)]; with_reducible rfl) | (rw [if_pos (by omega)]; with_reducible rfl)
                  try simp only [List.getElem_toArray, List.getElem_cons_zero, List.getElem_cons_succ, Act.put, List.setIfInBounds_toArray, List.set_cons_zero, List.set_cons_succ]
                  refine wpAnyH_take (i := 13) (v := ?_) rfl (by kernel_rfl) (by kernel_rfl) (by kernel_rfl) (fun _ _ _ h => h) (Or.inl ⟨by rfl, ?_⟩) (by assumption) ?_
                  rotate_left 1
                  · intro w' hSw
                    obtain ⟨y0, y1⟩ := HRB.out _ hSw
                    go_simp
                    all_goals first | with_reducible rfl | (rw [if_neg (by omega)]; done) | (rw [if_pos (by omega)]; done) | (rw [if_neg (by omega)]; with_reducible rfl) | (rw [if_pos (by omega)]; with_reducible rfl)
                  try simp only [List.getElem_toArray, List.getElem_cons_zero, List.getElem_cons_succ, Act.put, List.setIfInBounds_toArray, List.set_cons_zero, List.set_cons_succ]
                  refine wpAnyH_take (i := 15) (v := ?_) rfl (by kernel_rfl) (by kernel_rfl) (by kernel_rfl) (fun _ _ _ h => h) (Or.inl ⟨by rfl, ?_⟩) (by assumption) ?_
                  rotate_left 1
                  · intro w' hSw
                    go_simp
                    all_goals first | with_reducible rfl | (rw [if_neg (by omega)]; done) | (rw [if_pos (by omega)]; done) | (rw [if_neg (by omega)]; with_reducible rfl) | (rw [if_pos (by omega)]; with_reducible rfl)
                  try simp only [List.getElem_toArray, List.getElem_cons_zero, List.getElem_cons_succ, Act.put, List.setIfInBounds_toArray, List.set_cons_zero, List.set_cons_succ]
                  refine wpAnyH_ready (rs := [8]) (by kernel_rfl) (by simp) ?_
                  refine AllReadyH.cons rfl (fun K hK => ?_) AllReadyH.nil
                  refine step_call_on 24 Try.f24 _ _ rfl Try.func24 (by kernel_rfl) (by kernel_rfl) _ _ (HMKq.out _ T0.out) (by go_simp) (by first | rfl | go_simp) ?_
                  rintro v8 w8 ⟨rfl, rfl⟩
                  refine hK.out _ _ T0.out (fun hHeld => ?_)
                  clear hHeld hK K
                  try simp only [List.getElem_toArray, List.getElem_cons_zero, List.getElem_cons_succ, Act.put, List.setIfInBounds_toArray, List.set_cons_zero, List.set_cons_succ]
                  refine wpAnyH_take (i := 14) (v := ?_) rfl (by kernel_rfl) (by kernel_rfl) (by kernel_rfl) (fun _ _ _ h => h) (Or.inl ⟨by rfl, ?_⟩) (by assumption) ?_
                  rotate_left 1
                  · intro w' hSw
                    go_simp
                    all_goals first | with_reducible rfl | (rw [if_neg (by omega)]; done) | (rw [if_pos (by omega)]; done) | (rw [if_neg (by omega)]; with_reducible rfl) | (rw [if_pos (by omega)]; with_reducible rfl)
                  try simp only [List.getElem_toArray, List.getElem_cons_zero, List.getElem_cons_succ, Act.put, List.setIfInBounds_toArray, List.set_cons_zero, List.set_cons_succ]
                  refine wpAnyH_take (i := 16) (v := ?_) rfl (by kernel_rfl) (by kernel_rfl) (by kernel_rfl) (fun _ _ _ h => h) (Or.inl ⟨by rfl, ?_⟩) (by assumption) ?_
                  rotate_left 1
                  · intro w' hSw
                    go_simp
                    all_goals first | with_reducible rfl | (rw [if_neg (by omega)]; done) | (rw [if_pos (by omega)]; done) | (rw [if_neg (by omega)]; with_reducible rfl) | (rw [if_pos (by omega)]; with_reducible rfl)
                  try simp only [List.getElem_toArray, List.getElem_cons_zero, List.getElem_cons_succ, Act.put, List.setIfInBounds_toArray, List.set_cons_zero, List.set_cons_succ]
                  refine wpAnyH_take (i := 17) (v := ?_) rfl (by kernel_rfl) (by kernel_rfl) (by kernel_rfl) (fun _ _ _ h => h) (Or.inl ⟨by rfl, ?_⟩) (by assumption) ?_
                  rotate_left 1
                  · intro w' hSw
                    go_simp
                    all_goals first | with_reducible rfl | (rw [if_neg (by omega)]; done) | (rw [if_pos (by omega)]; done) | (rw [if_neg (by omega)]; with_reducible rfl) | (rw [if_pos (by omega)]; with_reducible rfl)
                  try simp only [List.getElem_toArray, List.getElem_cons_zero, List.getElem_cons_succ, Act.put, List.setIfInBounds_toArray, List.set_cons_zero, List.set_cons_succ]
                  refine wpAnyH_done (by kernel_rfl) ?_ _
                  refine NoPanic.normal ?_
                  obtain ⟨wy, hwy⟩ : ∃ W, wx.drew = W := ⟨_, rfl⟩
                  rw [hwy]
                  have TD : Turn (fun _ => False) wx wy := hwy ▸ T0.out
                  have LPy := Lib.hid (LP.out.still TD)
                  have HPXy : Hid (Px wy (.slice A3 n3 c3) PL) := Lib.hid (HPX.out.still TD)
                  clear TD T0 HRB HMKq LP HPX hwy
                  have LP := LPy
                  have HPX := HPXy
                  clear LPy HPXy
                  clear e0 e1 e2
                  obtain ⟨wx, rfl⟩ : ∃ W, W = wy := ⟨_, rfl⟩
                  obtain ⟨h6, m0, m1, m2⟩ := ls_cells LP.out wx (Turn.refl _ _)
                  have hmbs : mb < wx.heap.size := LP.out.2.1.lt
                  have hsw1 : ∀ k, Sw q vk g k → k < wx.heap.size := by obtain ⟨M, Md, hst, _⟩ := LP.out.1; exact hst.sp.below
                  obtain ⟨⟨e0, e1, e2⟩, _⟩ := HCC.out wx h6
                  have HSTEP0 := ls_step 1 ta aL LP.out (by have := HNX.out; omega) hln (by have := HNX.out; omega) HFW.out (fun X hX => (HCC.out X hX).2) (q2_keep (fun _ => by omega))
                  rw [← HNX.out.1] at HSTEP0
                  have HSTEP := Lib.hid HSTEP0
                  have HBX : Hid (∀ X, Turn (Sw q vk g) wx X → X.cell? ⟨mb, 0, none⟩ = some (.slice AM lM cM) ∧ X.cell? ⟨mb, 1, none⟩ = some (.int .i64 last) ∧ X.cell? ⟨mb, 2, none⟩ = some (.int .i64 mark) ∧ X.cell? ⟨b, o + j * 3, none⟩ = some (.int .i64 1) ∧ X.cell? ⟨b, o + j * 3 + 1, none⟩ = some (.int .i64 ta) ∧ X.cell? ⟨b, o + j * 3 + 2, none⟩ = some (.slice LA ln lc)) := Lib.hid (fun X hX => by
                    obtain ⟨h1, d0, d1, d2⟩ := ls_cells LP.out X hX
                    obtain ⟨⟨d3, d4, d5⟩, _⟩ := HCC.out X h1
                    exact ⟨d0, d1, d2, d3, d4, d5⟩)
                  clear HSTEP0 h6
                  go_wp2_with fail
                  have T0 : Hid (Turn (Sw q vk g) wx wx.drew) := Lib.hid (Turn.refl _ _).drew
                  refine wp_region_noPanic ?_
                  refine wp_region_held_drew (S := (fun X => Turn (Sw q vk g) wx X)) (by kernel_rfl) T0.out (fun hHeld => ?_)
                  clear hHeld
                  refine wpAnyH_take (i := 0) (v := ?_) rfl (by kernel_rfl) (by kernel_rfl) (by kernel_rfl) (fun _ _ _ h => h) (Or.inl ⟨by rfl, ?_⟩) (by assumption) ?_
                  rotate_left 1
                  · intro w' hSw
                    go_simp
                    all_goals first | with_reducible rfl | (rw [if_neg (by omega)]; done) | (rw [if_pos (by omega)]; done) | (rw [if_neg (by omega)]; with_reducible rfl) | (rw [if_pos (by omega)]; with_reducible rfl)
                  try simp only [List.getElem_toArray, List.getElem_cons_zero, List.getElem_cons_succ, Act.put, List.setIfInBounds_toArray, List.set_cons_zero, List.set_cons_succ]
                  refine wpAnyH_take (i := 1) (v := ?_) rfl (by kernel_rfl) (by kernel_rfl) (by kernel_rfl) (fun _ _ _ h => h) (Or.inl ⟨by rfl, ?_⟩) (by assumption) ?_
                  rotate_left 1
                  · intro w' hSw
                    obtain ⟨y0, y1, y2, y3, y4, y5⟩ := HBX.out _ hSw
                    go_simp
                    all_goals first | with_reducible rfl | (rw [if_neg (by omega)]; done) | (rw [if_pos (by omega)]; done) | (rw [if_neg (by omega)]; with_reducible rfl) | (rw [if_pos (by omega)]; with_reducible rfl)
                  try simp only [List.getElem_toArray, List.getElem_cons_zero, List.getElem_cons_succ, Act.put, List.setIfInBounds_toArray, List.set_cons_zero, List.set_cons_succ]
                  refine wpAnyH_take (i := 2) (v := ?_) rfl (by kernel_rfl) (by kernel_rfl) (by kernel_rfl) (fun _ _ _ h => h) (Or.inl ⟨by rfl, ?_⟩) (by assumption) ?_
                  rotate_left 1
                  · intro w' hSw
                    go_simp
                    all_goals first | with_reducible rfl | (rw [if_neg (by omega)]; done) | (rw [if_pos (by omega)]; done) | (rw [if_neg (by omega)]; with_reducible rfl) | (rw [if_pos (by omega)]; with_reducible rfl)
                  try simp only [List.getElem_toArray, List.getElem_cons_zero, List.getElem_cons_succ, Act.put, List.setIfInBounds_toArray, List.set_cons_zero, List.set_cons_succ]
                  refine wpAnyH_take (i := 3) (v := ?_) rfl (by kernel_rfl) (by kernel_rfl) (by kernel_rfl) (fun _ _ _ h => h) (Or.inl ⟨by rfl, ?_⟩) (by assumption) ?_
                  rotate_left 1
                  · intro w' hSw
                    go_simp
                    all_goals first | with_reducible rfl | (rw [if_neg (by omega)]; done) | (rw [if_pos (by omega)]; done) | (rw [if_neg (by omega)]; with_reducible rfl) | (rw [if_pos (by omega)]; with_reducible rfl)
                  try simp only [List.getElem_toArray, List.getElem_cons_zero, List.getElem_cons_succ, Act.put, List.setIfInBounds_toArray, List.set_cons_zero, List.set_cons_succ]
                  refine wpAnyH_take (i := 4) (v := ?_) rfl (by kernel_rfl) (by kernel_rfl) (by kernel_rfl) (fun _ _ _ h => h) (Or.inl ⟨by rfl, ?_⟩) (by assumption) ?_
                  rotate_left 1
                  · intro w' hSw
                    go_simp
                    all_goals first | with_reducible rfl | (rw [if_neg (by omega)]; done) | (rw [if_pos (by omega)]; done) | (rw [if_neg (by omega)]; with_reducible rfl) | (rw [if_pos (by omega)]; with_reducible rfl)
                  try simp only [List.getElem_toArray, List.getElem_cons_zero, List.getElem_cons_succ, Act.put, List.setIfInBounds_toArray, List.set_cons_zero, List.set_cons_succ]
                  refine wpAnyH_take (i := 5) (v := ?_) rfl (by kernel_rfl) (by kernel_rfl) (by kernel_rfl) (fun _ _ _ h => h) (Or.inl ⟨by rfl, ?_⟩) (by assumption) ?_
                  rotate_left 1
                  · intro w' hSw
                    obtain ⟨y0, y1, y2, y3, y4, y5⟩ := HBX.out _ hSw
                    go_simp
                    all_goals first | with_reducible rfl | (rw [if_neg (by omega)]; done) | (rw [if_pos (by omega)]; done) | (rw [if_neg (by omega)]; with_reducible rfl) | (rw [if_pos (by omega)]; with_reducible rfl)
                  try simp only [List.getElem_toArray, List.getElem_cons_zero, List.getElem_cons_succ, Act.put, List.setIfInBounds_toArray, List.set_cons_zero, List.set_cons_succ]
                  refine wpAnyH_ready (rs := [6, 11]) (by kernel_rfl) (by simp) ?_
                  refine AllReadyH.cons rfl (fun K hK => ?_) (AllReadyH.cons rfl (fun K hK => ?_) AllReadyH.nil)
                  · refine step_call rfl 21 Try.f21 _ _ rfl Try.func21 (by kernel_rfl) (by kernel_rfl) _ _ (HSTEP.out _ (Turn.refl _ _).drew) (by go_simp) ?_
                    rintro v8 w8 ⟨q2, vk2, g2, la2, mk2, A2, n2, c2, rfl, hst8, hsw8, ht8⟩
                    have ST8 := Lib.hid hst8
                    have T8 : Hid (Turn (Sw q vk g) wx w8) := Lib.hid (((Turn.refl _ _).drew).trans ht8)
                    have F8 : Hid (∀ k, Sw q2 vk2 g2 k → Sw q vk g k ∨ wx.heap.size ≤ k) := Lib.hid hsw8
                    clear hst8 hsw8 ht8
                    refine hK.out _ _ T8.out (fun hHeld => ?_)
                    clear hHeld hK K
                    try simp only [List.getElem_toArray, List.getElem_cons_zero, List.getElem_cons_succ, Act.put, List.setIfInBounds_toArray, List.set_cons_zero, List.set_cons_succ]
                    refine wpAnyH_take (i := 7) (v := ?_) rfl (by kernel_rfl) (by kernel_rfl) (by kernel_rfl) (fun _ _ _ h => h) (Or.inl ⟨by rfl, ?_⟩) (by assumption) ?_
                    rotate_left 1
                    · intro w' hSw
                      go_simp
                      all_goals first | with_reducible rfl | (rw [if_neg (by omega)]; done) | (rw [if_pos (by omega)]; done) | (rw [if_neg (by omega)]; with_reducible rfl) | (rw [if_pos (by omega)]; with_reducible rfl)
                    try simp only [List.getElem_toArray, List.getElem_cons_zero, List.getElem_cons_succ, Act.put, List.setIfInBounds_toArray, List.set_cons_zero, List.set_cons_succ]
                    refine wpAnyH_take (i := 8) (v := ?_) rfl (by kernel_rfl) (by kernel_rfl) (by kernel_rfl) (fun _ _ _ h => h) (Or.inl ⟨by rfl, ?_⟩) (by assumption) ?_
                    rotate_left 1
                    · intro w' hSw
                      go_simp
                      all_goals first | with_reducible rfl | (rw [if_neg (by omega)]; done) | (rw [if_pos (by omega)]; done) | (rw [if_neg (by omega)]; with_reducible rfl) | (rw [if_pos (by omega)]; with_reducible rfl)
                    try simp only [List.getElem_toArray, List.getElem_cons_zero, List.getElem_cons_succ, Act.put, List.setIfInBounds_toArray, List.set_cons_zero, List.set_cons_succ]
                    refine wpAnyH_take (i := 9) (v := ?_) rfl (by kernel_rfl) (by kernel_rfl) (by kernel_rfl) (fun _ _ _ h => h) (Or.inl ⟨by rfl, ?_⟩) (by assumption) ?_
                    rotate_left 1
                    · intro w' hSw
                      go_simp
                      all_goals first | with_reducible rfl | (rw [if_neg (by omega)]; done) | (rw [if_pos (by omega)]; done) | (rw [if_neg (by omega)]; with_reducible rfl) | (rw [if_pos (by omega)]; with_reducible rfl)
                    try simp only [List.getElem_toArray, List.getElem_cons_zero, List.getElem_cons_succ, Act.put, List.setIfInBounds_toArray, List.set_cons_zero, List.set_cons_succ]
                    refine wpAnyH_take (i := 10) (v := ?_) rfl (by kernel_rfl) (by kernel_rfl) (by kernel_rfl) (fun _ _ _ h => h) (Or.inl ⟨by rfl, ?_⟩) (by assumption) ?_
                    rotate_left 1
                    · intro w' hSw
                      go_simp
                      all_goals first | with_reducible rfl | (rw [if_neg (by omega)]; done) | (rw [if_pos (by omega)]; done) | (rw [if_neg (by omega)]; with_reducible rfl) | (rw [if_pos (by omega)]; with_reducible rfl)
                    try simp only [List.getElem_toArray, List.getElem_cons_zero, List.getElem_cons_succ, Act.put, List.setIfInBounds_toArray, List.set_cons_zero, List.set_cons_succ]
                    refine wpAnyH_ready (rs := [11]) (by kernel_rfl) (by simp) ?_
                    refine AllReadyH.cons rfl (fun K hK => ?_) AllReadyH.nil
                    go_simp
                    obtain ⟨bx, hbx⟩ : ∃ bx, w8.heap.size = bx := ⟨_, rfl⟩
                    have HBXS : Hid (wx.heap.size ≤ bx) := Lib.hid (by have := T8.out.size; omega)
                    have NB : Hid (∀ k, Sw q2 vk2 g2 k → k ≠ bx) := Lib.hid (fun k hk e => by
                      obtain ⟨M, Md, hst, _⟩ := ST8.out
                      have := hst.sp.below k hk
                      omega)
                    obtain ⟨W8, hW8⟩ : ∃ W, w8.alloc (.cells #[.slice none 0 0, .int .i64 0, .int .i64 0] 32) = W := ⟨_, rfl⟩
                    have BB : Hid (Blk W8 bx 32 [.slice none 0 0, .int .i64 0, .int .i64 0]) := Lib.hid (hW8 ▸ Blk.new_ _ _ _ hbx)
                    have T8' : Hid (Turn (Sw q vk g) wx W8) := Lib.hid (hW8 ▸ T8.out.alloc _)
                    have ST8' : Hid (∃ M Md, St14 W8 q2 vk2 g2 M la2 mk2 (.slice A2 n2 c2) Md (cn14 ls + cn14 (ms.take (j + 1))) ∧ Q2 I0 t la2 mk2 (M.map (fun p : Itm × Value => p.1))) := Lib.hid (by
                      obtain ⟨M, Md, hst, hqq⟩ := ST8.out
                      exact ⟨M, Md, hW8 ▸ hst.still ((Turn.refl _ _).alloc _), hqq⟩)
                    clear T8 ST8
                    have T8 := T8'
                    have ST8 := ST8'
                    clear T8' ST8'
                    rw [hbx, hW8]
                    clear hbx hW8 w8
                    obtain ⟨w8, rfl⟩ : ∃ W, W = W8 := ⟨_, rfl⟩
                    refine hK.out _ _ T8.out (fun hHeld => ?_)
                    clear hHeld hK K
                    try simp only [List.getElem_toArray, List.getElem_cons_zero, List.getElem_cons_succ, Act.put, List.setIfInBounds_toArray, List.set_cons_zero, List.set_cons_succ]
                    refine wpAnyH_take (i := 12) (v := ?_) rfl (by kernel_rfl) (by kernel_rfl) (by kernel_rfl) (fun _ _ _ h => h) (Or.inl ⟨by rfl, ?_⟩) (by assumption) ?_
                    rotate_left 1
                    · intro w' hSw
                      go_simp
                      all_goals first | with_reducible rfl | (rw [if_neg (by omega)]; done) | (rw [if_pos (by omega)]; done) | (rw [if_neg (by omega)]; with_reducible rfl) | (rw [if_pos (by omega)]; with_reducible rfl)
                    try simp only [List.getElem_toArray, List.getElem_cons_zero, List.getElem_cons_succ, Act.put, List.setIfInBounds_toArray, List.set_cons_zero, List.set_cons_succ]
                    refine wpAnyH_ready (rs := [13]) (by kernel_rfl) (by simp) ?_
                    refine AllReadyH.cons rfl (fun K hK => ?_) AllReadyH.nil
                    obtain ⟨r0, r1, r2, r3, r4, r5⟩ := cells3 BB.out
                    have HF := Lib.hid (box3 BB.out (.slice A2 n2 c2) (.int .i64 la2) (.int .i64 mk2))
                    go_simp
                    have TS9 := Lib.hid (T8.out.trans_new HF.out.2.1 (fun k hk e => by have := HBXS.out; omega))
                    refine hK.out _ _ TS9.out (fun hHeld => ?_)
                    clear hHeld hK K
                    try simp only [List.getElem_toArray, List.getElem_cons_zero, List.getElem_cons_succ, Act.put, List.setIfInBounds_toArray, List.set_cons_zero, List.set_cons_succ]
                    refine wpAnyH_take (i := 14) (v := ?_) rfl (by kernel_rfl) (by kernel_rfl) (by kernel_rfl) (fun _ _ _ h => h) (Or.inl ⟨by rfl, ?_⟩) (by assumption) ?_
                    rotate_left 1
                    · intro w' hSw
                      go_simp
                      all_goals first | with_reducible rfl | (rw [if_neg (by omega)]; done) | (rw [if_pos (by omega)]; done) | (rw [if_neg (by omega)]; with_reducible rfl) | (rw [if_pos (by omega)]; with_reducible rfl)
                    try simp only [List.getElem_toArray, List.getElem_cons_zero, List.getElem_cons_succ, Act.put, List.setIfInBounds_toArray, List.set_cons_zero, List.set_cons_succ]
                    refine wpAnyH_done (by kernel_rfl) ?_ _
                    refine NoPanic.normal ?_
                    obtain ⟨CZ, TS, k0, k1, k2⟩ := HF.out
                    obtain ⟨W9, hW9⟩ : ∃ W, ((w8.setCell ⟨bx, 0, none⟩ (.slice A2 n2 c2)).setCell ⟨bx, 1, none⟩ (.int .i64 la2)).setCell ⟨bx, 2, none⟩ (.int .i64 mk2) = W := ⟨_, rfl⟩
                    rw [hW9] at CZ TS k0 k1 k2 ⊢
                    have B9 := Lib.hid CZ
                    have T9 : Hid (Turn (Sw q vk g) wx W9) := Lib.hid (T8.out.trans_new TS (fun k hk e => by have := HBXS.out; omega))
                    have ST9 : Hid (∃ M Md, St14 W9 q2 vk2 g2 M la2 mk2 (.slice A2 n2 c2) Md (cn14 ls + cn14 (ms.take (j + 1))) ∧ Q2 I0 t la2 mk2 (M.map (fun p : Itm × Value => p.1))) := Lib.hid (by
                      obtain ⟨M, Md, hst, hqq⟩ := ST8.out
                      exact ⟨M, Md, hst.box BB.out (by simp) NB.out TS, hqq⟩)
                    clear CZ TS hW9 HF BB TS9 e0 e1 e2 m0 m1 m2
                    go_wp2_with fail
                    have BM : Hid (Blk W9 mb 32 [.slice AM lM cM, .int .i64 last, .int .i64 mark]) := Lib.hid (LP.out.2.1.turn T9.out (fun h => (LP.out.2.2.1 _ h).2.1 rfl))
                    have HBM : Hid (∀ X, Turn (fun k => k = mb) W9 X → X.cell? ⟨bx, 0, none⟩ = some (.slice A2 n2 c2) ∧ X.cell? ⟨bx, 1, none⟩ = some (.int .i64 la2) ∧ X.cell? ⟨bx, 2, none⟩ = some (.int .i64 mk2)) := Lib.hid (fun X hX => by
                      have b := B9.out.turn hX (fun e => by have := HBXS.out; omega)
                      exact ⟨b.cell 0, b.cell 1, b.cell 2⟩)
                    have HEND := Lib.hid (ls_end LP.out ⟨_, _, _, rfl⟩ T9.out ST9.out F8.out)
                    clear HSTEP HBX T8 F8 NB ST8
                    have T0 : Hid (Turn (fun k => k = mb) W9 W9.drew) := Lib.hid (Turn.refl _ _).drew
                    refine wp_region_noPanic ?_
                    refine wp_region_held_drew (S := (fun X => Turn (fun k => k = mb) W9 X)) (by kernel_rfl) T0.out (fun hHeld => ?_)
                    clear hHeld
                    refine wpAnyH_take (i := 0) (v := ?_) rfl (by kernel_rfl) (by kernel_rfl) (by kernel_rfl) (fun _ _ _ h => h) (Or.inl ⟨by rfl, ?_⟩) (by assumption) ?_
                    rotate_left 1
                    · intro w' hSw
                      go_simp
                      all_goals first | with_reducible rfl | (rw [if_neg (by omega)]; done) | (rw [if_pos (by omega)]; done) | (rw [if_neg (by omega)]; with_reducible rfl) | (rw [if_pos (by omega)]; with_reducible rfl)
                    try simp only [List.getElem_toArray, List.getElem_cons_zero, List.getElem_cons_succ, Act.put, List.setIfInBounds_toArray, List.set_cons_zero, List.set_cons_succ]
                    refine wpAnyH_take (i := 1) (v := ?_) rfl (by kernel_rfl) (by kernel_rfl) (by kernel_rfl) (fun _ _ _ h => h) (Or.inl ⟨by rfl, ?_⟩) (by assumption) ?_
                    rotate_left 1
                    · intro w' hSw
                      obtain ⟨y0, y1, y2⟩ := HBM.out _ hSw
                      go_simp
                      all_goals first | with_reducible rfl | (rw [if_neg (by omega)]; done) | (rw [if_pos (by omega)]; done) | (rw [if_neg (by omega)]; with_reducible rfl) | (rw [if_pos (by omega)]; with_reducible rfl)
                    try simp only [List.getElem_toArray, List.getElem_cons_zero, List.getElem_cons_succ, Act.put, List.setIfInBounds_toArray, List.set_cons_zero, List.set_cons_succ]
                    refine wpAnyH_take (i := 2) (v := ?_) rfl (by kernel_rfl) (by kernel_rfl) (by kernel_rfl) (fun _ _ _ h => h) (Or.inl ⟨by rfl, ?_⟩) (by assumption) ?_
                    rotate_left 1
                    · intro w' hSw
                      go_simp
                      all_goals first | with_reducible rfl | (rw [if_neg (by omega)]; done) | (rw [if_pos (by omega)]; done) | (rw [if_neg (by omega)]; with_reducible rfl) | (rw [if_pos (by omega)]; with_reducible rfl)
                    try simp only [List.getElem_toArray, List.getElem_cons_zero, List.getElem_cons_succ, Act.put, List.setIfInBounds_toArray, List.set_cons_zero, List.set_cons_succ]
                    refine wpAnyH_ready (rs := [3]) (by kernel_rfl) (by simp) ?_
                    refine AllReadyH.cons rfl (fun K hK => ?_) AllReadyH.nil
                    obtain ⟨r0, r1, r2, r3, r4, r5⟩ := cells3 BM.out
                    have HG := Lib.hid (box3 BM.out (.slice A2 n2 c2) (.int .i64 la2) (.int .i64 mk2))
                    go_simp
                    have TG : Hid (Turn (fun k => k = mb) W9 _) := Lib.hid (HG.out.2.1).drew
                    refine hK.out _ _ TG.out (fun hHeld => ?_)
                    clear hHeld hK K
                    try simp only [List.getElem_toArray, List.getElem_cons_zero, List.getElem_cons_succ, Act.put, List.setIfInBounds_toArray, List.set_cons_zero, List.set_cons_succ]
                    refine wpAnyH_done (by kernel_rfl) ?_ _
                    refine NoPanic.normal ?_
                    go_wp2_with fail
                    go_roundw
                    case rel => exact ⟨j + 1, q2, vk2, g2, la2, mk2, A2, n2, c2, by omega, rfl, by simp [hq], (HEND.out _ TG.out HG.out.1), Lib.hid (ls_px LP.out ⟨_, _, _, rfl⟩ HPX.out T9.out TG.out)⟩
                    case measure => simp [intOf, hq]; omega
                  · go_simp
                    have T11F : Hid (Turn (fun _ => False) wx (wx.drew.alloc (.cells #[.slice none 0 0, .int .i64 0, .int .i64 0] 32))) := Lib.hid ((Turn.refl _ _).drew.alloc _)
                    have T11 : Hid (Turn (Sw q vk g) wx (wx.drew.alloc (.cells #[.slice none 0 0, .int .i64 0, .int .i64 0] 32))) := Lib.hid (T11F.out.mono (fun k _ h => h.elim))
                    refine hK.out _ _ T11.out (fun hHeld => ?_)
                    clear hHeld hK K
                    try simp only [List.getElem_toArray, List.getElem_cons_zero, List.getElem_cons_succ, Act.put, List.setIfInBounds_toArray, List.set_cons_zero, List.set_cons_succ]
                    refine wpAnyH_ready (rs := [6]) (by kernel_rfl) (by simp) ?_
                    refine AllReadyH.cons rfl (fun K hK => ?_) AllReadyH.nil
                    refine step_call rfl 21 Try.f21 _ _ rfl Try.func21 (by kernel_rfl) (by kernel_rfl) _ _ (HSTEP.out _ T11F.out) (by go_simp) ?_
                    rintro v8 w8 ⟨q2, vk2, g2, la2, mk2, A2, n2, c2, rfl, hst8, hsw8, ht8⟩
                    have ST8 := Lib.hid hst8
                    have T8 : Hid (Turn (Sw q vk g) wx w8) := Lib.hid ((T11F.out.mono (fun k _ h => h.elim)).trans ht8)
                    have F8 : Hid (∀ k, Sw q2 vk2 g2 k → Sw q vk g k ∨ wx.heap.size ≤ k) := Lib.hid (fun k hk => (hsw8 k hk).imp id (fun h => Nat.le_trans T11F.out.size h))
                    obtain ⟨bx, hbx⟩ : ∃ bx, wx.heap.size = bx := ⟨_, rfl⟩
                    have HBXS : Hid (wx.heap.size ≤ bx) := Lib.hid (by omega)
                    have BB : Hid (Blk w8 bx 32 [.slice none 0 0, .int .i64 0, .int .i64 0]) := Lib.hid ((Blk.new_ wx.drew 32 [.slice none 0 0, .int .i64 0, .int .i64 0] hbx).turn ht8 (fun h => by have := hsw1 _ h; omega))
                    have NB : Hid (∀ k, Sw q2 vk2 g2 k → k ≠ bx) := Lib.hid (fun k hk e => by
                      rcases hsw8 k hk with h | h
                      · have := hsw1 _ h; omega
                      · have h7 : wx.heap.size + 1 ≤ k := Nat.le_trans (Nat.le_of_eq (World.size_alloc wx.drew (.cells #[.slice none 0 0, .int .i64 0, .int .i64 0] 32)).symm) h
                        omega)
                    rw [hbx]
                    clear hst8 hsw8 ht8 hbx
                    refine hK.out _ _ T8.out (fun hHeld => ?_)
                    clear hHeld hK K
                    try simp only [List.getElem_toArray, List.getElem_cons_zero, List.getElem_cons_succ, Act.put, List.setIfInBounds_toArray, List.set_cons_zero, List.set_cons_succ]
                    refine wpAnyH_take (i := 7) (v := ?_) rfl (by kernel_rfl) (by kernel_rfl) (by kernel_rfl) (fun _ _ _ h => h) (Or.inl ⟨by rfl, ?_⟩) (by assumption) ?_
                    rotate_left 1
                    · intro w' hSw
                      go_simp
                      all_goals first | with_reducible rfl | (rw [if_neg (by omega)]; done) | (rw [if_pos (by omega)]; done) | (rw [if_neg (by omega)]; with_reducible rfl) | (rw [if_pos (by omega)]; with_reducible rfl)
                    try simp only [List.getElem_toArray, List.getElem_cons_zero, List.getElem_cons_succ, Act.put, List.setIfInBounds_toArray, List.set_cons_zero, List.set_cons_succ]
                    refine wpAnyH_take (i := 8) (v := ?_) rfl (by kernel_rfl) (by kernel_rfl) (by kernel_rfl) (fun _ _ _ h => h) (Or.inl ⟨by rfl, ?_⟩) (by assumption) ?_
                    rotate_left 1
                    · intro w' hSw
                      go_simp
                      all_goals first | with_reducible rfl | (rw [if_neg (by omega)]; done) | (rw [if_pos (by omega)]; done) | (rw [if_neg (by omega)]; with_reducible rfl) | (rw [if_pos (by omega)]; with_reducible rfl)
                    try simp only [List.getElem_toArray, List.getElem_cons_zero, List.getElem_cons_succ, Act.put, List.setIfInBounds_toArray, List.set_cons_zero, List.set_cons_succ]
                    refine wpAnyH_take (i := 9) (v := ?_) rfl (by kernel_rfl) (by kernel_rfl) (by kernel_rfl) (fun _ _ _ h => h) (Or.inl ⟨by rfl, ?_⟩) (by assumption) ?_
                    rotate_left 1
                    · intro w' hSw
                      go_simp
                      all_goals first | with_reducible rfl | (rw [if_neg (by omega)]; done) | (rw [if_pos (by omega)]; done) | (rw [if_neg (by omega)]; with_reducible rfl) | (rw [if_pos (by omega)]; with_reducible rfl)
                    try simp only [List.getElem_toArray, List.getElem_cons_zero, List.getElem_cons_succ, Act.put, List.setIfInBounds_toArray, List.set_cons_zero, List.set_cons_succ]
                    refine wpAnyH_take (i := 10) (v := ?_) rfl (by kernel_rfl) (by kernel_rfl) (by kernel_rfl) (fun _ _ _ h => h) (Or.inl ⟨by rfl, ?_⟩) (by assumption) ?_
                    rotate_left 1
                    · intro w' hSw
                      go_simp
                      all_goals first | with_reducible rfl | (rw [if_neg (by omega)]; done) | (rw [if_pos (by omega)]; done) | (rw [if_neg (by omega)]; with_reducible rfl) | (rw [if_pos (by omega)]; with_reducible rfl)
                    try simp only [List.getElem_toArray, List.getElem_cons_zero, List.getElem_cons_succ, Act.put, List.setIfInBounds_toArray, List.set_cons_zero, List.set_cons_succ]
                    refine wpAnyH_take (i := 12) (v := ?_) rfl (by kernel_rfl) (by kernel_rfl) (by kernel_rfl) (fun _ _ _ h => h) (Or.inl ⟨by rfl, ?_⟩) (by assumption) ?_
                    rotate_left 1
                    · intro w' hSw
                      go_simp
                      all_goals first | with_reducible rfl | (rw [if_neg (by omega)]; done) | (rw [if_pos (by omega)]; done) | (rw [if_neg (by omega)]; with_reducible rfl) | (rw [if_pos (by omega)]; with_reducible rfl)
                    try simp only [List.getElem_toArray, List.getElem_cons_zero, List.getElem_cons_succ, Act.put, List.setIfInBounds_toArray, List.set_cons_zero, List.set_cons_succ]
                    refine wpAnyH_ready (rs := [13]) (by kernel_rfl) (by simp) ?_
                    refine AllReadyH.cons rfl (fun K hK => ?_) AllReadyH.nil
                    obtain ⟨r0, r1, r2, r3, r4, r5⟩ := cells3 BB.out
                    have HF := Lib.hid (box3 BB.out (.slice A2 n2 c2) (.int .i64 la2) (.int .i64 mk2))
                    go_simp
                    have TS9 := Lib.hid (T8.out.trans_new HF.out.2.1 (fun k hk e => by have := HBXS.out; omega))
                    refine hK.out _ _ TS9.out (fun hHeld => ?_)
                    clear hHeld hK K
                    try simp only [List.getElem_toArray, List.getElem_cons_zero, List.getElem_cons_succ, Act.put, List.setIfInBounds_toArray, List.set_cons_zero, List.set_cons_succ]
                    refine wpAnyH_take (i := 14) (v := ?_) rfl (by kernel_rfl) (by kernel_rfl) (by kernel_rfl) (fun _ _ _ h => h) (Or.inl ⟨by rfl, ?_⟩) (by assumption) ?_
                    rotate_left 1
                    · intro w' hSw
                      go_simp
                      all_goals first | with_reducible rfl | (rw [if_neg (by omega)]; done) | (rw [if_pos (by omega)]; done) | (rw [if_neg (by omega)]; with_reducible rfl) | (rw [if_pos (by omega)]; with_reducible rfl)
                    try simp only [List.getElem_toArray, List.getElem_cons_zero, List.getElem_cons_succ, Act.put, List.setIfInBounds_toArray, List.set_cons_zero, List.set_cons_succ]
                    refine wpAnyH_done (by kernel_rfl) ?_ _
                    refine NoPanic.normal ?_
                    obtain ⟨CZ, TS, k0, k1, k2⟩ := HF.out
                    obtain ⟨W9, hW9⟩ : ∃ W, ((w8.setCell ⟨bx, 0, none⟩ (.slice A2 n2 c2)).setCell ⟨bx, 1, none⟩ (.int .i64 la2)).setCell ⟨bx, 2, none⟩ (.int .i64 mk2) = W := ⟨_, rfl⟩
                    rw [hW9] at CZ TS k0 k1 k2 ⊢
                    have B9 := Lib.hid CZ
                    have T9 : Hid (Turn (Sw q vk g) wx W9) := Lib.hid (T8.out.trans_new TS (fun k hk e => by have := HBXS.out; omega))
                    have ST9 : Hid (∃ M Md, St14 W9 q2 vk2 g2 M la2 mk2 (.slice A2 n2 c2) Md (cn14 ls + cn14 (ms.take (j + 1))) ∧ Q2 I0 t la2 mk2 (M.map (fun p : Itm × Value => p.1))) := Lib.hid (by
                      obtain ⟨M, Md, hst, hqq⟩ := ST8.out
                      exact ⟨M, Md, hst.box BB.out (by simp) NB.out TS, hqq⟩)
                    clear CZ TS hW9 HF BB TS9 e0 e1 e2 m0 m1 m2
                    go_wp2_with fail
                    have BM : Hid (Blk W9 mb 32 [.slice AM lM cM, .int .i64 last, .int .i64 mark]) := Lib.hid (LP.out.2.1.turn T9.out (fun h => (LP.out.2.2.1 _ h).2.1 rfl))
                    have HBM : Hid (∀ X, Turn (fun k => k = mb) W9 X → X.cell? ⟨bx, 0, none⟩ = some (.slice A2 n2 c2) ∧ X.cell? ⟨bx, 1, none⟩ = some (.int .i64 la2) ∧ X.cell? ⟨bx, 2, none⟩ = some (.int .i64 mk2)) := Lib.hid (fun X hX => by
                      have b := B9.out.turn hX (fun e => by have := HBXS.out; omega)
                      exact ⟨b.cell 0, b.cell 1, b.cell 2⟩)
                    have HEND := Lib.hid (ls_end LP.out ⟨_, _, _, rfl⟩ T9.out ST9.out F8.out)
                    clear HSTEP HBX T8 F8 NB ST8
                    have T0 : Hid (Turn (fun k => k = mb) W9 W9.drew) := Lib.hid (Turn.refl _ _).drew
                    refine wp_region_noPanic ?_
                    refine wp_region_held_drew (S := (fun X => Turn (fun k => k = mb) W9 X)) (by kernel_rfl) T0.out (fun hHeld => ?_)
                    clear hHeld
                    refine wpAnyH_take (i := 0) (v := ?_) rfl (by kernel_rfl) (by kernel_rfl) (by kernel_rfl) (fun _ _ _ h => h) (Or.inl ⟨by rfl, ?_⟩) (by assumption) ?_
                    rotate_left 1
                    · intro w' hSw
                      go_simp
                      all_goals first | with_reducible rfl | (rw [if_neg (by omega)]; done) | (rw [if_pos (by omega)]; done) | (rw [if_neg (by omega)]; with_reducible rfl) | (rw [if_pos (by omega)]; with_reducible rfl)
                    try simp only [List.getElem_toArray, List.getElem_cons_zero, List.getElem_cons_succ, Act.put, List.setIfInBounds_toArray, List.set_cons_zero, List.set_cons_succ]
                    refine wpAnyH_take (i := 1) (v := ?_) rfl (by kernel_rfl) (by kernel_rfl) (by kernel_rfl) (fun _ _ _ h => h) (Or.inl ⟨by rfl, ?_⟩) (by assumption) ?_
                    rotate_left 1
                    · intro w' hSw
                      obtain ⟨y0, y1, y2⟩ := HBM.out _ hSw
                      go_simp
                      all_goals first | with_reducible rfl | (rw [if_neg (by omega)]; done) | (rw [if_pos (by omega)]; done) | (rw [if_neg (by omega)]; with_reducible rfl) | (rw [if_pos (by omega)]; with_reducible rfl)
                    try simp only [List.getElem_toArray, List.getElem_cons_zero, List.getElem_cons_succ, Act.put, List.setIfInBounds_toArray, List.set_cons_zero, List.set_cons_succ]
                    refine wpAnyH_take (i := 2) (v := ?_) rfl (by kernel_rfl) (by kernel_rfl) (by kernel_rfl) (fun _ _ _ h => h) (Or.inl ⟨by rfl, ?_⟩) (by assumption) ?_
                    rotate_left 1
                    · intro w' hSw
                      go_simp
                      all_goals first | with_reducible rfl | (rw [if_neg (by omega)]; done) | (rw [if_pos (by omega)]; done) | (rw [if_neg (by omega)]; with_reducible rfl) | (rw [if_pos (by omega)]; with_reducible rfl)
                    try simp only [List.getElem_toArray, List.getElem_cons_zero, List.getElem_cons_succ, Act.put, List.setIfInBounds_toArray, List.set_cons_zero, List.set_cons_succ]
                    refine wpAnyH_ready (rs := [3]) (by kernel_rfl) (by simp) ?_
                    refine AllReadyH.cons rfl (fun K hK => ?_) AllReadyH.nil
                    obtain ⟨r0, r1, r2, r3, r4, r5⟩ := cells3 BM.out
                    have HG := Lib.hid (box3 BM.out (.slice A2 n2 c2) (.int .i64 la2) (.int .i64 mk2))
                    go_simp
                    have TG : Hid (Turn (fun k => k = mb) W9 _) := Lib.hid (HG.out.2.1).drew
                    refine hK.out _ _ TG.out (fun hHeld => ?_)
                    clear hHeld hK K
                    try simp only [List.getElem_toArray, List.getElem_cons_zero, List.getElem_cons_succ, Act.put, List.setIfInBounds_toArray, List.set_cons_zero, List.set_cons_succ]
                    refine wpAnyH_done (by kernel_rfl) ?_ _
                    refine NoPanic.normal ?_
                    go_wp2_with fail
                    go_roundw
                    case rel => exact ⟨j + 1, q2, vk2, g2, la2, mk2, A2, n2, c2, by omega, rfl, by simp [hq], (HEND.out _ TG.out HG.out.1), Lib.hid (ls_px LP.out ⟨_, _, _, rfl⟩ HPX.out T9.out TG.out)⟩
                    case measure => simp [intOf, hq]; omega
              · have hkd : decide (ak = 1) = false := by simpa using hk1
                go_wp2_with fail
                refine wp_region_noPanic ?_
                refine wp_region_held_drew (S := (fun X => Turn (fun _ => False) wx X)) (by kernel_rfl) T0.out (fun hHeld => ?_)
                clear hHeld
                refine wpAnyH_take (i := 0) (v := ?_) rfl (by kernel_rfl) (by kernel_rfl) (by kernel_rfl) (fun _ _ _ h => h) (Or.inl ⟨by rfl, ?_⟩) (by assumption) ?_
                rotate_left 1
                · intro w' hSw
                  go_simp
                  all_goals first | with_reducible rfl | (rw [if_neg (by omega)]; done) | (rw [if_pos (by omega)]; done) | (rw [if_neg (by omega)]; with_reducible rfl) | (rw [if_pos (by omega)]; with_reducible rfl)
                try simp only [List.getElem_toArray, List.getElem_cons_zero, List.getElem_cons_succ, Act.put, List.setIfInBounds_toArray, List.set_cons_zero, List.set_cons_succ]
                refine wpAnyH_take (i := 1) (v := ?_) rfl (by kernel_rfl) (by kernel_rfl) (by kernel_rfl) (fun _ _ _ h => h) (Or.inl ⟨by rfl, ?_⟩) (by assumption) ?_
                rotate_left 1
                · intro w' hSw
                  go_simp
                  all_goals first | with_reducible rfl | (rw [if_neg (by omega)]; done) | (rw [if_pos (by omega)]; done) | (rw [if_neg (by omega)]; with_reducible rfl) | (rw [if_pos (by omega)]; with_reducible rfl)
                try simp only [List.getElem_toArray, List.getElem_cons_zero, List.getElem_cons_succ, Act.put, List.setIfInBounds_toArray, List.set_cons_zero, List.set_cons_succ]
                refine wpAnyH_take (i := 2) (v := ?_) rfl (by kernel_rfl) (by kernel_rfl) (by kernel_rfl) (fun _ _ _ h => h) (Or.inl ⟨by rfl, ?_⟩) (by assumption) ?_
                rotate_left 1
                · intro w' hSw
                  go_simp
                  all_goals first | with_reducible rfl | (rw [if_neg (by omega)]; done) | (rw [if_pos (by omega)]; done) | (rw [if_neg (by omega)]; with_reducible rfl) | (rw [if_pos (by omega)]; with_reducible rfl)
                try simp only [List.getElem_toArray, List.getElem_cons_zero, List.getElem_cons_succ, Act.put, List.setIfInBounds_toArray, List.set_cons_zero, List.set_cons_succ]
                refine wpAnyH_take (i := 3) (v := ?_) rfl (by kernel_rfl) (by kernel_rfl) (by kernel_rfl) (fun _ _ _ h => h) (Or.inl ⟨by rfl, ?_⟩) (by assumption) ?_
                rotate_left 1
                · intro w' hSw
                  go_simp
                  all_goals first | with_reducible rfl | (rw [if_neg (by omega)]; done) | (rw [if_pos (by omega)]; done) | (rw [if_neg (by omega)]; with_reducible rfl) | (rw [if_pos (by omega)]; with_reducible rfl)
                try simp only [List.getElem_toArray, List.getElem_cons_zero, List.getElem_cons_succ, Act.put, List.setIfInBounds_toArray, List.set_cons_zero, List.set_cons_succ]
                refine wpAnyH_take (i := 4) (v := ?_) rfl (by kernel_rfl) (by kernel_rfl) (by kernel_rfl) (fun _ _ _ h => h) (Or.inl ⟨by rfl, ?_⟩) (by assumption) ?_
                rotate_left 1
                · intro w' hSw
                  obtain ⟨y0, y1⟩ := HRB.out _ hSw
                  go_simp
                  all_goals first | with_reducible rfl | (rw [if_neg (by omega)]; done) | (rw [if_pos (by omega)]; done) | (rw [if_neg (by omega)]; with_reducible rfl) | (rw [if_pos (by omega)]; with_reducible rfl)
                try simp only [List.getElem_toArray, List.getElem_cons_zero, List.getElem_cons_succ, Act.put, List.setIfInBounds_toArray, List.set_cons_zero, List.set_cons_succ]
                refine wpAnyH_take (i := 5) (v := .bool false) rfl (by kernel_rfl) (by kernel_rfl) (by kernel_rfl) (fun _ _ _ h => h) (Or.inl ⟨by rfl, ?_⟩) (by assumption) ?_
                · intro w' hSw
                  go_simp
                  all_goals first | exact hkd | (simp only [hkd]; done) | (simp [hk1]; done) | with_reducible rfl | (rw [if_neg (by omega)]; done) | (rw [if_pos (by omega)]; done) | (rw [if_neg (by omega)]; with_reducible rfl) | (rw [if_pos (by omega)]; with_reducible rfl)
                try simp only [List.getElem_toArray, List.getElem_cons_zero, List.getElem_cons_succ, Act.put, List.setIfInBounds_toArray, List.set_cons_zero, List.set_cons_succ]
                refine wpAnyH_take (i := 6) (v := ?_) rfl (by kernel_rfl) (by kernel_rfl) (by kernel_rfl) (fun _ _ _ h => h) (Or.inl ⟨by rfl, ?_⟩) (by assumption) ?_
                rotate_left 1
                · intro w' hSw
                  go_simp
                  all_goals first | with_reducible rfl | (rw [if_neg (by omega)]; done) | (rw [if_pos (by omega)]; done) | (rw [if_neg (by omega)]; with_reducible rfl) | (rw [if_pos (by omega)]; with_reducible rfl)
                try simp only [List.getElem_toArray, List.getElem_cons_zero, List.getElem_cons_succ, Act.put, List.setIfInBounds_toArray, List.set_cons_zero, List.set_cons_succ]
                refine wpAnyH_take (i := 7) (v := undef) rfl (by kernel_rfl) (by kernel_rfl) (by kernel_rfl) (fun _ _ _ h => h) (Or.inr ⟨by rfl, rfl⟩) (by assumption) ?_
                try simp only [List.getElem_toArray, List.getElem_cons_zero, List.getElem_cons_succ, Act.put, List.setIfInBounds_toArray, List.set_cons_zero, List.set_cons_succ]
                refine wpAnyH_take (i := 8) (v := undef) rfl (by kernel_rfl) (by kernel_rfl) (by kernel_rfl) (fun _ _ _ h => h) (Or.inr ⟨by rfl, rfl⟩) (by assumption) ?_
                try simp only [List.getElem_toArray, List.getElem_cons_zero, List.getElem_cons_succ, Act.put, List.setIfInBounds_toArray, List.set_cons_zero, List.set_cons_succ]
                refine wpAnyH_take (i := 9) (v := undef) rfl (by kernel_rfl) (by kernel_rfl) (by kernel_rfl) (fun _ _ _ h => h) (Or.inr ⟨by rfl, rfl⟩) (by assumption) ?_
                try simp only [List.getElem_toArray, List.getElem_cons_zero, List.getElem_cons_succ, Act.put, List.setIfInBounds_toArray, List.set_cons_zero, List.set_cons_succ]
                refine wpAnyH_take (i := 10) (v := undef) rfl (by kernel_rfl) (by kernel_rfl) (by kernel_rfl) (fun _ _ _ h => h) (Or.inr ⟨by rfl, rfl⟩) (by assumption) ?_
                try simp only [List.getElem_toArray, List.getElem_cons_zero, List.getElem_cons_succ, Act.put, List.setIfInBounds_toArray, List.set_cons_zero, List.set_cons_succ]
                refine wpAnyH_take (i := 11) (v := undef) rfl (by kernel_rfl) (by kernel_rfl) (by kernel_rfl) (fun _ _ _ h => h) (Or.inr ⟨by rfl, rfl⟩) (by assumption) ?_
                try simp only [List.getElem_toArray, List.getElem_cons_zero, List.getElem_cons_succ, Act.put, List.setIfInBounds_toArray, List.set_cons_zero, List.set_cons_succ]
                refine wpAnyH_take (i := 12) (v := undef) rfl (by kernel_rfl) (by kernel_rfl) (by kernel_rfl) (fun _ _ _ h => h) (Or.inr ⟨by rfl, rfl⟩) (by assumption) ?_
                try simp only [List.getElem_toArray, List.getElem_cons_zero, List.getElem_cons_succ, Act.put, List.setIfInBounds_toArray, List.set_cons_zero, List.set_cons_succ]
                refine wpAnyH_take (i := 13) (v := undef) rfl (by kernel_rfl) (by kernel_rfl) (by kernel_rfl) (fun _ _ _ h => h) (Or.inr ⟨by rfl, rfl⟩) (by assumption) ?_
                try simp only [List.getElem_toArray, List.getElem_cons_zero, List.getElem_cons_succ, Act.put, List.setIfInBounds_toArray, List.set_cons_zero, List.set_cons_succ]
                refine wpAnyH_take (i := 14) (v := undef) rfl (by kernel_rfl) (by kernel_rfl) (by kernel_rfl) (fun _ _ _ h => h) (Or.inr ⟨by rfl, rfl⟩) (by assumption) ?_
                try simp only [List.getElem_toArray, List.getElem_cons_zero, List.getElem_cons_succ, Act.put, List.setIfInBounds_toArray, List.set_cons_zero, List.set_cons_succ]
                refine wpAnyH_take (i := 15) (v := undef) rfl (by kernel_rfl) (by kernel_rfl) (by kernel_rfl) (fun _ _ _ h => h) (Or.inr ⟨by rfl, rfl⟩) (by assumption) ?_
                try simp only [List.getElem_toArray, List.getElem_cons_zero, List.getElem_cons_succ, Act.put, List.setIfInBounds_toArray, List.set_cons_zero, List.set_cons_succ]
                refine wpAnyH_take (i := 16) (v := undef) rfl (by kernel_rfl) (by kernel_rfl) (by kernel_rfl) (fun _ _ _ h => h) (Or.inr ⟨by rfl, rfl⟩) (by assumption) ?_
                try simp only [List.getElem_toArray, List.getElem_cons_zero, List.getElem_cons_succ, Act.put, List.setIfInBounds_toArray, List.set_cons_zero, List.set_cons_succ]
                refine wpAnyH_take (i := 17) (v := ?_) rfl (by kernel_rfl) (by kernel_rfl) (by kernel_rfl) (fun _ _ _ h => h) (Or.inl ⟨by rfl, ?_⟩) (by assumption) ?_
                rotate_left 1
                · intro w' hSw
                  go_simp
                  all_goals first | with_reducible rfl | (rw [if_neg (by omega)]; done) | (rw [if_pos (by omega)]; done) | (rw [if_neg (by omega)]; with_reducible rfl) | (rw [if_pos (by omega)]; with_reducible rfl)
                try simp only [List.getElem_toArray, List.getElem_cons_zero, List.getElem_cons_succ, Act.put, List.setIfInBounds_toArray, List.set_cons_zero, List.set_cons_succ]
                refine wpAnyH_done (by kernel_rfl) ?_ _
                refine NoPanic.normal ?_
                obtain ⟨wy, hwy⟩ : ∃ W, wx.drew = W := ⟨_, rfl⟩
                rw [hwy]
                have TD : Turn (fun _ => False) wx wy := hwy ▸ T0.out
                have LPy := Lib.hid (LP.out.still TD)
                have HPXy : Hid (Px wy (.slice A3 n3 c3) PL) := Lib.hid (HPX.out.still TD)
                clear TD T0 HRB HMKq LP HPX hwy
                have LP := LPy
                have HPX := HPXy
                clear LPy HPXy
                clear e0 e1 e2
                obtain ⟨wx, rfl⟩ : ∃ W, W = wy := ⟨_, rfl⟩
                obtain ⟨h6, m0, m1, m2⟩ := ls_cells LP.out wx (Turn.refl _ _)
                have hmbs : mb < wx.heap.size := LP.out.2.1.lt
                have hsw1 : ∀ k, Sw q vk g k → k < wx.heap.size := by obtain ⟨M, Md, hst, _⟩ := LP.out.1; exact hst.sp.below
                obtain ⟨⟨e0, e1, e2⟩, _⟩ := HCC.out wx h6
                have HSTEP0 := ls_step ak ta aL LP.out (by have := HNX.out; omega) hln (by have := HNX.out; omega) HFW.out (fun X hX => (HCC.out X hX).2) (q2_keep (fun h => absurd h hk1))
                rw [← HNX.out.1] at HSTEP0
                have HSTEP := Lib.hid HSTEP0
                have HBX : Hid (∀ X, Turn (Sw q vk g) wx X → X.cell? ⟨mb, 0, none⟩ = some (.slice AM lM cM) ∧ X.cell? ⟨mb, 1, none⟩ = some (.int .i64 last) ∧ X.cell? ⟨mb, 2, none⟩ = some (.int .i64 mark) ∧ X.cell? ⟨b, o + j * 3, none⟩ = some (.int .i64 ak) ∧ X.cell? ⟨b, o + j * 3 + 1, none⟩ = some (.int .i64 ta) ∧ X.cell? ⟨b, o + j * 3 + 2, none⟩ = some (.slice LA ln lc)) := Lib.hid (fun X hX => by
                  obtain ⟨h1, d0, d1, d2⟩ := ls_cells LP.out X hX
                  obtain ⟨⟨d3, d4, d5⟩, _⟩ := HCC.out X h1
                  exact ⟨d0, d1, d2, d3, d4, d5⟩)
                clear HSTEP0 h6
                go_wp2_with fail
                have T0 : Hid (Turn (Sw q vk g) wx wx.drew) := Lib.hid (Turn.refl _ _).drew
                refine wp_region_noPanic ?_
                refine wp_region_held_drew (S := (fun X => Turn (Sw q vk g) wx X)) (by kernel_rfl) T0.out (fun hHeld => ?_)
                clear hHeld
                refine wpAnyH_take (i := 0) (v := ?_) rfl (by kernel_rfl) (by kernel_rfl) (by kernel_rfl) (fun _ _ _ h => h) (Or.inl ⟨by rfl, ?_⟩) (by assumption) ?_
                rotate_left 1
                · intro w' hSw
                  go_simp
                  all_goals first | with_reducible rfl | (rw [if_neg (by omega)]; done) | (rw [if_pos (by omega)]; done) | (rw [if_neg (by omega)]; with_reducible rfl) | (rw [if_pos (by omega)]; with_reducible rfl)
                try simp only [List.getElem_toArray, List.getElem_cons_zero, List.getElem_cons_succ, Act.put, List.setIfInBounds_toArray, List.set_cons_zero, List.set_cons_succ]
                refine wpAnyH_take (i := 1) (v := ?_) rfl (by kernel_rfl) (by kernel_rfl) (by kernel_rfl) (fun _ _ _ h => h) (Or.inl ⟨by rfl, ?_⟩) (by assumption) ?_
                rotate_left 1
                · intro w' hSw
                  obtain ⟨y0, y1, y2, y3, y4, y5⟩ := HBX.out _ hSw
                  go_simp
                  all_goals first | with_reducible rfl | (rw [if_neg (by omega)]; done) | (rw [if_pos (by omega)]; done) | (rw [if_neg (by omega)]; with_reducible rfl) | (rw [if_pos (by omega)]; with_reducible rfl)
                try simp only [List.getElem_toArray, List.getElem_cons_zero, List.getElem_cons_succ, Act.put, List.setIfInBounds_toArray, List.set_cons_zero, List.set_cons_succ]
                refine wpAnyH_take (i := 2) (v := ?_) rfl (by kernel_rfl) (by kernel_rfl) (by kernel_rfl) (fun _ _ _ h => h) (Or.inl ⟨by rfl, ?_⟩) (by assumption) ?_
                rotate_left 1
                · intro w' hSw
                  go_simp
                  all_goals first | with_reducible rfl | (rw [if_neg (by omega)]; done) | (rw [if_pos (by omega)]; done) | (rw [if_neg (by omega)]; with_reducible rfl) | (rw [if_pos (by omega)]; with_reducible rfl)
                try simp only [List.getElem_toArray, List.getElem_cons_zero, List.getElem_cons_succ, Act.put, List.setIfInBounds_toArray, List.set_cons_zero, List.set_cons_succ]
                refine wpAnyH_take (i := 3) (v := ?_) rfl (by kernel_rfl) (by kernel_rfl) (by kernel_rfl) (fun _ _ _ h => h) (Or.inl ⟨by rfl, ?_⟩) (by assumption) ?_
                rotate_left 1
                · intro w' hSw
                  go_simp
                  all_goals first | with_reducible rfl | (rw [if_neg (by omega)]; done) | (rw [if_pos (by omega)]; done) | (rw [if_neg (by omega)]; with_reducible rfl) | (rw [if_pos (by omega)]; with_reducible rfl)
                try simp only [List.getElem_toArray, List.getElem_cons_zero, List.getElem_cons_succ, Act.put, List.setIfInBounds_toArray, List.set_cons_zero, List.set_cons_succ]
                refine wpAnyH_take (i := 4) (v := ?_) rfl (by kernel_rfl) (by kernel_rfl) (by kernel_rfl) (fun _ _ _ h => h) (Or.inl ⟨by rfl, ?_⟩) (by assumption) ?_
                rotate_left 1
                · intro w' hSw
                  go_simp
                  all_goals first | with_reducible rfl | (rw [if_neg (by omega)]; done) | (rw [if_pos (by omega)]; done) | (rw [if_neg (by omega)]; with_reducible rfl) | (rw [if_pos (by omega)]; with_reducible rfl)
                try simp only [List.getElem_toArray, List.getElem_cons_zero, List.getElem_cons_succ, Act.put, List.setIfInBounds_toArray, List.set_cons_zero, List.set_cons_succ]
                refine wpAnyH_take (i := 5) (v := ?_) rfl (by kernel_rfl) (by kernel_rfl) (by kernel_rfl) (fun _ _ _ h => h) (Or.inl ⟨by rfl, ?_⟩) (by assumption) ?_
                rotate_left 1
                · intro w' hSw
                  obtain ⟨y0, y1, y2, y3, y4, y5⟩ := HBX.out _ hSw
                  go_simp
                  all_goals first | with_reducible rfl | (rw [if_neg (by omega)]; done) | (rw [if_pos (by omega)]; done) | (rw [if_neg (by omega)]; with_reducible rfl) | (rw [if_pos (by omega)]; with_reducible rfl)
                try simp only [List.getElem_toArray, List.getElem_cons_zero, List.getElem_cons_succ, Act.put, List.setIfInBounds_toArray, List.set_cons_zero, List.set_cons_succ]
                refine wpAnyH_ready (rs := [6, 11]) (by kernel_rfl) (by simp) ?_
                refine AllReadyH.cons rfl (fun K hK => ?_) (AllReadyH.cons rfl (fun K hK => ?_) AllReadyH.nil)
                · refine step_call rfl 21 Try.f21 _ _ rfl Try.func21 (by kernel_rfl) (by kernel_rfl) _ _ (HSTEP.out _ (Turn.refl _ _).drew) (by go_simp) ?_
                  rintro v8 w8 ⟨q2, vk2, g2, la2, mk2, A2, n2, c2, rfl, hst8, hsw8, ht8⟩
                  have ST8 := Lib.hid hst8
                  have T8 : Hid (Turn (Sw q vk g) wx w8) := Lib.hid (((Turn.refl _ _).drew).trans ht8)
                  have F8 : Hid (∀ k, Sw q2 vk2 g2 k → Sw q vk g k ∨ wx.heap.size ≤ k) := Lib.hid hsw8
                  clear hst8 hsw8 ht8
                  refine hK.out _ _ T8.out (fun hHeld => ?_)
                  clear hHeld hK K
                  try simp only [List.getElem_toArray, List.getElem_cons_zero, List.getElem_cons_succ, Act.put, List.setIfInBounds_toArray, List.set_cons_zero, List.set_cons_succ]
                  refine wpAnyH_take (i := 7) (v := ?_) rfl (by kernel_rfl) (by kernel_rfl) (by kernel_rfl) (fun _ _ _ h => h) (Or.inl ⟨by rfl, ?_⟩) (by assumption) ?_
                  rotate_left 1
                  · intro w' hSw
                    go_simp
                    all_goals first | with_reducible rfl | (rw [if_neg (by omega)]; done) | (rw [if_pos (by omega)]; done) | (rw [if_neg (by omega)]; with_reducible rfl) | (rw [if_pos (by omega)]; with_reducible rfl)
                  try simp only [List.getElem_toArray, List.getElem_cons_zero, List.getElem_cons_succ, Act.put, List.setIfInBounds_toArray, List.set_cons_zero, List.set_cons_succ]
                  refine wpAnyH_take (i := 8) (v := ?_) rfl (by kernel_rfl) (by kernel_rfl) (by kernel_rfl) (fun _ _ _ h => h) (Or.inl ⟨by rfl, ?_⟩) (by assumption) ?_
                  rotate_left 1
                  · intro w' hSw
                    go_simp
                    all_goals first | with_reducible rfl | (rw [if_neg (by omega)]; done) | (rw [if_pos (by omega)]; done) | (rw [if_neg (by omega)]; with_reducible rfl) | (rw [if_pos (by omega)]; with_reducible rfl)
                  try simp only [List.getElem_toArray, List.getElem_cons_zero, List.getElem_cons_succ, Act.put, List.setIfInBounds_toArray, List.set_cons_zero, List.set_cons_succ]
                  refine wpAnyH_take (i := 9) (v := ?_) rfl (by kernel_rfl) (by kernel_rfl) (by kernel_rfl) (fun _ _ _ h => h) (Or.inl ⟨by rfl, ?_⟩) (by assumption) ?_
                  rotate_left 1
                  · intro w' hSw
                    go_simp
                    all_goals first | with_reducible rfl | (rw [if_neg (by omega)]; done) | (rw [if_pos (by omega)]; done) | (rw [if_neg (by omega)]; with_reducible rfl) | (rw [if_pos (by omega)]; with_reducible rfl)
                  try simp only [List.getElem_toArray, List.getElem_cons_zero, List.getElem_cons_succ, Act.put, List.setIfInBounds_toArray, List.set_cons_zero, List.set_cons_succ]
                  refine wpAnyH_take (i := 10) (v := ?_) rfl (by kernel_rfl) (by kernel_rfl) (by kernel_rfl) (fun _ _ _ h => h) (Or.inl ⟨by rfl, ?_⟩) (by assumption) ?_
                  rotate_left 1
                  · intro w' hSw
                    go_simp
                    all_goals first | with_reducible rfl | (rw [if_neg (by omega)]; done) | (rw [if_pos (by omega)]; done) | (rw [if_neg (by omega)]; with_reducible rfl) | (rw [if_pos (by omega)]; with_reducible rfl)
                  try simp only [List.getElem_toArray, List.getElem_cons_zero, List.getElem_cons_succ, Act.put, List.setIfInBounds_toArray, List.set_cons_zero, List.set_cons_succ]
                  refine wpAnyH_ready (rs := [11]) (by kernel_rfl) (by simp) ?_
                  refine AllReadyH.cons rfl (fun K hK => ?_) AllReadyH.nil
                  go_simp
                  obtain ⟨bx, hbx⟩ : ∃ bx, w8.heap.size = bx := ⟨_, rfl⟩
                  have HBXS : Hid (wx.heap.size ≤ bx) := Lib.hid (by have := T8.out.size; omega)
                  have NB : Hid (∀ k, Sw q2 vk2 g2 k → k ≠ bx) := Lib.hid (fun k hk e => by
                    obtain ⟨M, Md, hst, _⟩ := ST8.out
                    have := hst.sp.below k hk
                    omega)
                  obtain ⟨W8, hW8⟩ : ∃ W, w8.alloc (.cells #[.slice none 0 0, .int .i64 0, .int .i64 0] 32) = W := ⟨_, rfl⟩
                  have BB : Hid (Blk W8 bx 32 [.slice none 0 0, .int .i64 0, .int .i64 0]) := Lib.hid (hW8 ▸ Blk.new_ _ _ _ hbx)
                  have T8' : Hid (Turn (Sw q vk g) wx W8) := Lib.hid (hW8 ▸ T8.out.alloc _)
                  have ST8' : Hid (∃ M Md, St14 W8 q2 vk2 g2 M la2 mk2 (.slice A2 n2 c2) Md (cn14 ls + cn14 (ms.take (j + 1))) ∧ Q2 I0 t la2 mk2 (M.map (fun p : Itm × Value => p.1))) := Lib.hid (by
                    obtain ⟨M, Md, hst, hqq⟩ := ST8.out
                    exact ⟨M, Md, hW8 ▸ hst.still ((Turn.refl _ _).alloc _), hqq⟩)
                  clear T8 ST8
                  have T8 := T8'
                  have ST8 := ST8'
                  clear T8' ST8'
                  rw [hbx, hW8]
                  clear hbx hW8 w8
                  obtain ⟨w8, rfl⟩ : ∃ W, W = W8 := ⟨_, rfl⟩
                  refine hK.out _ _ T8.out (fun hHeld => ?_)
                  clear hHeld hK K
                  try simp only [List.getElem_toArray, List.getElem_cons_zero, List.getElem_cons_succ, Act.put, List.setIfInBounds_toArray, List.set_cons_zero, List.set_cons_succ]
                  refine wpAnyH_take (i := 12) (v := ?_) rfl (by kernel_rfl) (by kernel_rfl) (by kernel_rfl) (fun _ _ _ h => h) (Or.inl ⟨by rfl, ?_⟩) (by assumption) ?_
                  rotate_left 1
                  · intro w' hSw
                    go_simp
                    all_goals first | with_reducible rfl | (rw [if_neg (by omega)]; done) | (rw [if_pos (by omega)]; done) | (rw [if_neg (by omega)]; with_reducible rfl) | (rw [if_pos (by omega)]; with_reducible rfl)
                  try simp only [List.getElem_toArray, List.getElem_cons_zero, List.getElem_cons_succ, Act.put, List.setIfInBounds_toArray, List.set_cons_zero, List.set_cons_succ]
                  refine wpAnyH_ready (rs := [13]) (by kernel_rfl) (by simp) ?_
                  refine AllReadyH.cons rfl (fun K hK => ?_) AllReadyH.nil
                  obtain ⟨r0, r1, r2, r3, r4, r5⟩ := cells3 BB.out
                  have HF := Lib.hid (box3 BB.out (.slice A2 n2 c2) (.int .i64 la2) (.int .i64 mk2))
                  go_simp
                  have TS9 := Lib.hid (T8.out.trans_new HF.out.2.1 (fun k hk e => by have := HBXS.out; omega))
                  refine hK.out _ _ TS9.out (fun hHeld => ?_)
                  clear hHeld hK K
                  try simp only [List.getElem_toArray, List.getElem_cons_zero, List.getElem_cons_succ, Act.put, List.setIfInBounds_toArray, List.set_cons_zero, List.set_cons_succ]
                  refine wpAnyH_take (i := 14) (v := ?_) rfl (by kernel_rfl) (by kernel_rfl) (by kernel_rfl) (fun _ _ _ h => h) (Or.inl ⟨by rfl, ?_⟩) (by assumption) ?_
                  rotate_left 1
                  · intro w' hSw
                    go_simp
                    all_goals first | with_reducible rfl | (rw [if_neg (by omega)]; done) | (rw [if_pos (by omega)]; done) | (rw [if_neg (by omega)]; with_reducible rfl) | (rw [if_pos (by omega)]; with_reducible rfl)
                  try simp only [List.getElem_toArray, List.getElem_cons_zero, List.getElem_cons_succ, Act.put, List.setIfInBounds_toArray, List.set_cons_zero, List.set_cons_succ]
                  refine wpAnyH_done (by kernel_rfl) ?_ _
                  refine NoPanic.normal ?_
                  obtain ⟨CZ, TS, k0, k1, k2⟩ := HF.out
                  obtain ⟨W9, hW9⟩ : ∃ W, ((w8.setCell ⟨bx, 0, none⟩ (.slice A2 n2 c2)).setCell ⟨bx, 1, none⟩ (.int .i64 la2)).setCell ⟨bx, 2, none⟩ (.int .i64 mk2) = W := ⟨_, rfl⟩
                  rw [hW9] at CZ TS k0 k1 k2 ⊢
                  have B9 := Lib.hid CZ
                  have T9 : Hid (Turn (Sw q vk g) wx W9) := Lib.hid (T8.out.trans_new TS (fun k hk e => by have := HBXS.out; omega))
                  have ST9 : Hid (∃ M Md, St14 W9 q2 vk2 g2 M la2 mk2 (.slice A2 n2 c2) Md (cn14 ls + cn14 (ms.take (j + 1))) ∧ Q2 I0 t la2 mk2 (M.map (fun p : Itm × Value => p.1))) := Lib.hid (by
                    obtain ⟨M, Md, hst, hqq⟩ := ST8.out
                    exact ⟨M, Md, hst.box BB.out (by simp) NB.out TS, hqq⟩)
                  clear CZ TS hW9 HF BB TS9 e0 e1 e2 m0 m1 m2
                  go_wp2_with fail
                  have BM : Hid (Blk W9 mb 32 [.slice AM lM cM, .int .i64 last, .int .i64 mark]) := Lib.hid (LP.out.2.1.turn T9.out (fun h => (LP.out.2.2.1 _ h).2.1 rfl))
                  have HBM : Hid (∀ X, Turn (fun k => k = mb) W9 X → X.cell? ⟨bx, 0, none⟩ = some (.slice A2 n2 c2) ∧ X.cell? ⟨bx, 1, none⟩ = some (.int .i64 la2) ∧ X.cell? ⟨bx, 2, none⟩ = some (.int .i64 mk2)) := Lib.hid (fun X hX => by
                    have b := B9.out.turn hX (fun e => by have := HBXS.out; omega)
                    exact ⟨b.cell 0, b.cell 1, b.cell 2⟩)
                  have HEND := Lib.hid (ls_end LP.out ⟨_, _, _, rfl⟩ T9.out ST9.out F8.out)
                  clear HSTEP HBX T8 F8 NB ST8
                  have T0 : Hid (Turn (fun k => k = mb) W9 W9.drew) := Lib.hid (Turn.refl _ _).drew
                  refine wp_region_noPanic ?_
                  refine wp_region_held_drew (S := (fun X => Turn (fun k => k = mb) W9 X)) (by kernel_rfl) T0.out (fun hHeld => ?_)
                  clear hHeld
                  refine wpAnyH_take (i := 0) (v := ?_) rfl (by kernel_rfl) (by kernel_rfl) (by kernel_rfl) (fun _ _ _ h => h) (Or.inl ⟨by rfl, ?_⟩) (by assumption) ?_
                  rotate_left 1
                  · intro w' hSw
                    go_simp
                    all_goals first | with_reducible rfl | (rw [if_neg (by omega)]; done) | (rw [if_pos (by omega)]; done) | (rw [if_neg (by omega)]; with_reducible rfl) | (rw [if_pos (by omega)]; with_reducible rfl)
                  try simp only [List.getElem_toArray, List.getElem_cons_zero, List.getElem_cons_succ, Act.put, List.setIfInBounds_toArray, List.set_cons_zero, List.set_cons_succ]
                  refine wpAnyH_take (i := 1) (v := ?_) rfl (by kernel_rfl) (by kernel_rfl) (by kernel_rfl) (fun _ _ _ h => h) (Or.inl ⟨by rfl, ?_⟩) (by assumption) ?_
                  rotate_left 1
                  · intro w' hSw
                    obtain ⟨y0, y1, y2⟩ := HBM.out _ hSw
                    go_simp
                    all_goals first | with_reducible rfl | (rw [if_neg (by omega)]; done) | (rw [if_pos (by omega)]; done) | (rw [if_neg (by omega)]; with_reducible rfl) | (rw [if_pos (by omega)]; with_reducible rfl)
                  try simp only [List.getElem_toArray, List.getElem_cons_zero, List.getElem_cons_succ, Act.put, List.setIfInBounds_toArray, List.set_cons_zero, List.set_cons_succ]
                  refine wpAnyH_take (i := 2) (v := ?_) rfl (by kernel_rfl) (by kernel_rfl) (by kernel_rfl) (fun _ _ _ h => h) (Or.inl ⟨by rfl, ?_⟩) (by assumption) ?_
                  rotate_left 1
                  · intro w' hSw
                    go_simp
                    all_goals first | with_reducible rfl | (rw [if_neg (by omega)]; done) | (rw [if_pos (by omega)]; done) | (rw [if_neg (by omega)]; with_reducible rfl) | (rw [if_pos (by omega)]; with_reducible rfl)
                  try simp only [List.getElem_toArray, List.getElem_cons_zero, List.getElem_cons_succ, Act.put, List.setIfInBounds_toArray, List.set_cons_zero, List.set_cons_succ]
                  refine wpAnyH_ready (rs := [3]) (by kernel_rfl) (by simp) ?_
                  refine AllReadyH.cons rfl (fun K hK => ?_) AllReadyH.nil
                  obtain ⟨r0, r1, r2, r3, r4, r5⟩ := cells3 BM.out
                  have HG := Lib.hid (box3 BM.out (.slice A2 n2 c2) (.int .i64 la2) (.int .i64 mk2))
                  go_simp
                  have TG : Hid (Turn (fun k => k = mb) W9 _) := Lib.hid (HG.out.2.1).drew
                  refine hK.out _ _ TG.out (fun hHeld => ?_)
                  clear hHeld hK K
                  try simp only [List.getElem_toArray, List.getElem_cons_zero, List.getElem_cons_succ, Act.put, List.setIfInBounds_toArray, List.set_cons_zero, List.set_cons_succ]
                  refine wpAnyH_done (by kernel_rfl) ?_ _
                  refine NoPanic.normal ?_
                  go_wp2_with fail
                  go_roundw
                  case rel => exact ⟨j + 1, q2, vk2, g2, la2, mk2, A2, n2, c2, by omega, rfl, by simp [hq], (HEND.out _ TG.out HG.out.1), Lib.hid (ls_px LP.out ⟨_, _, _, rfl⟩ HPX.out T9.out TG.out)⟩
                  case measure => simp [intOf, hq]; omega
                · go_simp
                  have T11F : Hid (Turn (fun _ => False) wx (wx.drew.alloc (.cells #[.slice none 0 0, .int .i64 0, .int .i64 0] 32))) := Lib.hid ((Turn.refl _ _).drew.alloc _)
                  have T11 : Hid (Turn (Sw q vk g) wx (wx.drew.alloc (.cells #[.slice none 0 0, .int .i64 0, .int .i64 0] 32))) := Lib.hid (T11F.out.mono (fun k _ h => h.elim))
                  refine hK.out _ _ T11.out (fun hHeld => ?_)
                  clear hHeld hK K
                  try simp only [List.getElem_toArray, List.getElem_cons_zero, List.getElem_cons_succ, Act.put, List.setIfInBounds_toArray, List.set_cons_zero, List.set_cons_succ]
                  refine wpAnyH_ready (rs := [6]) (by kernel_rfl) (by simp) ?_
                  refine AllReadyH.cons rfl (fun K hK => ?_) AllReadyH.nil
                  refine step_call rfl 21 Try.f21 _ _ rfl Try.func21 (by kernel_rfl) (by kernel_rfl) _ _ (HSTEP.out _ T11F.out) (by go_simp) ?_
                  rintro v8 w8 ⟨q2, vk2, g2, la2, mk2, A2, n2, c2, rfl, hst8, hsw8, ht8⟩
                  have ST8 := Lib.hid hst8
                  have T8 : Hid (Turn (Sw q vk g) wx w8) := Lib.hid ((T11F.out.mono (fun k _ h => h.elim)).trans ht8)
                  have F8 : Hid (∀ k, Sw q2 vk2 g2 k → Sw q vk g k ∨ wx.heap.size ≤ k) := Lib.hid (fun k hk => (hsw8 k hk).imp id (fun h => Nat.le_trans T11F.out.size h))
                  obtain ⟨bx, hbx⟩ : ∃ bx, wx.heap.size = bx := ⟨_, rfl⟩
                  have HBXS : Hid (wx.heap.size ≤ bx) := Lib.hid (by omega)
                  have BB : Hid (Blk w8 bx 32 [.slice none 0 0, .int .i64 0, .int .i64 0]) := Lib.hid ((Blk.new_ wx.drew 32 [.slice none 0 0, .int .i64 0, .int .i64 0] hbx).turn ht8 (fun h => by have := hsw1 _ h; omega))
                  have NB : Hid (∀ k, Sw q2 vk2 g2 k → k ≠ bx) := Lib.hid (fun k hk e => by
                    rcases hsw8 k hk with h | h
                    · have := hsw1 _ h; omega
                    · have h7 : wx.heap.size + 1 ≤ k := Nat.le_trans (Nat.le_of_eq (World.size_alloc wx.drew (.cells #[.slice none 0 0, .int .i64 0, .int .i64 0] 32)).symm) h
                      omega)
                  rw [hbx]
                  clear hst8 hsw8 ht8 hbx
                  refine hK.out _ _ T8.out (fun hHeld => ?_)
                  clear hHeld hK K
                  try simp only [List.getElem_toArray, List.getElem_cons_zero, List.getElem_cons_succ, Act.put, List.setIfInBounds_toArray, List.set_cons_zero, List.set_cons_succ]
                  refine wpAnyH_take (i := 7) (v := ?_) rfl (by kernel_rfl) (by kernel_rfl) (by kernel_rfl) (fun _ _ _ h => h) (Or.inl ⟨by rfl, ?_⟩) (by assumption) ?_
                  rotate_left 1
                  · intro w' hSw
                    go_simp
                    all_goals first | with_reducible rfl | (rw [if_neg (by omega)]; done) | (rw [if_pos (by omega)]; done) | (rw [if_neg (by omega)]; with_reducible rfl) | (rw [if_pos (by omega)]; with_reducible rfl)
                  try simp only [List.getElem_toArray, List.getElem_cons_zero, List.getElem_cons_succ, Act.put, List.setIfInBounds_toArray, List.set_cons_zero, List.set_cons_succ]
                  refine wpAnyH_take (i := 8) (v := ?_) rfl (by kernel_rfl) (by kernel_rfl) (by kernel_rfl) (fun _ _ _ h => h) (Or.inl ⟨by rfl, ?_⟩) (by assumption) ?_
                  rotate_left 1
                  · intro w' hSw
                    go_simp
                    all_goals first | with_reducible rfl | (rw [if_neg (by omega)]; done) | (rw [if_pos (by omega)]; done) | (rw [if_neg (by omega)]; with_reducible rfl) | (rw [if_pos (by omega)]; with_reducible rfl)
                  try simp only [List.getElem_toArray, List.getElem_cons_zero, List.getElem_cons_succ, Act.put, List.setIfInBounds_toArray, List.set_cons_zero, List.set_cons_succ]
                  refine wpAnyH_take (i := 9) (v := ?_) rfl (by kernel_rfl) (by kernel_rfl) (by kernel_rfl) (fun _ _ _ h => h) (Or.inl ⟨by rfl, ?_⟩) (by assumption) ?_
                  rotate_left 1
                  · intro w' hSw
                    go_simp
                    all_goals first | with_reducible rfl | (rw [if_neg (by omega)]; done) | (rw [if_pos (by omega)]; done) | (rw [if_neg (by omega)]; with_reducible rfl) | (rw [if_pos (by omega)]; with_reducible rfl)
                  try simp only [List.getElem_toArray, List.getElem_cons_zero, List.getElem_cons_succ, Act.put, List.setIfInBounds_toArray, List.set_cons_zero, List.set_cons_succ]
                  refine wpAnyH_take (i := 10) (v := ?_) rfl (by kernel_rfl) (by kernel_rfl) (by kernel_rfl) (fun _ _ _ h => h) (Or.inl ⟨by rfl, ?_⟩) (by assumption) ?_
                  rotate_left 1
                  · intro w' hSw
                    go_simp
                    all_goals first | with_reducible rfl | (rw [if_neg (by omega)]; done) | (rw [if_pos (by omega)]; done) | (rw [if_neg (by omega)]; with_reducible rfl) | (rw [if_pos (by omega)]; with_reducible rfl)
                  try simp only [List.getElem_toArray, List.getElem_cons_zero, List.getElem_cons_succ, Act.put, List.setIfInBounds_toArray, List.set_cons_zero, List.set_cons_succ]
                  refine wpAnyH_take (i := 12) (v := ?_) rfl (by kernel_rfl) (by kernel_rfl) (by kernel_rfl) (fun _ _ _ h => h) (Or.inl ⟨by rfl, ?_⟩) (by assumption) ?_
                  rotate_left 1
                  · intro w' hSw
                    go_simp
                    all_goals first | with_reducible rfl | (rw [if_neg (by omega)]; done) | (rw [if_pos (by omega)]; done) | (rw [if_neg (by omega)]; with_reducible rfl) | (rw [if_pos (by omega)]; with_reducible rfl)
                  try simp only [List.getElem_toArray, List.getElem_cons_zero, List.getElem_cons_succ, Act.put, List.setIfInBounds_toArray, List.set_cons_zero, List.set_cons_succ]
                  refine wpAnyH_ready (rs := [13]) (by kernel_rfl) (by simp) ?_
                  refine AllReadyH.cons rfl (fun K hK => ?_) AllReadyH.nil
                  obtain ⟨r0, r1, r2, r3, r4, r5⟩ := cells3 BB.out
                  have HF := Lib.hid (box3 BB.out (.slice A2 n2 c2) (.int .i64 la2) (.int .i64 mk2))
                  go_simp
                  have TS9 := Lib.hid (T8.out.trans_new HF.out.2.1 (fun k hk e => by have := HBXS.out; omega))
                  refine hK.out _ _ TS9.out (fun hHeld => ?_)
                  clear hHeld hK K
                  try simp only [List.getElem_toArray, List.getElem_cons_zero, List.getElem_cons_succ, Act.put, List.setIfInBounds_toArray, List.set_cons_zero, List.set_cons_succ]
                  refine wpAnyH_take (i := 14) (v := ?_) rfl (by kernel_rfl) (by kernel_rfl) (by kernel_rfl) (fun _ _ _ h => h) (Or.inl ⟨by rfl, ?_⟩) (by assumption) ?_
                  rotate_left 1
                  · intro w' hSw
                    go_simp
                    all_goals first | with_reducible rfl | (rw [if_neg (by omega)]; done) | (rw [if_pos (by omega)]; done) | (rw [if_neg (by omega)]; with_reducible rfl) | (rw [if_pos (by omega)]; with_reducible rfl)
                  try simp only [List.getElem_toArray, List.getElem_cons_zero, List.getElem_cons_succ, Act.put, List.setIfInBounds_toArray, List.set_cons_zero, List.set_cons_succ]
                  refine wpAnyH_done (by kernel_rfl) ?_ _
                  refine NoPanic.normal ?_
                  obtain ⟨CZ, TS, k0, k1, k2⟩ := HF.out
                  obtain ⟨W9, hW9⟩ : ∃ W, ((w8.setCell ⟨bx, 0, none⟩ (.slice A2 n2 c2)).setCell ⟨bx, 1, none⟩ (.int .i64 la2)).setCell ⟨bx, 2, none⟩ (.int .i64 mk2) = W := ⟨_, rfl⟩
                  rw [hW9] at CZ TS k0 k1 k2 ⊢
                  have B9 := Lib.hid CZ
                  have T9 : Hid (Turn (Sw q vk g) wx W9) := Lib.hid (T8.out.trans_new TS (fun k hk e => by have := HBXS.out; omega))
                  have ST9 : Hid (∃ M Md, St14 W9 q2 vk2 g2 M la2 mk2 (.slice A2 n2 c2) Md (cn14 ls + cn14 (ms.take (j + 1))) ∧ Q2 I0 t la2 mk2 (M.map (fun p : Itm × Value => p.1))) := Lib.hid (by
                    obtain ⟨M, Md, hst, hqq⟩ := ST8.out
                    exact ⟨M, Md, hst.box BB.out (by simp) NB.out TS, hqq⟩)
                  clear CZ TS hW9 HF BB TS9 e0 e1 e2 m0 m1 m2
                  go_wp2_with fail
                  have BM : Hid (Blk W9 mb 32 [.slice AM lM cM, .int .i64 last, .int .i64 mark]) := Lib.hid (LP.out.2.1.turn T9.out (fun h => (LP.out.2.2.1 _ h).2.1 rfl))
                  have HBM : Hid (∀ X, Turn (fun k => k = mb) W9 X → X.cell? ⟨bx, 0, none⟩ = some (.slice A2 n2 c2) ∧ X.cell? ⟨bx, 1, none⟩ = some (.int .i64 la2) ∧ X.cell? ⟨bx, 2, none⟩ = some (.int .i64 mk2)) := Lib.hid (fun X hX => by
                    have b := B9.out.turn hX (fun e => by have := HBXS.out; omega)
                    exact ⟨b.cell 0, b.cell 1, b.cell 2⟩)
                  have HEND := Lib.hid (ls_end LP.out ⟨_, _, _, rfl⟩ T9.out ST9.out F8.out)
                  clear HSTEP HBX T8 F8 NB ST8
                  have T0 : Hid (Turn (fun k => k = mb) W9 W9.drew) := Lib.hid (Turn.refl _ _).drew
                  refine wp_region_noPanic ?_
                  refine wp_region_held_drew (S := (fun X => Turn (fun k => k = mb) W9 X)) (by kernel_rfl) T0.out (fun hHeld => ?_)
                  clear hHeld
                  refine wpAnyH_take (i := 0) (v := ?_) rfl (by kernel_rfl) (by kernel_rfl) (by kernel_rfl) (fun _ _ _ h => h) (Or.inl ⟨by rfl, ?_⟩) (by assumption) ?_
                  rotate_left 1
                  · intro w' hSw
                    go_simp
                    all_goals first | with_reducible rfl | (rw [if_neg (by omega)]; done) | (rw [if_pos (by omega)]; done) | (rw [if_neg (by omega)]; with_reducible rfl) | (rw [if_pos (by omega)]; with_reducible rfl)
                  try simp only [List.getElem_toArray, List.getElem_cons_zero, List.getElem_cons_succ, Act.put, List.setIfInBounds_toArray, List.set_cons_zero, List.set_cons_succ]
                  refine wpAnyH_take (i := 1) (v := ?_) rfl (by kernel_rfl) (by kernel_rfl) (by kernel_rfl) (fun _ _ _ h => h) (Or.inl ⟨by rfl, ?_⟩) (by assumption) ?_
                  rotate_left 1
                  · intro w' hSw
                    obtain ⟨y0, y1, y2⟩ := HBM.out _ hSw
                    go_simp
                    all_goals first | with_reducible rfl | (rw [if_neg (by omega)]; done) | (rw [if_pos (by omega)]; done) | (rw [if_neg (by omega)]; with_reducible rfl) | (rw [if_pos (by omega)]; with_reducible rfl)
                  try simp only [List.getElem_toArray, List.getElem_cons_zero, List.getElem_cons_succ, Act.put, List.setIfInBounds_toArray, List.set_cons_zero, List.set_cons_succ]
                  refine wpAnyH_take (i := 2) (v := ?_) rfl (by kernel_rfl) (by kernel_rfl) (by kernel_rfl) (fun _ _ _ h => h) (Or.inl ⟨by rfl, ?_⟩) (by assumption) ?_
                  rotate_left 1
                  · intro w' hSw
                    go_simp
                    all_goals first | with_reducible rfl | (rw [if_neg (by omega)]; done) | (rw [if_pos (by omega)]; done) | (rw [if_neg (by omega)]; with_reducible rfl) | (rw [if_pos (by omega)]; with_reducible rfl)
                  try simp only [List.getElem_toArray, List.getElem_cons_zero, List.getElem_cons_succ, Act.put, List.setIfInBounds_toArray, List.set_cons_zero, List.set_cons_succ]
                  refine wpAnyH_ready (rs := [3]) (by kernel_rfl) (by simp) ?_
                  refine AllReadyH.cons rfl (fun K hK => ?_) AllReadyH.nil
                  obtain ⟨r0, r1, r2, r3, r4, r5⟩ := cells3 BM.out
                  have HG := Lib.hid (box3 BM.out (.slice A2 n2 c2) (.int .i64 la2) (.int .i64 mk2))
                  go_simp
                  have TG : Hid (Turn (fun k => k = mb) W9 _) := Lib.hid (HG.out.2.1).drew
                  refine hK.out _ _ TG.out (fun hHeld => ?_)
                  clear hHeld hK K
                  try simp only [List.getElem_toArray, List.getElem_cons_zero, List.getElem_cons_succ, Act.put, List.setIfInBounds_toArray, List.set_cons_zero, List.set_cons_succ]
                  refine wpAnyH_done (by kernel_rfl) ?_ _
                  refine NoPanic.normal ?_
                  go_wp2_with fail
                  go_roundw
                  case rel => exact ⟨j + 1, q2, vk2, g2, la2, mk2, A2, n2, c2, by omega, rfl, by simp [hq], (HEND.out _ TG.out HG.out.1), Lib.hid (ls_px LP.out ⟨_, _, _, rfl⟩ HPX.out T9.out TG.out)⟩
                  case measure => simp [intOf, hq]; omega
            · obtain rfl : j = n2' := by omega
              have HSC := Lib.hid (fun X (hX : Turn (fun _ => False) wx X) => scan_f14 fa fb t (-1) (hst.sp.still hX) BM ha hb)
              have HGT := Lib.hid (fun X (hX : Turn (fun _ => False) wx X) => get_14 fa t (hst.sp.still hX) (fun p hp => (BM.2 p hp).1) (by unfold maxLen; omega))
              obtain ⟨x1, x2, x3, x4⟩ := HGV.out _ hsm M last mark rfl hmt htl
              rw [x3, if_pos rfl, x4] at HSC
              rw [x1, x2] at HGT
              have HSM : Hid (∀ X u, Turn (fun _ => False) wx X → Px X u PL → Calls Try.prog 25 #[.slice A3 n3 c3, u] X fun e w' => e = .returned (.bool true) ∧ Turn (fun _ => False) X w') := Lib.hid (fun X u hX h2 => refSame10 PL _ u X (HPX.out.still hX) h2)
              clear hst BM hrg x1 x2 x3 x4 hsm hmt htl
              go_wp2_with (first
                | (go_at_call 22; refine (HSC.out _ (Turn.refl _ _)).mono ?_; rintro e w5 ⟨A5, n5, c5, rfl, hp5, ht5⟩; have P5 := Lib.hid hp5.1; have T5 := Lib.hid ht5; clear hp5 ht5)
                | (go_at_call 23; refine (HGT.out _ T5.out).mono ?_; rintro e w6 ⟨rfl, ht6⟩; have T6 := Lib.hid (T5.out.trans ht6); have P6 := Lib.hid (P5.out.still ht6); clear ht6)
                | (go_at_call 25; refine (HSM.out _ _ T6.out P6.out).mono ?_; rintro e w7 ⟨rfl, ht7⟩; have T7 := Lib.hid (T6.out.trans ht7); clear ht7)
                | (go_at_call 14; refine (lives_14 _).mono ?_; rintro e w9 ⟨rfl, t9⟩))
              go_ret
              exact ⟨rfl, (h6.trans T7.out).trans t9⟩
      · obtain ⟨ke, hke⟩ : ∃ x, kept14 last mark t = x := ⟨_, rfl⟩
        have HSC := Lib.hid (scan_14e fa fb t (-1) hst.sp hk0)
        have HGT := Lib.hid (fun X (hX : Turn (fun _ => False) wx X) => get_14 fa t (hst.sp.still hX) (fun p hp => (BM.2 p hp).1) (by unfold maxLen; omega))
        have hge : get14 M last mark fa t = (ByteArray.empty, ke) := by unfold get14; rw [if_neg hk0, hke]
        rw [hge] at HGT
        rw [hke] at HSC hk0
        clear hst BM hrg hke hge
        go_wp2_with (first
          | (go_at_call 22; refine HSC.out.mono ?_; rintro e w2 ⟨rfl, ht3⟩; have T3 := Lib.hid ht3; clear ht3)
          | (go_at_call 23; refine (HGT.out _ T3.out).mono ?_; rintro e w4 ⟨rfl, ht4⟩; have T4 := Lib.hid ht4; clear ht4)
          | (go_at_call 14; refine (lives_14 _).mono ?_; rintro e w9 ⟨rfl, t9⟩))
        go_ret
        exact ⟨rfl, ((h6.trans T3.out).trans T4.out).trans t9⟩
end Go.Proofs.Ytobddfpdijmgiaa
